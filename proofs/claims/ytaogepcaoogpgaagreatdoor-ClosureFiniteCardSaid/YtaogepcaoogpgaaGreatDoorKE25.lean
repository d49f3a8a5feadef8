/- WE37 WEB8 WEA6 WEA8 WEB1 WEB2 WEB3 WEB4 WEB6 WED9 -/
import Derived.Test.YtaogepcaoogpgaaGreatDoorTie
import Derived.Test.YtaogepcaoogpgaaGreatDoorCards
import Derived.Deep.DeepHandedRow
import Derived.Test.YtaogepcaoogpgaaGreatDoorKE24
set_option linter.unusedVariables false
set_option linter.unusedSimpArgs false
set_option maxRecDepth 100000
set_option maxHeartbeats 16000000
namespace Go.Proofs.YtaogepcaoogpgaaGreatDoor
open Go.ChangeShapes Go.WideShapes Go.ChangeAt Go.RowKit Go.Lib
theorem own:ownKnob Tryz.prog.godebug=none:=by kernel_rfl
def putCells (cs:Array Value):Obj→Obj
 | .cells _ t frozen => .cells cs t frozen
 | o=>o
mutual
def ztO:DataW Unit→List Value
 | .lit (.int k n)=>[.int k n]
 | .agg parts=>zwj parts
 | _=>[]
def zwj:List (DataW Unit)→List Value
 | []=>[]
 | d::r=>ztO d++zwj r
end
noncomputable def laidWorld (os:Os):World :=
 { World.holding Tryz.prog os ⟨#[],#[],[]⟩ with heap:=((World.holding Tryz.prog os ⟨#[],#[],[]⟩).heap.modify 3 (putCells (ztO Rows.laid_unicode_utf8_first).toArray)).modify 4 (putCells (ztO Rows.laid_unicode_utf8_acceptRanges).toArray) }
theorem zyj {H:Type}{enc:TypeId × Value→H}{P:Program}{f:Func}{s:ChangeSpec}{apart fresh handsOn:Bool}{W W':World}{args:Array Value}{v:Value}{ds gs:List (DataW H)}{before pa pv:List MemPlace}
  (hW:DataW.Whole enc P f.params.toList s.vars apart W args.toList ds gs before)
  (hres:∀ (b:Nat) (sp:Nat→Bool) (hd:Bool),DataW.TrodAll enc P W' b sp hd f.resultTypes.toList (v.resultList f.resultTypes.size) (s.fn H (ds++gs)).results [])
  (hargs:DataW.TrodAll enc P W' 0 (fun b=>decide (b<W.heap.size)) true f.params.toList args.toList (s.fn H (ds++gs)).args pa)
  (hvars:DataW.TrodVars enc P W' (fun b=>decide (b<W.heap.size)) s.vars (s.fn H (ds++gs)).vars pv)
  (hb:Below W.heap.size W W'):s.post enc P f apart fresh handsOn false W args v W' :=
 ⟨ds,gs,before,[],pa,pv,hW,hres _ _ _,hargs,hvars,hb.frame _,fun h=>by cases h⟩
open Go.ChangeShapes Go.WideShapes Go.ChangeAt Go.RowKit Go.Lib
theorem zyk {H:Type}{enc:TypeId × Value→H}{W W':World}{t:TypeId}{v:Value}{d:DataW H}{p:List MemPlace}(hr:Tryz.prog.readableRec t=true)(hrow:t<Tryz.prog.types.size)
  (h:DataW.Trod enc Tryz.prog W 0 (fun _=>true) true t v d p) (hb:Below W.heap.size W W') (hlt:∀ x∈p,x.block<W.heap.size) :
  DataW.Trod enc Tryz.prog W' 0 (fun b=>decide (b<W.heap.size)) true t v d p:=Below.trod (by kernel_rfl) hr hrow h hb hlt
open Go.ChangeShapes Go.WideShapes Go.ChangeAt Go.RowKit Go.Lib Go.Joins
theorem slS7:Tryz.prog.underlying 33=some (.slice 9):=Tryz.underlying33
theorem slM7:Tryz.prog.underlying 22=some (.slice 33):=Tryz.underlying22
theorem zBA:Tryz.prog.cellsOf 33=1:=by kernel_rfl
theorem zqL (a:Addr)(i:Nat):(a.add (i * 1)).add 0=a.add i:=by rw[Nat.mul_one];unfold Addr.add;split <;> simp_all
section
variable {H:Type} {enc:TypeId × Value→H} {w:World}
theorem zBB {fuel:Nat}{cs:List Value}{x:DataW H × List MemPlace}(h:DataW.trod enc Tryz.prog w 0 (fun _=>true) true fuel 33 cs=some x) :
  ∃ (v:Value) (n:Nat) (g:Nat→ByteArray),cs=[v]∧RowR w v n (fun j => .string (g j))∧∀ j,(g j).size≤maxLen:=by
 rcases DataW.trod_slice slS7 h with⟨rfl,rfl⟩|⟨a,len,cap,elems,rest,n,rfl,rfl,rfl,_,hlc,hcm,hel,he,_,_⟩
 ·exact⟨_,0,fun _=>⟨#[]⟩,rfl,⟨none,0,rfl,Nat.le_refl _,by decide,fun j hj=>absurd hj (by omega)⟩,fun _=>by show(⟨#[]⟩:ByteArray).size≤maxLen;decide⟩
 ·have hex:∀ i,∃ s:ByteArray,s.size≤maxLen∧(i<len→a.block<w.heap.size∧w.cell? (a.add i)=some (.string s)):=by
   intro i
   by_cases hi:i<len
   ·have h1:=he i hi
    rw[List.getElem?_eq_getElem (by omega:i<elems.length),zAZ] at h1;obtain⟨cs,hcs,ht⟩:=Option.bind_eq_some_iff.1 h1;obtain⟨s,c0,d0,hs⟩:=DataW.trod_string Tryz.underlying9 ht;refine⟨s,hs,fun _=>⟨?_,?_⟩⟩
    ·have:=World.cells?_block hcs (by omega)
     rwa [zaj] at this
    ·have:=(World.cells?_some hcs).2.2 0 (by omega)
     rw[zqL,c0] at this;exact this
   ·exact⟨⟨#[]⟩,by decide,fun h=>absurd h hi⟩
  exact⟨_,len,fun i=>(hex i).choose,rfl,⟨some a,cap,rfl,hlc,hcm,fun j hj=>⟨a,rfl,((hex j).choose_spec.2 hj).1,((hex j).choose_spec.2 hj).2⟩⟩,fun j=>(hex j).choose_spec.1⟩
theorem zyl {fuel:Nat}{cs:List Value}{x:DataW H × List MemPlace}(h:DataW.trod enc Tryz.prog w 0 (fun _=>true) true fuel 22 cs=some x) :
  ∃ (v:Value) (n:Nat) (ln:Nat→Nat) (G:Nat→Nat→ByteArray),cs=[v]∧MatA w v n ln G∧∀ i j,(G i j).size≤maxLen:=by
 rcases DataW.trod_slice slM7 h with⟨rfl,rfl⟩|⟨a,len,cap,elems,rest,n,rfl,rfl,rfl,_,hlc,hcm,hel,he,_,_⟩
 ·exact⟨_,0,fun _=>0,fun _ _=>⟨#[]⟩,rfl,⟨fun _ => .slice none 0 0,⟨none,0,rfl,Nat.le_refl _,by decide,fun j hj=>absurd hj (by omega)⟩,fun i hi=>absurd hi (by omega)⟩,fun _ _=>by show(⟨#[]⟩:ByteArray).size≤maxLen;decide⟩
 ·have hex:∀ i,∃ r:Value × Nat × (Nat→ByteArray),(∀ j,(r.2.2 j).size≤maxLen)∧(i<len→a.block<w.heap.size∧w.cell? (a.add i)=some r.1∧RowR w r.1 r.2.1 (fun j => .string (r.2.2 j))):=by
   intro i
   by_cases hi:i<len
   ·have h1:=he i hi
    rw[List.getElem?_eq_getElem (by omega:i<elems.length),zBA] at h1;obtain⟨cs,hcs,ht⟩:=Option.bind_eq_some_iff.1 h1;obtain⟨v,m,g,rfl,hr,hs⟩:=zBB ht;refine⟨(v,m,g),hs,fun _=>⟨?_,?_,hr⟩⟩
    ·have:=World.cells?_block hcs (by omega)
     rwa [zaj] at this
    ·have:=(World.cells?_some hcs).2.2 0 (by omega)
     rw[zqL] at this;exact this
   ·exact⟨(.slice none 0 0,0,fun _=>⟨#[]⟩),fun _=>by show(⟨#[]⟩:ByteArray).size≤maxLen;decide,fun h=>absurd h hi⟩
  exact⟨_,len,fun i=>(hex i).choose.2.1,fun i=>(hex i).choose.2.2,rfl,
   ⟨fun i=>(hex i).choose.1,⟨some a,cap,rfl,hlc,hcm,fun j hj=>⟨a,rfl,((hex j).choose_spec.2 hj).1,((hex j).choose_spec.2 hj).2.1⟩⟩,fun i hi=>((hex i).choose_spec.2 hi).2.2⟩,fun i j=>(hex i).choose_spec.1 j⟩
theorem zBC {base:Nat}{v:Value}{d:DataW H}{p:List MemPlace}(hval:Value.okWide Tryz.prog w .any base 22 v)(h:DataW.Trod enc Tryz.prog w 0 (fun _=>true) true 22 v d p) :
  ∃ (n:Nat) (ln:Nat→Nat) (G:Nat→Nat→ByteArray),MatA w v n ln G∧∀ i j,(G i j).size≤maxLen:=by
 obtain⟨a0,len,cap,rfl⟩:=okWide_slice slM7 hval;obtain⟨fuel,hf⟩:=h;obtain⟨v,n,ln,G,hcs,h1,h2⟩:=zyl hf;simp[Value.cells] at hcs;subst hcs;exact⟨n,ln,G,h1,h2⟩
end
open Go.RowKit
def e3 (x:Rat)(h:decide (0≤x)=true):El 3:=⟨.inr x,by show(decide ((3:Int)=1) || ((decide ((3:Int)=2) || decide ((3:Int)=3))&&decide (0≤x)))=true;rw[h];rfl⟩
def K2:Nat→Nat→El 2:=fun _ _=>e2 1 (by decide +kernel)
open Go.RowKit
def TxOk (k:Int)(a:ByteArray):Prop:=(∃ u:El k,FitE u∧a=tx u)∨a=⟨#[]⟩
theorem zqM (k:Int):zfQ k ⟨#[]⟩:=fun v h=>by
 rcases v with(_|_)|x
 ·exact absurd (show(⟨#[]⟩:ByteArray)=lowS from h) (by decide)
 ·exact absurd (show(⟨#[]⟩:ByteArray)=infS from h) (by decide)
 ·exact absurd (show zax ⟨#[]⟩ x from h) (fun h=>by have h1:=(zhs h).n;revert h1;decide +kernel)
theorem zly {k:Int}{u:El k}(h:FitE u):(tx u).size≤maxLen:=by
 have:=zll h;obtain⟨v,hv⟩:=u;rcases v with(_|_)|x
 ·exact zoD
 ·exact zoC
 ·exact zgI (show zax _ x from this)
theorem zdG {w w':World}(o:Option Nat)(h:w.grownBy w' none):w.grownBy w' o:=⟨h.os,h.tape,h.output,h.size,fun i hi _=>h.block i hi (by simp)⟩
theorem zlz {w:World}{b:Nat}{u0 u1 v:Value}{T:TypeId}(h:w.heap[b]? = some (.cells #[u0,u1] T (0,0))):(w.setCell ⟨b,1,none⟩ v).heap[b]? = some (.cells #[u0,v] T (0,0)):=by
 rw[heap_setCell_same w b 1 _ _ v h]
 rfl
def ztP (k:Int)(b:Nat)(bad:Bool)(op:(hk:zad k)→El k→El k→El k)(a c:ByteArray)(w:World)(e:Ending)(w':World):Prop :=
 ∃ (S:ByteArray) (bad':Bool),e = .returned (.string S)∧w.grownBy w' (some b)∧w'.heap[b]? = some (.cells #[.int .i64 k,.bool bad'] 45 (0,0))∧TxOk k S ∧
  (bad'=false→bad=false∧∃ (hk:zad k) (u v:El k),FitE u∧FitE v∧a=tx u∧c=tx v∧FitE (op hk u v)∧S=tx (op hk u v))
theorem zEh (k:Int){a c:ByteArray}(ha:TxOk k a)(hc:TxOk k c):∃ (S:ByteArray) (E:Int),SOp 70 k a c (.tuple #[.string S,.int .i64 E])∧TxOk k S ∧
  (E=0→∃ (hk:zad k) (u v:El k),FitE u∧FitE v∧a=tx u∧c=tx v∧FitE ((srE k hk).add u v)∧S=tx ((srE k hk).add u v)):=by
 have hn:=zqM k;have h0:(⟨#[]⟩:ByteArray).size≤maxLen:=by decide
 rcases zge k a with⟨_,hva⟩|hna
 ·rcases zge k c with⟨_,hvc⟩|hnc
  ·obtain⟨u,fu,rfl⟩:∃ u:El k,FitE u∧a=tx u:=by
    rcases ha with h|rfl
    ·exact h
    ·exact absurd hva.has (by rw[hn _ hva.e];simp)
   obtain⟨v,fv,rfl⟩:∃ u:El k,FitE u∧c=tx u:=by
    rcases hc with h|rfl
    ·exact h
    ·exact absurd hvc.has (by rw[hn _ hvc.e];simp)
   have hk:zad k:=(zbI fu).kind;have hop:=zpW (zbI fu) (zbI fv)
   by_cases hf:FitE ((srE k hk).add u v)
   ·refine⟨tx ((srE k hk).add u v),0,?_,.inl ⟨_,hf,rfl⟩,fun _=>⟨hk,u,v,fu,fv,rfl,rfl,hf,rfl⟩⟩
    rw[← zfC (zll hf)];exact hop
   ·refine⟨⟨#[]⟩,2,?_,.inr rfl,fun h=>absurd h (by decide)⟩
    rw[← zhf hf];exact hop
  ·have hs:c=⟨#[]⟩:=by
    rcases hc with⟨u,fu,rfl⟩|h
    ·exact absurd (zbI fu).has (by rw[hnc _ (zbI fu).e];simp)
    ·exact h
   subst hs
   obtain⟨u,fu,rfl⟩:∃ u:El k,FitE u∧a=tx u:=by
    rcases ha with h|rfl
    ·exact h
    ·exact absurd hva.has (by rw[hn _ hva.e];simp)
   exact⟨_,1,zpV (zly fu) h0 (.inr hn),.inr rfl,fun h=>absurd h (by decide)⟩
 ·have hs:a=⟨#[]⟩:=by
   rcases ha with⟨u,fu,rfl⟩|h
   ·exact absurd (zbI fu).has (by rw[hna _ (zbI fu).e];simp)
   ·exact h
  subst hs
  have hcs:c.size≤maxLen:=by
   rcases hc with⟨u,fu,rfl⟩|rfl
   ·exact zly fu
   ·exact h0
  exact⟨_,1,zpV h0 hcs (.inl hn),.inr rfl,fun h=>absurd h (by decide)⟩
theorem zkR (k:Int)(b:Nat)(bad:Bool)(a c:ByteArray)(w:World)(hb:w.heap[b]? = some (.cells #[.int .i64 k,.bool bad] 45 (0,0)))(ha:TxOk k a)(hc:TxOk k c) :
  Calls Tryz.prog 38 #[.pointer (some ⟨b,0,none⟩),.string a,.string c] w (ztP k b bad (fun hk=>(srE k hk).add) a c w):=by
 obtain⟨S,E,hop,hS,hE⟩:=zEh k ha hc;have HOP:=zHd hop;have HS:=zHd hS;have HE:=zHd hE;have HB:=zHd hb;have d0:=cell_of_row w b 0 _ _ (0,0) hb;have d1:=cell_of_row w b 1 _ _ (0,0) hb;have z1:=frozen_of_row w b 1 _ _ hb;have z0:=frozen_of_row w b 0 _ _ hb;clear hop hS hE hb ha hc;go_enter Tryz.func38,Tryz.ntmps38;go_wp2_with fail;refine(HOP.out w).mono ?_;rintro e w1 ⟨rfl,hg1⟩;have e0:=hg1.cell d0 (by simp);have e1:=hg1.cell d1 (by simp);have hb1:=(hg1.block b (Array.getElem?_eq_some_iff.1 HB.out).1 (by simp)).trans HB.out;have y1:=frozen_of_row w1 b 1 _ _ hb1;have HB1:=zHd hb1;have HG:=zHd hg1;clear hb1 hg1 d0 d1 z0 z1;go_wp2_with fail
 ·exact bodyPost_ret (v := .string S) (by simp[results,Tryz.results38,go_sem]) rfl ⟨S,true,rfl,zaa (zdG (some b) HG.out) (zac _ _ _),(zlz HB1.out),HS.out,fun h=>absurd h (by decide)⟩
 ·exact bodyPost_ret (v := .string S) (by simp[results,Tryz.results38,go_sem]) rfl ⟨S,E != 0,rfl,zaa (zdG (some b) HG.out) (zac _ _ _),(zlz HB1.out),HS.out,fun h=>⟨by first|assumption|simp_all,HE.out (by simpa using h)⟩⟩
theorem zBD (k:Int){a c:ByteArray}(ha:TxOk k a)(hc:TxOk k c):∃ (S:ByteArray) (E:Int),SOp 67 k a c (.tuple #[.string S,.int .i64 E])∧TxOk k S ∧
  (E=0→∃ (hk:zad k) (u v:El k),FitE u∧FitE v∧a=tx u∧c=tx v∧FitE ((srE k hk).mul u v)∧S=tx ((srE k hk).mul u v)):=by
 have hn:=zqM k;have h0:(⟨#[]⟩:ByteArray).size≤maxLen:=by decide
 rcases zge k a with⟨_,hva⟩|hna
 ·rcases zge k c with⟨_,hvc⟩|hnc
  ·obtain⟨u,fu,rfl⟩:∃ u:El k,FitE u∧a=tx u:=by
    rcases ha with h|rfl
    ·exact h
    ·exact absurd hva.has (by rw[hn _ hva.e];simp)
   obtain⟨v,fv,rfl⟩:∃ u:El k,FitE u∧c=tx u:=by
    rcases hc with h|rfl
    ·exact h
    ·exact absurd hvc.has (by rw[hn _ hvc.e];simp)
   have hk:zad k:=(zbI fu).kind;have hop:=znt (zbI fu) (zbI fv)
   by_cases hf:FitE ((srE k hk).mul u v)
   ·refine⟨tx ((srE k hk).mul u v),0,?_,.inl ⟨_,hf,rfl⟩,fun _=>⟨hk,u,v,fu,fv,rfl,rfl,hf,rfl⟩⟩
    rw[← zfC (zll hf)];exact hop
   ·refine⟨⟨#[]⟩,2,?_,.inr rfl,fun h=>absurd h (by decide)⟩
    rw[← zhf hf];exact hop
  ·have hs:c=⟨#[]⟩:=by
    rcases hc with⟨u,fu,rfl⟩|h
    ·exact absurd (zbI fu).has (by rw[hnc _ (zbI fu).e];simp)
    ·exact h
   subst hs
   obtain⟨u,fu,rfl⟩:∃ u:El k,FitE u∧a=tx u:=by
    rcases ha with h|rfl
    ·exact h
    ·exact absurd hva.has (by rw[hn _ hva.e];simp)
   exact⟨_,1,zns (zly fu) h0 (.inr hn),.inr rfl,fun h=>absurd h (by decide)⟩
 ·have hs:a=⟨#[]⟩:=by
   rcases ha with⟨u,fu,rfl⟩|h
   ·exact absurd (zbI fu).has (by rw[hna _ (zbI fu).e];simp)
   ·exact h
  subst hs
  have hcs:c.size≤maxLen:=by
   rcases hc with⟨u,fu,rfl⟩|rfl
   ·exact zly fu
   ·exact h0
  exact⟨_,1,zns h0 hcs (.inl hn),.inr rfl,fun h=>absurd h (by decide)⟩
theorem zrk (k:Int)(b:Nat)(bad:Bool)(a c:ByteArray)(w:World)(hb:w.heap[b]? = some (.cells #[.int .i64 k,.bool bad] 45 (0,0)))(ha:TxOk k a)(hc:TxOk k c) :
  Calls Tryz.prog 35 #[.pointer (some ⟨b,0,none⟩),.string a,.string c] w (ztP k b bad (fun hk=>(srE k hk).mul) a c w):=by
 obtain⟨S,E,hop,hS,hE⟩:=zBD k ha hc;have HOP:=zHd hop;have HS:=zHd hS;have HE:=zHd hE;have HB:=zHd hb;have d0:=cell_of_row w b 0 _ _ (0,0) hb;have d1:=cell_of_row w b 1 _ _ (0,0) hb;have z1:=frozen_of_row w b 1 _ _ hb;have z0:=frozen_of_row w b 0 _ _ hb;clear hop hS hE hb ha hc;go_enter Tryz.func35,Tryz.ntmps35;go_wp2_with fail;refine(HOP.out w).mono ?_;rintro e w1 ⟨rfl,hg1⟩;have e0:=hg1.cell d0 (by simp);have e1:=hg1.cell d1 (by simp);have hb1:=(hg1.block b (Array.getElem?_eq_some_iff.1 HB.out).1 (by simp)).trans HB.out;have y1:=frozen_of_row w1 b 1 _ _ hb1;have HB1:=zHd hb1;have HG:=zHd hg1;clear hb1 hg1 d0 d1 z0 z1;go_wp2_with fail
 ·exact bodyPost_ret (v := .string S) (by simp[results,Tryz.results35,go_sem]) rfl ⟨S,true,rfl,zaa (zdG (some b) HG.out) (zac _ _ _),(zlz HB1.out),HS.out,fun h=>absurd h (by decide)⟩
 ·exact bodyPost_ret (v := .string S) (by simp[results,Tryz.results35,go_sem]) rfl ⟨S,E != 0,rfl,zaa (zdG (some b) HG.out) (zac _ _ _),(zlz HB1.out),HS.out,fun h=>⟨by first|assumption|simp_all,HE.out (by simpa using h)⟩⟩
open Go.RowKit
theorem zlT {w w':World}{b:Nat}(h:w.grownBy w' (some b))(hb:w.heap.size≤b):w.grownBy w' none:=⟨h.os,h.tape,h.output,h.size,fun i hi _=>h.block i hi (by simp;omega)⟩
open Go.RowKit
theorem zuV (k:Int)(n:Nat)(ln:Nat→Nat)(G:Nat→Nat→ByteArray)(av:Value)(w:World)(hn:n≤10000)(ha:MatA w av n ln G)(hs:∀ i j,(G i j).size≤maxLen) :
  Calls Tryz.prog 13 #[.int .i64 k,av] w (zbb (zfr k n ln G) w):=by
 obtain⟨rs,⟨A,c,rfl,ha1,ha2,ha3⟩,hr⟩:=ha;have HA:=zHd ha3;have HR:=zHd hr;have HN:=zHd hn;have HS:=zHd hs
 by_cases hk:zad k
 rotate_left 1
 ·have HK:=zHd (zvI (k:=k) hk)
  have HKN:=zHd hk;clear ha3 hr hn hs hk;go_enter Tryz.func13,Tryz.ntmps13;go_wp2_with fail;refine(HK.out _).mono ?_;rintro e w' ⟨rfl,rfl⟩;go_wp2;go_ret;exact zbb.no (fun h=>HKN.out h.1) (World.grownBy.refl _ _)
 ·have HK:=zHd (zpf (k:=k) hk)
  have HKY:=zHd hk;clear ha3 hr hn hs hk;go_enter Tryz.func13,Tryz.ntmps13;go_wp2_with fail;refine(HK.out _).mono ?_;rintro e w' ⟨rfl,rfl⟩;go_wp2_with fail
  go_loopw [5] (fun iv wr=>∃ i:Nat,i≤n∧iv = .int .i64 (i:Int)∧w.grownBy wr none∧∀ x,x<i→ln x=n∧∀ y,y<n→∃ v,Val k (G x y) v) (fun iv _=>n - (intOf iv).toNat)
  case atStart=>exact⟨0,Nat.zero_le _,rfl,World.grownBy.refl _ _,fun x hx=>absurd hx (by omega)⟩
  case round =>
   obtain⟨i,hi,rfl,hg,hx⟩:=hrel
   by_cases hin:i<n
   ·obtain⟨ad,rfl,hb,hc⟩:=HA.out i hin
    obtain⟨Ai,ci,hre,hi1,hi2,hi3⟩:=HR.out i hin;rw[hre] at hc;have q1:wr.cell? (ad.add i)=some (.slice Ai (ln i) ci):=(zap (ad:=ad.add i) (by rw[zaj];exact hg.block ad.block hb (by simp))).trans hc;have u1:decide (i<n)=true:=by simpa using hin
    have u1':decide ((i:Int)<(n:Int))=true:=by simpa using hin
    have hit:(i:Int)<(n:Int):=by omega
    have hi0:(0:Int)≤(i:Int):=by omega
    have n1:IntKind.i64.wrap ((i:Int)+1)=(i:Int)+1:=by have:=HN.out;rw[IntKind.wrap_i64];omega
    by_cases hl:ln i=n
    rotate_left 1
    ·have HI:=zHd (zAI hin (zAI hg hl))
     have u2:((ln i:Int) != (n:Int))=true:=by simp[bne];omega
     clear hi hin hg hx hb hc hre hi1 hi2 hi3 hl;go_wp2;go_ret;exact zbb.no (fun h=>HI.out.2.2 (h.2.1 i HI.out.1)) HI.out.2.1
    ·have u2:((n:Int) != (n:Int))=false:=by simp
     rw[hl] at q1 hi3;have HI:=zHd (zAI hin (zAI hg (zAI hx hl)));have H3:=zHd hi3;have HQ:=zHd q1;clear hi hin hg hx hb hc hre hi1 hi2 hi3 hl;go_wp2;generalize wr=wq at *
     go_loopw [6] (fun jv wr=>∃ y:Nat,y≤n∧jv = .int .i64 (y:Int)∧wq.grownBy wr none∧∀ x,x<y→∃ v,Val k (G i x) v) (fun jv _=>n - (intOf jv).toNat)
     case atStart=>exact⟨0,Nat.zero_le _,rfl,World.grownBy.refl _ _,fun x hx=>absurd hx (by omega)⟩
     case round =>
      obtain⟨y,hy,rfl,hg,hv⟩:=hrel
      by_cases hyn:y<n
      ·obtain⟨rd,rfl,hrb,hrc⟩:=H3.out y hyn
       have hgw:=zaa HI.out.2.1 hg;have d1:wr.cell? (ad.add i)=some (.slice (some rd) n ci):=hg.cell HQ.out (by simp);have d2:wr.cell? (rd.add y)=some (.string (G i y)):=hgw.cell hrc (by simp);have v1:decide (y<n)=true:=by simpa using hyn
       have v1':decide ((y:Int)<(n:Int))=true:=by simpa using hyn
       have hyt:(y:Int)<(n:Int):=by omega
       have hy0:(0:Int)≤(y:Int):=by omega
       have n2:IntKind.i64.wrap ((y:Int)+1)=(y:Int)+1:=by have:=HN.out;rw[IntKind.wrap_i64];omega
       have hvb:∃ b:Bool,(b=true↔∃ v,Val k (G i y) v)∧VB 46 k (G i y) b:=by
        rcases zge k (G i y) with⟨v,h⟩|h
        ·exact⟨true,⟨fun _=>⟨v,h⟩,fun _=>rfl⟩,zGE h⟩
        ·exact⟨false,⟨fun e=>by simp at e,fun⟨v,e⟩=>absurd e.has (by rw[h v e.e];simp)⟩,zHh h (HS.out i y)⟩
       obtain⟨b,hb1,hb2⟩:=hvb;have HV:=zHd hb1;have HC:=zHd hb2;have HJ:=zHd (zAI hyn (zAI hg (zAI hgw hv)));clear hy hyn hg hv hgw hb1 hb2 hrb hrc q1;go_wp2_with fail;refine(HC.out _).mono ?_;rintro e w5 ⟨rfl,hg5⟩;have H5:=zHd hg5;clear hg5;cases b
       ·go_wp2
        go_ret;refine zbb.no (fun h => ?_) (zaa HJ.out.2.2.1 H5.out);have:=HV.out.2 (h.2.2 i y HI.out.1 HJ.out.1);simp at this
       ·go_wp2
        refine⟨⟨y+1,HJ.out.1,by simp,zaa HJ.out.2.1 H5.out,fun x hx => ?_⟩,by have:=HJ.out.1;simp[intOf];omega⟩
        by_cases e:x<y
        ·exact HJ.out.2.2.2 x e
        ·rw[show x=y by omega];exact HV.out.1 (by simp)
      ·obtain rfl:y=n:=by omega
       have v1:decide (y<y)=false:=by simp
       have v1':decide ((y:Int)<(y:Int))=false:=by simp
       have HJ:=zHd (zAI hg hv);clear hy hyn hg hv q1;go_wp2;refine⟨⟨i+1,HI.out.1,by simp,zaa HI.out.2.1 HJ.out.1,fun x hx => ?_⟩,by have:=HI.out.1;simp[intOf];omega⟩
       by_cases e:x<i
       ·exact HI.out.2.2.1 x e
       ·rw[show x=i by omega];exact⟨HI.out.2.2.2,HJ.out.2⟩
   ·obtain rfl:i=n:=by omega
    have u1:decide (i<i)=false:=by simp
    have u1':decide ((i:Int)<(i:Int))=false:=by simp
    have HI:=zHd (zAI hg hx);clear hi hin hg hx;go_wp2;go_ret;exact zbb.yes ⟨HKY.out,fun x hx=>(HI.out.2 x hx).1,fun x y hx hy=>(HI.out.2 x hx).2 y hy⟩ HI.out.1
open Go.RowKit
theorem zBE (k:Int)(n:Nat)(ln:Nat→Nat)(G:Nat→Nat→ByteArray)(av:Value)(w:World)(ha:MatA w av n ln G)(hs:∀ i j,(G i j).size≤maxLen) :
  Calls Tryz.prog 28 #[.int .i64 k,av] w (zbb (n≤9∧zfr k n ln G) w):=by
 have ha0:=ha;obtain⟨rs,⟨A,c,rfl,ha1,ha2,ha3⟩,hr⟩:=ha
 by_cases h9:n≤9
 ·have HM:=zHd (zuV k n ln G _ w (by omega) ha0 hs)
  have H9:=zHd h9;have t1:decide ((n:Int)≤9)=true:=by simp;omega
  have t2:(n:Int)≤9:=by omega
  clear ha0 ha3 hr hs h9;go_enter Tryz.func28,Tryz.ntmps28;go_wp2_with fail;refine HM.out.mono ?_;rintro e w1 ⟨b,rfl,hb,hg⟩;have HB:=zHd (zAI hb hg);clear hb hg;cases b
  ·go_wp2
   go_ret;exact zbb.no (fun h=>by have:=HB.out.1.2 h.2;simp at this) HB.out.2
  ·go_wp2
   go_ret;exact zbb.yes ⟨H9.out,HB.out.1.1 (by simp)⟩ HB.out.2
 ·have H9:=zHd h9
  have t1:decide ((n:Int)≤9)=false:=by simp;omega
  have t2:¬ (n:Int)≤9:=by omega
  clear ha0 ha3 hr hs h9;go_enter Tryz.func28,Tryz.ntmps28;go_wp2;go_ret;exact zbb.no (fun h=>H9.out h.1) (World.grownBy.refl _ _)
open Go.RowKit
theorem zEi {k:Int}{n:Nat}{ln:Nat→Nat}{G:Nat→Nat→ByteArray}(hm:zfr k n ln G)(h9:n≤9){w:World}{e:Ending}{w':World}(h:zfJ k n ln G w e w') :
  w.grownBy w' none∧∃ (hk:zad k) (A:Nat→Nat→El k),(∀ i,i<n→∀ j,j<n→G i j=tx (A i j)∧FitE (A i j)) ∧
   ∃ v c,e = .returned (.tuple #[v,.int .i64 c])∧(c=0→MatV w' v n n (stM (srE k hk) A n)∧∀ i,i<n→∀ j,j<n→FitE (stM (srE k hk) A n i j)):=by
 obtain⟨hg,h⟩:=h;refine⟨hg,?_⟩;rcases h with⟨hn,_⟩|⟨_,h60,_⟩|⟨_,_,hk,A,hA,h⟩
 ·exact absurd hm hn
 ·omega
 ·refine⟨hk,A,hA,?_⟩
  rcases h with⟨hp,v,h1,h2⟩|⟨_,h1⟩
  ·refine⟨v,0,h1,fun _=>⟨h2,fun i hi j hj => ?_⟩⟩
   have:=zjk hk (Nat.le_refl _) hp i hi j hj;rw[zdO _ _ _ _ _ (Nat.le_refl _) i j hi,zrA _ _ _ hj] at this;exact this
  ·exact⟨_,2,h1,fun h=>absurd h (by decide)⟩
open Go.RowKit
structure Grid (W:World)(g:Nat)(vs:List Value)(rows:Nat→List Value):Prop where
 row:W.heap[g]? = some (.cells vs.toArray 33 (0,0))
 own:∀ (i:Nat) (v:Value),vs[i]? = some v→W.ownsRow (g+1) 9 1 v (rows i).length (rows i)
 dis:∀ (i j:Nat) (v v':Value),i≠j→vs[i]? = some v→vs[j]? = some v'→v.ownBlock=none∨v.ownBlock≠v'.ownBlock
theorem Grid.lt {W:World}{g:Nat}{vs:List Value}{rows:Nat→List Value}(h:Grid W g vs rows):g<W.heap.size:=(Array.getElem?_eq_some_iff.1 h.row).1
theorem Grid.next {W W':World}{g:Nat}{vs:List Value}{rows:Nat→List Value}(h:Grid W g vs rows)(hg:W.grownBy W' none):Grid W' g vs rows :=
 ⟨(hg.block g h.lt (by simp)).trans h.row,fun i v hv=>(h.own i v hv).kept hg (by cases e:v.ownBlock <;> simp),h.dis⟩
theorem Grid.other {W W':World}{g b:Nat}{vs:List Value}{rows:Nat→List Value}(h:Grid W g vs rows)(hg:W.grownBy W' (some b))(hb:b<g):Grid W' g vs rows :=
 ⟨(hg.block g h.lt (by simp;omega)).trans h.row,fun i v hv=>(h.own i v hv).kept hg (by
   cases e:v.ownBlock with
   | none=>exact .inl rfl
   | some c=>exact .inr (by have:=((h.own i v hv).lt c e).1;intro e2;cases e2;omega)),h.dis⟩
theorem Grid.cell {W:World}{g i:Nat}{vs:List Value}{rows:Nat→List Value}(h:Grid W g vs rows){v:Value}(hv:vs[i]? = some v):W.cell? ⟨g,i,none⟩=some v:=by
 rw[cell_of_row W g i _ _ (0,0) h.row,List.getElem?_toArray];exact hv
theorem Grid.put {W W':World}{g i:Nat}{vs:List Value}{rows:Nat→List Value}{v v':Value}{l:List Value}(h:Grid W g vs rows)(hv:vs[i]? = some v)(hg:W.grownBy W' v.ownBlock)
  (hown:W'.ownsRow (g+1) 9 1 v' l.length l) (hat:∀ c,v'.ownBlock=some c→v.ownBlock=some c∨W.heap.size≤c) :
  Grid (W'.setCell ⟨g,i,none⟩ v') g (vs.set i v') (fun x=>if x=i then l else rows x):=by
 have hlt:=h.lt;have hi:=(List.getElem?_eq_some_iff.1 hv).1;have hne:some g≠v.ownBlock:=fun e=>by have:=((h.own i v hv).lt g e.symm).1;omega
 have hrow:W'.heap[g]? = some (.cells vs.toArray 33 (0,0)):=(hg.block g hlt hne).trans h.row
 have hfar:∀ (u:Value) (l':List Value),W'.ownsRow (g+1) 9 1 u l'.length l'→(W'.setCell ⟨g,i,none⟩ v').ownsRow (g+1) 9 1 u l'.length l':=fun u l' ho=>ho.kept (zac W' ⟨g,i,none⟩ v') (by
  cases e:u.ownBlock with
  | none=>exact .inl rfl
  | some c=>exact .inr (by have:=(ho.lt c e).1;show some c≠some g;intro e2;cases e2;omega))
 refine⟨?_,fun x u hx => ?_,fun x y u u' hxy hx hy => ?_⟩
 ·rw[heap_setCell_same W' g i _ _ _ hrow]
  simp
 ·by_cases e:x=i
  ·subst e
   rw[List.getElem?_set_self hi] at hx;cases hx;rw[if_pos rfl];exact hfar _ _ hown
  ·rw[List.getElem?_set_ne (Ne.symm e)] at hx
   rw[if_neg e];refine hfar _ _ ((h.own x u hx).kept hg ?_);exact h.dis x i u v e hx hv
 ·by_cases ex:x=i
  ·subst ex
   rw[List.getElem?_set_self hi] at hx;rw[List.getElem?_set_ne hxy] at hy;cases hx;cases ev:v'.ownBlock with
   | none=>exact .inl rfl
   | some c =>
    refine .inr (fun e2 => ?_);have h2:=(h.own y u' hy).lt c e2.symm;rcases hat c ev with h3|h3
    ·rcases h.dis x y v u' hxy hv hy with h4|h4
     ·rw[h4] at h3;cases h3
     ·exact h4 (h3.trans e2)
    ·omega
  ·rw[List.getElem?_set_ne (Ne.symm ex)] at hx
   by_cases ey:y=i
   ·subst ey
    rw[List.getElem?_set_self hi] at hy;cases hy;cases eu:u.ownBlock with
    | none=>exact .inl rfl
    | some c =>
     refine .inr (fun e2 => ?_);have h2:=(h.own x u hx).lt c eu;rcases hat c e2.symm with h3|h3
     ·rcases h.dis x y u v hxy hx hv with h4|h4
      ·rw[h4] at eu;cases eu
      ·exact h4 (eu.trans h3.symm)
     ·omega
   ·rw[List.getElem?_set_ne (Ne.symm ey)] at hy
    exact h.dis x y u u' hxy hx hy
theorem Grid.made {w w1:World}{n:Nat}(h:zaq 33 (.slice none 0 0) n [] w w1):Grid w1 w.heap.size (List.replicate n (.slice none 0 0)) (fun _=>[]):=by
 have hr:=h.row;simp only[List.nil_append,List.length_nil,Nat.sub_zero] at hr;refine⟨hr,fun i v hv => ?_,fun i j v v' _ hv _ => .inl ?_⟩
 ·obtain⟨h1,rfl⟩:=List.getElem?_eq_some_iff.1 hv
  rw[List.getElem_replicate];exact World.ownsRow_nil _ _ _ _
 ·obtain⟨h1,rfl⟩:=List.getElem?_eq_some_iff.1 hv
  rw[List.getElem_replicate]
  rfl
def cntR (n i j x:Nat):Nat:=if x<i then n else if x=i then j else 0
def zbj (n:Nat)(G:Nat→Nat→ByteArray)(i j x:Nat):List Value:=(List.range (cntR n i j x)).map (fun y => .string (G x y))
theorem zfc (n:Nat)(G:Nat→Nat→ByteArray)(i j x:Nat):(zbj n G i j x).length=cntR n i j x:=by simp[zbj]
def putG (G:Nat→Nat→ByteArray)(i j:Nat)(s:ByteArray)(x y:Nat):ByteArray:=if x=i∧y=j then s else G x y
theorem zBF {n i j:Nat}{G:Nat→Nat→ByteArray}{s:ByteArray}(hj:j<n):(fun x=>if x=i then zbj n G i j i++[.string s] else zbj n G i j x)=zbj n (putG G i j s) i (j+1):=by
 funext x
 by_cases e:x=i
 ·subst e
  rw[if_pos rfl];unfold zbj cntR;rw[if_neg (Nat.lt_irrefl _),if_pos rfl,if_neg (Nat.lt_irrefl _),if_pos rfl,List.range_succ,List.map_append]
  congr 1
  ·refine List.map_congr_left (fun y hy => ?_)
   have:=List.mem_range.1 hy;unfold putG;rw[if_neg (by omega)]
  ·simp[putG]
 ·rw[if_neg e]
  unfold zbj;have hc:cntR n i j x=cntR n i (j+1) x:=by unfold cntR;rw[if_neg e,if_neg e]
  rw[hc];refine List.map_congr_left (fun y hy => ?_);unfold putG;rw[if_neg (by omega)]
theorem zmD (n i x:Nat):cntR n i n x=cntR n (i+1) 0 x:=by
 unfold cntR
 by_cases h:x<i
 ·rw[if_pos h,if_pos (by omega)]
 ·rw[if_neg h]
  by_cases e:x=i
  ·rw[if_pos e,if_pos (by omega)]
  ·rw[if_neg e,if_neg (by omega)]
   split <;> rfl
theorem zym (n:Nat)(G:Nat→Nat→ByteArray)(i:Nat):zbj n G i n=zbj n G (i+1) 0:=by
 funext x
 unfold zbj;rw[zmD]
theorem zuW (n:Nat)(G:Nat→Nat→ByteArray):zbj n G 0 0=fun _=>[]:=by
 funext x
 unfold zbj cntR;rw[if_neg (by omega)]
 split <;> rfl
theorem zev {n x j:Nat}(hx:x<n):cntR n n j x=n:=by unfold cntR;rw[if_pos hx]
def RowN (w:World)(b:Nat)(v:Value)(n:Nat)(L:Nat→Value):Prop :=
 ∃ A cap,v = .slice A n cap∧n≤cap∧cap≤maxLen∧∀ j,j<n→∃ ad,A=some ad∧ad.block<w.heap.size∧ad.block≠b∧w.cell? (ad.add j)=some (L j)
theorem RowN.grown {w w':World}{b:Nat}{v:Value}{n:Nat}{L:Nat→Value}(h:RowN w b v n L)(hg:w.grownBy w' (some b)):RowN w' b v n L:=by
 obtain⟨A,cap,rfl,h1,h2,h3⟩:=h;refine⟨A,cap,rfl,h1,h2,fun j hj => ?_⟩;obtain⟨ad,rfl,hb,hne,hc⟩:=h3 j hj;exact⟨ad,rfl,Nat.lt_of_lt_of_le hb hg.size,hne,(zap (ad:=ad.add j) (by rw[zaj];exact hg.block ad.block hb (by simpa using hne))).trans hc⟩
theorem RowN.of {w:World}{b:Nat}{v:Value}{n:Nat}{L:Nat→Value}(h:RowR w v n L)(hb:w.heap.size≤b):RowN w b v n L:=by
 obtain⟨A,cap,rfl,h1,h2,h3⟩:=h;refine⟨A,cap,rfl,h1,h2,fun j hj => ?_⟩;obtain⟨ad,rfl,hl,hc⟩:=h3 j hj;exact⟨ad,rfl,hl,by omega,hc⟩
theorem RowN.row {w:World}{b:Nat}{v:Value}{n:Nat}{L:Nat→Value}(h:RowN w b v n L):RowR w v n L:=by
 obtain⟨A,cap,rfl,h1,h2,h3⟩:=h;refine⟨A,cap,rfl,h1,h2,fun j hj => ?_⟩;obtain⟨ad,rfl,hl,_,hc⟩:=h3 j hj;exact⟨ad,rfl,hl,hc⟩
def MatN (w:World)(b:Nat)(v:Value)(n:Nat)(G:Nat→Nat→ByteArray):Prop :=
 ∃ rs:Nat→Value,RowN w b v n rs∧∀ i,i<n→RowN w b (rs i) n (fun j => .string (G i j))
theorem MatN.grown {w w':World}{b:Nat}{v:Value}{n:Nat}{G:Nat→Nat→ByteArray}(h:MatN w b v n G)(hg:w.grownBy w' (some b)):MatN w' b v n G:=by
 obtain⟨rs,h1,h2⟩:=h;exact⟨rs,h1.grown hg,fun i hi=>(h2 i hi).grown hg⟩
theorem MatN.of {w:World}{b:Nat}{v:Value}{n:Nat}{G:Nat→Nat→ByteArray}(h:MatA w v n (fun _=>n) G)(hb:w.heap.size≤b):MatN w b v n G:=by
 obtain⟨rs,h1,h2⟩:=h;exact⟨rs,.of h1 hb,fun i hi => .of (h2 i hi) hb⟩
theorem MatN.mat {w:World}{b:Nat}{v:Value}{n:Nat}{G:Nat→Nat→ByteArray}(h:MatN w b v n G):MatA w v n (fun _=>n) G:=by
 obtain⟨rs,h1,h2⟩:=h;exact⟨rs,h1.row,fun i hi=>(h2 i hi).row⟩
theorem MatN.shape {w:World}{b:Nat}{v:Value}{n:Nat}{G:Nat→Nat→ByteArray}(h:MatN w b v n G):∃ A c,v = .slice A n c:=by
 obtain⟨rs,⟨A,c,e,_⟩,_⟩:=h;exact⟨A,c,e⟩
theorem MatN.at_ {w:World}{b:Nat}{A:Option Addr}{c:Nat}{n:Nat}{G:Nat→Nat→ByteArray}(h:MatN w b (.slice A n c) n G){i j:Nat}(hi:i<n)(hj:j<n) :
  ∃ ad rd ci,A=some ad∧w.cell? (ad.add i)=some (.slice (some rd) n ci)∧w.cell? (rd.add j)=some (.string (G i j))∧ad.block≠b∧rd.block≠b∧ad.block<w.heap.size∧rd.block<w.heap.size:=by
 obtain⟨rs,⟨A',c',e,_,_,h3⟩,hr⟩:=h;simp only[Value.slice.injEq] at e;obtain⟨rfl,_,rfl⟩:=e;obtain⟨ad,rfl,hl,hne,hc⟩:=h3 i hi;obtain⟨Ai,ci,he,_,_,h4⟩:=hr i hi;obtain⟨rd,rfl,hl2,hne2,hc2⟩:=h4 j hj;rw[he] at hc;exact⟨ad,rd,ci,rfl,hc,hc2,hne,hne2,hl,hl2⟩
theorem Grid.rows {W:World}{g n:Nat}{vs:List Value}{G:Nat→Nat→ByteArray}(h:Grid W g vs (zbj n G n 0))(hn:vs.length=n)(hn2:n≤10000) :
  (∀ j,j<n→W.cell? ⟨g,0+j,none⟩=some (vs.getD j (.slice none 0 0)))∧∀ i,i<n→∃ c cap,vs.getD i (.slice none 0 0) = .slice (some ⟨c,0,none⟩) n cap∧n≤cap∧cap≤maxLen∧g<c∧c<W.heap.size∧∀ j,j<n→W.cell? ((⟨c,0,none⟩:Addr).add j)=some (.string (G i j)):=by
 refine⟨fun j hj => ?_,fun i hi => ?_⟩
 ·rw[Nat.zero_add]
  refine h.cell ?_;rw[List.getD_eq_getElem?_getD,List.getElem?_eq_getElem (by omega)]
  rfl
 ·have hv:vs[i]? = some (vs.getD i (.slice none 0 0)):=by
   rw[List.getD_eq_getElem?_getD,List.getElem?_eq_getElem (by omega)]
   rfl
  have ho:=h.own i _ hv;rw[zfc,zev hi] at ho;rcases ho.2 with⟨he,h0⟩|⟨c,cap,cur,he,hbc,hgc,h1,h2,h3,h4⟩
  ·omega
  ·refine⟨c,cap,he,h1,h2,by omega,(Array.getElem?_eq_some_iff.1 hgc).1,fun j hj => ?_⟩
   exact ho.cells (g:=c) (by rw[he];rfl) j (.string (G i j)) (by
    unfold zbj;rw[List.getElem?_map,List.getElem?_range (by rw[zev hi];exact hj)]
    rfl)
theorem Grid.mat {W:World}{g b n:Nat}{vs:List Value}{G:Nat→Nat→ByteArray}(h:Grid W g vs (zbj n G n 0))(hn:vs.length=n)(hn2:n≤10000)(hb:b<g):MatN W b (.slice (some ⟨g,0,none⟩) n n) n G:=by
 obtain⟨h1,h2⟩:=h.rows hn hn2;refine⟨fun i=>vs.getD i (.slice none 0 0),⟨_,_,rfl,Nat.le_refl _,by unfold maxLen;omega,fun j hj=>⟨_,rfl,h.lt,by show g≠b;omega,by rw[zbA];exact h1 j hj⟩⟩,fun i hi => ?_⟩;obtain⟨c,cap,he,e1,e2,e3,e4,e5⟩:=h2 i hi;exact⟨_,_,he,e1,e2,fun j hj=>⟨_,rfl,e4,by show c≠b;omega,e5 j hj⟩⟩
theorem Grid.matA {W:World}{g n:Nat}{vs:List Value}{G:Nat→Nat→ByteArray}(h:Grid W g vs (zbj n G n 0))(hn:vs.length=n)(hn2:n≤10000):MatA W (.slice (some ⟨g,0,none⟩) n n) n (fun _=>n) G:=by
 obtain⟨h1,h2⟩:=h.rows hn hn2;refine⟨fun i=>vs.getD i (.slice none 0 0),⟨_,_,rfl,Nat.le_refl _,by unfold maxLen;omega,fun j hj=>⟨_,rfl,h.lt,by rw[zbA];exact h1 j hj⟩⟩,fun i hi => ?_⟩;obtain⟨c,cap,he,e1,e2,e3,e4,e5⟩:=h2 i hi;exact⟨_,_,he,e1,e2,fun j hj=>⟨_,rfl,e4,e5 j hj⟩⟩
open Go.RowKit
def zbT (k:Int)(sb:Nat)(bad:Bool)(w:World):Prop:=w.heap[sb]? = some (.cells #[.int .i64 k,.bool bad] 45 (0,0))
theorem zbT.lt {k:Int}{sb:Nat}{bad:Bool}{w:World}(h:zbT k sb bad w):sb<w.heap.size:=(Array.getElem?_eq_some_iff.1 h).1
theorem zbT.kept {k:Int}{sb:Nat}{bad:Bool}{w w':World}(h:zbT k sb bad w)(hg:w.grownBy w' none):zbT k sb bad w':=(hg.block sb h.lt (by simp)).trans h
structure zaR (r:Option Nat)(n:Nat)(w:World)(g i j:Nat)(vs:List Value)(G:Nat→Nat→ByteArray)(wr:World):Prop where
 len:vs.length=n
 grid:Grid wr g vs (zbj n G i j)
 gr:w.grownBy wr r
 far:w.heap.size≤g
 low:∀ b,r=some b→b<w.heap.size
theorem zaR.kept {r:Option Nat}{n:Nat}{w:World}{g i j:Nat}{vs:List Value}{G:Nat→Nat→ByteArray}{wr w2:World}(h:zaR r n w g i j vs G wr)(hg:wr.grownBy w2 r):zaR r n w g i j vs G w2:=by
 refine⟨h.len,?_,zaa h.gr hg,h.far,h.low⟩;cases r with
 | none=>exact h.grid.next hg
 | some b=>exact h.grid.other hg (by have:=h.low b rfl;have:=h.far;omega)
theorem zaR.row {r:Option Nat}{n:Nat}{w:World}{g i:Nat}{vs:List Value}{G:Nat→Nat→ByteArray}{wr:World}(h:zaR r n w g i n vs G wr):zaR r n w g (i+1) 0 vs G wr :=
 ⟨h.len,by rw[← zym];exact h.grid,h.gr,h.far,h.low⟩
theorem zaR.at_ {r:Option Nat}{n:Nat}{w:World}{g i j:Nat}{vs:List Value}{G:Nat→Nat→ByteArray}{wr:World}(h:zaR r n w g i j vs G wr)(hi:i<n) :
  ∃ v,vs[i]? = some v∧wr.cell? ⟨g,i,none⟩=some v∧wr.ownsRow (g+1) 9 1 v j (zbj n G i j i)∧v.ownBlock≠some g∧∃ A c,v = .slice A j c:=by
 have hv:vs[i]? = some (vs[i]'(by rw[h.len];exact hi)):=List.getElem?_eq_getElem (by rw[h.len];exact hi);have ho:=h.grid.own i _ hv;have hc:cntR n i j i=j:=by unfold cntR;rw[if_neg (Nat.lt_irrefl _),if_pos rfl]
 rw[zfc,hc] at ho;refine⟨_,hv,h.grid.cell hv,ho,fun e=>by have:=(ho.lt g e).1;omega,?_⟩;rcases ho.2 with⟨e,h0⟩|⟨c,cap,cur,e,_⟩
 ·exact⟨none,0,by rw[e,h0]⟩
 ·exact⟨_,_,e⟩
theorem zaR.ready {r:Option Nat}{n:Nat}{w:World}{g i j:Nat}{vs:List Value}{G:Nat→Nat→ByteArray}{wr W':World}{v:Value}{o:Obj}(h:zaR r n w g i j vs G wr)(hv:vs[i]? = some v)(hg:(wr.alloc o).grownBy W' v.ownBlock) :
  W'.cell? ⟨g,i,none⟩=some v∧W'.frozen? ⟨g,i,none⟩=false:=by
 have hne:some g≠v.ownBlock:=fun e=>by have:=((h.grid.own i v hv).lt g e.symm).1;omega
 have h1:=(zGA wr o none).block g h.grid.lt (by simp);have hb:W'.heap[g]? = wr.heap[g]? := (hg.block g (Nat.lt_of_lt_of_le h.grid.lt (zGA wr o none).size) hne).trans h1;exact⟨(zap (ad:=⟨g,i,none⟩) hb).trans (h.grid.cell hv),frozen_of_row W' g i _ _ (hb.trans h.grid.row)⟩
theorem zaR.apart {r:Option Nat}{n:Nat}{w:World}{g i j:Nat}{vs:List Value}{G:Nat→Nat→ByteArray}{wr W':World}{v:Value}{o:Obj}(h:zaR r n w g i j vs G wr)(hv:vs[i]? = some v)(hg:(wr.alloc o).grownBy W' v.ownBlock){b:Nat}(hb:b<w.heap.size):W'.heap[b]? = wr.heap[b]? := by
 have hgA:=zGA wr o none;have hlw:=h.gr.size;have hfar:=h.far;have hsz:(wr.alloc o).heap.size=wr.heap.size+1:=by simp
 have e2:W'.heap[b]? = (wr.alloc o).heap[b]? := hg.block b (by omega) (fun e=>by have:=((h.grid.own i v hv).lt b e.symm).1;omega);exact e2.trans (hgA.block b (by omega) (by simp))
theorem zaR.start {r:Option Nat}{n:Nat}{w w1:World}(h:zaq 33 (.slice none 0 0) n [] w w1)(hr:∀ b,r=some b→b<w.heap.size):zaR r n w w.heap.size 0 0 (List.replicate n (.slice none 0 0)) (fun _ _=>⟨#[]⟩) w1 :=
 ⟨List.length_replicate ..,by rw[zuW];exact Grid.made h,by cases r with
  | none=>exact h.gr
  | some b=>exact zaC h.gr,Nat.le_refl _,hr⟩
theorem zaR.put {r:Option Nat}{n:Nat}{w:World}{g i j g2 cap:Nat}{vs:List Value}{G:Nat→Nat→ByteArray}{wr W':World}{v:Value}{o:Obj}{s:ByteArray}(h:zaR r n w g i j vs G wr)(hi:i<n)(hj:j<n)(hv:vs[i]? = some v)
  (hg:(wr.alloc o).grownBy W' v.ownBlock) (hown:W'.ownsRow (g+1) 9 1 (.slice (some ⟨g2,0,none⟩) (j+1) cap) (j+1) (zbj n G i j i++[.string s])) (hat:v.ownBlock=some g2∨g2=wr.heap.size+1) :
  zaR r n w g i (j+1) (vs.set i (.slice (some ⟨g2,0,none⟩) (j+1) cap)) (putG G i j s) (W'.setCell ⟨g,i,none⟩ (.slice (some ⟨g2,0,none⟩) (j+1) cap)) ∧
   ∀ b,b<w.heap.size→(W'.setCell ⟨g,i,none⟩ (.slice (some ⟨g2,0,none⟩) (j+1) cap)).heap[b]? = wr.heap[b]? := by
 have hgA:=zGA wr o none;have hfar:=h.far;have hlw:=h.gr.size;have hob:∀ c,v.ownBlock=some c→g+1≤c:=fun c e=>((h.grid.own i v hv).lt c e).1
 have hl:(zbj n G i j i++[Value.string s]).length=j+1:=by
  rw[List.length_append,zfc];unfold cntR;rw[if_neg (Nat.lt_irrefl _),if_pos rfl];rfl
 have hsz:(wr.alloc o).heap.size=wr.heap.size+1:=by simp
 refine⟨⟨by rw[List.length_set];exact h.len,?_,?_,h.far,h.low⟩,fun b hb => ?_⟩
 ·have h1:=(h.grid.next hgA).put (l:=zbj n G i j i++[.string s]) (v' := .slice (some ⟨g2,0,none⟩) (j+1) cap) hv hg (by rw[hl];exact hown) (fun c e=>by
   have e2:g2=c:=by simpa [Value.ownBlock] using e
   subst e2;rcases hat with h2|h2
   ·exact .inl h2
   ·exact .inr (by rw[hsz];omega))
  rw[zBF hj] at h1;exact h1
 ·have h1:w.grownBy W' r:=by
   have h0:w.grownBy (wr.alloc o) r:=zaa h.gr (zaC hgA);cases e:v.ownBlock with
   | none=>rw[e] at hg;exact zaa h0 (zaC hg)
   | some c=>rw[e] at hg;exact zai h0 hg (by have:=hob c e;omega)
  exact zai h1 (zac _ _ _) hfar
 ·have e1:(W'.setCell ⟨g,i,none⟩ (.slice (some ⟨g2,0,none⟩) (j+1) cap)).heap[b]? = W'.heap[b]? := heap_setCell_other W' _ b _ (by show b≠g;omega)
  have e2:W'.heap[b]? = (wr.alloc o).heap[b]? := hg.block b (by omega) (fun e=>by have:=hob b e.symm;omega);exact e1.trans (e2.trans (hgA.block b (by omega) (by simp)))
theorem zaR.mat {r:Option Nat}{n sb:Nat}{w:World}{g:Nat}{vs:List Value}{G:Nat→Nat→ByteArray}{wr:World}(h:zaR r n w g n 0 vs G wr)(hn:n≤10000)(hsb:sb<w.heap.size):MatN wr sb (.slice (some ⟨g,0,none⟩) n n) n G :=
 h.grid.mat h.len hn (by have:=h.far;omega)
theorem zaR.matA {r:Option Nat}{n:Nat}{w:World}{g:Nat}{vs:List Value}{G:Nat→Nat→ByteArray}{wr:World}(h:zaR r n w g n 0 vs G wr)(hn:n≤10000):MatA wr (.slice (some ⟨g,0,none⟩) n n) n (fun _=>n) G:=h.grid.matA h.len hn
def Told {k:Int}(bad:Bool)(n i j:Nat)(M:Nat→Nat→El k)(G:Nat→Nat→ByteArray)(b1:Bool):Prop :=
 (∀ x y,y<cntR n i j x→TxOk k (G x y))∧(b1=false→bad=false∧∀ x y,y<cntR n i j x→G x y=tx (M x y)∧FitE (M x y))
theorem Told.next {k:Int}{bad:Bool}{n i:Nat}{M:Nat→Nat→El k}{G:Nat→Nat→ByteArray}{b1:Bool}(h:Told bad n i n M G b1):Told bad n (i+1) 0 M G b1 :=
 ⟨fun x y hy=>h.1 x y (by rw[zmD];exact hy),fun hb=>⟨(h.2 hb).1,fun x y hy=>(h.2 hb).2 x y (by rw[zmD];exact hy)⟩⟩
theorem Told.more {k:Int}{bad:Bool}{n i j:Nat}{M:Nat→Nat→El k}{G:Nat→Nat→ByteArray}{b1 b2:Bool}(h:Told bad n i j M G b1)(hb:b2=false→b1=false):Told bad n i j M G b2:=⟨h.1,fun e=>h.2 (hb e)⟩
theorem zwk {n i j x y:Nat}(h:y<cntR n i (j+1) x)(hne:¬ (x=i∧y=j)):y<cntR n i j x:=by
 unfold cntR at *
 by_cases h1:x<i
 ·rw[if_pos h1] at h ⊢;exact h
 ·rw[if_neg h1] at h ⊢
  by_cases h2:x=i
  ·rw[if_pos h2] at h ⊢;have:y≠j:=fun e=>hne ⟨h2,e⟩;omega
  ·rw[if_neg h2] at h ⊢;exact h
theorem Told.put {k:Int}{bad:Bool}{n i j:Nat}{M:Nat→Nat→El k}{G:Nat→Nat→ByteArray}{b1:Bool}{s:ByteArray}(h:Told bad n i j M G b1)(hs:TxOk k s)(ht:b1=false→s=tx (M i j)∧FitE (M i j)):Told bad n i (j+1) M (putG G i j s) b1:=by
 refine⟨fun x y hy => ?_,fun hb=>⟨(h.2 hb).1,fun x y hy => ?_⟩⟩
 ·unfold putG
  split
  ·exact hs
  ·rename_i e;exact h.1 x y (zwk hy e)
 ·unfold putG
  split
  ·rename_i e;rw[e.1,e.2];exact ht hb
  ·rename_i e;exact(h.2 hb).2 x y (zwk hy e)
theorem Told.start {k:Int}{bad:Bool}{n:Nat}{M:Nat→Nat→El k}{G:Nat→Nat→ByteArray}:Told bad n 0 0 M G bad :=
 ⟨fun x y hy=>by unfold cntR at hy;rw[if_neg (by omega)] at hy;split at hy <;> omega,fun hb=>⟨hb,fun x y hy=>by unfold cntR at hy;rw[if_neg (by omega)] at hy;split at hy <;> omega⟩⟩
def zmE {k:Int}(sb n:Nat)(bad:Bool)(M:Nat→Nat→El k)(w:World)(e:Ending)(w':World):Prop :=
 ∃ g vs G b1,e = .returned (.slice (some ⟨g,0,none⟩) n n)∧zaR (some sb) n w g n 0 vs G w'∧zbT k sb b1 w'∧Told bad n n 0 M G b1
def zdz {k:Int}(bad:Bool)(n:Nat)(G:Nat→Nat→ByteArray)(M:Nat→Nat→El k):Prop :=
 (∀ i j,i<n→j<n→TxOk k (G i j))∧(bad=false→∀ i j,i<n→j<n→G i j=tx (M i j)∧FitE (M i j))
theorem Told.tell {k:Int}{bad:Bool}{n:Nat}{M:Nat→Nat→El k}{G:Nat→Nat→ByteArray}{b1:Bool}(h:Told bad n n 0 M G b1):zdz b1 n G M :=
 ⟨fun i j hi hj=>h.1 i j (by rw[zev hi];exact hj),fun hb i j hi hj=>(h.2 hb).2 i j (by rw[zev hi];exact hj)⟩
theorem zdz.more {k:Int}{bad b2:Bool}{n:Nat}{M:Nat→Nat→El k}{G:Nat→Nat→ByteArray}(h:zdz bad n G M)(hb:b2=false→bad=false):zdz b2 n G M:=⟨h.1,fun e=>h.2 (hb e)⟩
open Go.RowKit
theorem MatA.square {w:World}{v:Value}{n:Nat}{ln:Nat→Nat}{G:Nat→Nat→ByteArray}(h:MatA w v n ln G)(hl:∀ i,i<n→ln i=n):MatA w v n (fun _=>n) G:=by
 obtain⟨rs,h1,h2⟩:=h;exact⟨rs,h1,fun i hi=>by have:=h2 i hi;rw[hl i hi] at this;exact this⟩
end Go.Proofs.YtaogepcaoogpgaaGreatDoor
