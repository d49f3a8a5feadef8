/- Part. -/
import Derived.Test.YtadgpgofcjpnjaaGreatDoorZK20
import Derived.Test.YtadgpgofcjpnjaaGreatDoorZK16
set_option linter.unusedVariables false
set_option linter.defProp false
set_option linter.unusedSimpArgs false
set_option maxRecDepth 100000
set_option maxHeartbeats 16000000
namespace Go.Proofs.YtadgpgofcjpnjaaGreatDoor
open Go.Proofs.Tryz
open Go.ChangeShapes Go.WideShapes Go.ChangeAt Go.RowKit Go.Lib Go.Joins
def zBH:prog.bytesOf 3=8:=by kernel_rfl
section
variable {H:Type} {enc:TypeId×Value->H} {w:World}
def zlG {fuel:Nat}{cs:List Value}{x:DataW H×List MemPlace}(h:DataW.trod enc prog w 0 (fun _=>true) true fuel 22 cs=some x) :
  ∃ (v:Value) (zs:List Int),cs=[v]/\zax w v zs/\((∀ y∈DataW.weights prog 22 x.1,y<=reachBytes)->zs.length<=140737488355328):=by
 rcases DataW.trod_slice zED h with⟨rfl,rfl⟩|⟨a,len,cap,elems,rest,n,rfl,rfl,rfl,_,hlc,hcm,hel,he,_,_⟩;exact⟨_,[],rfl,⟨none,0,rfl,zqab _,by decide,fun j hj=>absurd hj (by simp)⟩,fun _=>by simp⟩
 have hex:∀ i,∃ z:Int,(i<len->a.block<w.heap.size/\w.cell? (a.add i)=some (.int .i64 z)):=by
  intro i
  by_cases hi:i<len
  ·have h1:=he i hi
   rw[zqac (by omega:i<elems.length),zrV] at h1;obtain⟨cs,hcs,ht⟩:=Option.bind_eq_some_iff.1 h1;obtain⟨z,c0,d0,_⟩:=DataW.trod_int underlying3 ht;refine⟨z,fun _=>⟨?_,?_⟩⟩
   ·have:=World.cells?_block hcs (by omega)
    rwa [zbx] at this
   have:=(World.cells?_some hcs).2.2 0 (by omega);rw[zBG,c0] at this;exact this
  exact⟨0,fun h=>absurd h hi⟩
 have zN:((List.range len).map (fun i=>(hex i).choose)).length=len:=by simp
 refine⟨_,(List.range len).map (fun i=>(hex i).choose),rfl,?_,fun hw=>?_⟩
 ·unfold zax
  rw[zN];refine⟨some a,cap,rfl,hlc,hcm,fun j hj=>⟨a,rfl,((hex j).choose_spec hj).1,?_⟩⟩
  have hgd:((List.range len).map (fun i=>(hex i).choose)).getD j 0=(hex j).choose:=by
   rw[zqaa,zqaj,zqbe hj];rfl
  show w.cell? (a.add j)=some (.int .i64 (((List.range len).map (fun i=>(hex i).choose)).getD j 0));rw[hgd];exact((hex j).choose_spec hj).2
 have h1:=hw ((elems.length+rest.length)*8) (by simp[DataW.weights,zED,zBH]);have h2:=reachBytes_lt;have h5:(2:Nat) ^ 47=140737488355328:=by decide
 rw[zN];omega
def zcl {base:Nat}{v:Value}{d:DataW H}{p:List MemPlace}(zV:Value.okWide prog w .any base 22 v)(h:DataW.Trod enc prog w 0 (fun _=>true) true 22 v d p)
  (hw:∀ y∈DataW.weights prog 22 d,y<=reachBytes):∃ zs:List Int,zax w v zs/\zs.length<=140737488355328:=by
 obtain⟨a0,len,cap,rfl⟩:=okWide_slice zED zV;obtain⟨fuel,hf⟩:=h;obtain⟨v,zs,hcs,h1,h2⟩:=zlG hf;simp[Value.cells] at hcs;subst hcs;exact⟨zs,h1,h2 hw⟩
def zoo {base:Nat}{v:Value}{d:DataW H}{p:List MemPlace}(zV:Value.okWide prog w .any base 24 v)(h:DataW.Trod enc prog w 0 (fun _=>true) true 24 v d p)
  (hw:∀ y∈DataW.weights prog 24 d,y<=reachBytes):∃ (xv yv:Value) (zx zy:List Int),v=.agg #[xv,yv]/\zax w xv zx/\zax w yv zy/\zx.length<=140737488355328/\zy.length<=140737488355328:=by
 obtain⟨v0,v1,y0,y1,n,rfl,rfl,rfl,h0,h1⟩:=open_agg2 underlying24 (by kernel_rfl) (by kernel_rfl) zV h;obtain⟨u0,zx,e0,r0,b0⟩:=zlG h0;obtain⟨u1,zy,e1,r1,b1⟩:=zlG h1;simp at e0 e1;subst e0 e1
 have hww:∀ y,y∈DataW.weights prog 22 y0.1∨y∈DataW.weights prog 22 y1.1->y<=reachBytes:=fun y hy=>hw y (by
  rw[DataW.weights,underlying24];show y∈DataW.weightsEach prog [22,22] [y0.1,y1.1];simp[DataW.weightsEach,hy])
 exact⟨_,_,zx,zy,rfl,r0,r1,b0 (fun y hy=>hww y (.inl hy)),b1 (fun y hy=>hww y (.inr hy))⟩
end
end Go.Proofs.YtadgpgofcjpnjaaGreatDoor
