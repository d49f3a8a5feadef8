/- WB8 -/
import Derived.Test.YtaogepcaoogpgaaGreatDoorX23
set_option linter.unusedVariables false
set_option linter.unusedSimpArgs false
set_option maxRecDepth 100000
set_option maxHeartbeats 16000000
namespace Go.Proofs.YtaogepcaoogpgaaGreatDoor
open Go.ChangeShapes Go.WideShapes Go.ChangeAt Go.RowKit Go.Lib Go.Joins
theorem slS7:Tryz.prog.underlying 33=some (.slice 9):=Tryz.underlying33
theorem slM7:Tryz.prog.underlying 22=some (.slice 33):=Tryz.underlying22
theorem slI7:Tryz.prog.underlying 51=some (.slice 3):=Tryz.underlying51
theorem zCl:Tryz.prog.cellsOf 33=1:=by kernel_rfl
theorem zlh (a:Addr)(i:Nat):(a.add (i * 1)).add 0=a.add i:=by rw[Nat.mul_one];unfold Addr.add;split <;> simp_all
section
variable {H:Type} {enc:TypeId × Value→H} {w:World}
theorem zCm {fuel:Nat}{cs:List Value}{x:DataW H × List MemPlace}(h:DataW.trod enc Tryz.prog w 0 (fun _=>true) true fuel 33 cs=some x) :
  ∃ (v:Value) (n:Nat) (g:Nat→ByteArray),cs=[v]∧RowR w v n (fun j => .string (g j))∧∀ j,(g j).size≤maxLen:=by
 rcases DataW.trod_slice slS7 h with⟨rfl,rfl⟩|⟨a,len,cap,elems,rest,n,rfl,rfl,rfl,_,hlc,hcm,hel,he,_,_⟩
 ·exact⟨_,0,fun _=>⟨#[]⟩,rfl,⟨none,0,rfl,Nat.le_refl _,by decide,fun j hj=>absurd hj (by omega)⟩,fun _=>by show(⟨#[]⟩:ByteArray).size≤maxLen;decide⟩
 ·have hex:∀ i,∃ s:ByteArray,s.size≤maxLen∧(i<len→a.block<w.heap.size∧w.cell? (a.add i)=some (.string s)):=by
   intro i
   by_cases hi:i<len
   ·have h1:=he i hi
    rw[List.getElem?_eq_getElem (by omega:i<elems.length),zkW] at h1;obtain⟨cs,hcs,ht⟩:=Option.bind_eq_some_iff.1 h1;obtain⟨s,c0,d0,hs⟩:=DataW.trod_string Tryz.underlying9 ht;refine⟨s,hs,fun _=>⟨?_,?_⟩⟩
    ·have:=World.cells?_block hcs (by omega)
     rwa [zaj] at this
    ·have:=(World.cells?_some hcs).2.2 0 (by omega)
     rw[zlh,c0] at this;exact this
   ·exact⟨⟨#[]⟩,by decide,fun h=>absurd h hi⟩
  exact⟨_,len,fun i=>(hex i).choose,rfl,⟨some a,cap,rfl,hlc,hcm,fun j hj=>⟨a,rfl,((hex j).choose_spec.2 hj).1,((hex j).choose_spec.2 hj).2⟩⟩,fun j=>(hex j).choose_spec.1⟩
theorem zyP {fuel:Nat}{cs:List Value}{x:DataW H × List MemPlace}(h:DataW.trod enc Tryz.prog w 0 (fun _=>true) true fuel 22 cs=some x) :
  ∃ (v:Value) (n:Nat) (ln:Nat→Nat) (G:Nat→Nat→ByteArray),cs=[v]∧MatA w v n ln G∧∀ i j,(G i j).size≤maxLen:=by
 rcases DataW.trod_slice slM7 h with⟨rfl,rfl⟩|⟨a,len,cap,elems,rest,n,rfl,rfl,rfl,_,hlc,hcm,hel,he,_,_⟩
 ·exact⟨_,0,fun _=>0,fun _ _=>⟨#[]⟩,rfl,⟨fun _ => .slice none 0 0,⟨none,0,rfl,Nat.le_refl _,by decide,fun j hj=>absurd hj (by omega)⟩,fun i hi=>absurd hi (by omega)⟩,fun _ _=>by show(⟨#[]⟩:ByteArray).size≤maxLen;decide⟩
 ·have hex:∀ i,∃ r:Value × Nat × (Nat→ByteArray),(∀ j,(r.2.2 j).size≤maxLen)∧(i<len→a.block<w.heap.size∧w.cell? (a.add i)=some r.1∧RowR w r.1 r.2.1 (fun j => .string (r.2.2 j))):=by
   intro i
   by_cases hi:i<len
   ·have h1:=he i hi
    rw[List.getElem?_eq_getElem (by omega:i<elems.length),zCl] at h1;obtain⟨cs,hcs,ht⟩:=Option.bind_eq_some_iff.1 h1;obtain⟨v,m,g,rfl,hr,hs⟩:=zCm ht;refine⟨(v,m,g),hs,fun _=>⟨?_,?_,hr⟩⟩
    ·have:=World.cells?_block hcs (by omega)
     rwa [zaj] at this
    ·have:=(World.cells?_some hcs).2.2 0 (by omega)
     rw[zlh] at this;exact this
   ·exact⟨(.slice none 0 0,0,fun _=>⟨#[]⟩),fun _=>by show(⟨#[]⟩:ByteArray).size≤maxLen;decide,fun h=>absurd h hi⟩
  exact⟨_,len,fun i=>(hex i).choose.2.1,fun i=>(hex i).choose.2.2,rfl,
   ⟨fun i=>(hex i).choose.1,⟨some a,cap,rfl,hlc,hcm,fun j hj=>⟨a,rfl,((hex j).choose_spec.2 hj).1,((hex j).choose_spec.2 hj).2.1⟩⟩,fun i hi=>((hex i).choose_spec.2 hi).2.2⟩,fun i j=>(hex i).choose_spec.1 j⟩
theorem zrf {base:Nat}{v:Value}{d:DataW H}{p:List MemPlace}(hval:Value.okWide Tryz.prog w .any base 22 v)(h:DataW.Trod enc Tryz.prog w 0 (fun _=>true) true 22 v d p) :
  ∃ (n:Nat) (ln:Nat→Nat) (G:Nat→Nat→ByteArray),MatA w v n ln G∧∀ i j,(G i j).size≤maxLen:=by
 obtain⟨a0,len,cap,rfl⟩:=okWide_slice slM7 hval;obtain⟨fuel,hf⟩:=h;obtain⟨v,n,ln,G,hcs,h1,h2⟩:=zyP hf;simp[Value.cells] at hcs;subst hcs;exact⟨n,ln,G,h1,h2⟩
theorem zyQ {fuel:Nat}{cs:List Value}{x:DataW H × List MemPlace}(h:DataW.trod enc Tryz.prog w 0 (fun _=>true) true fuel 51 cs=some x) :
  ∃ (v:Value) (n:Nat) (f:Nat→Int),cs=[v]∧RowR w v n (fun j => .int .i64 (f j)):=by
 rcases DataW.trod_slice slI7 h with⟨rfl,rfl⟩|⟨a,len,cap,elems,rest,n,rfl,rfl,rfl,_,hlc,hcm,hel,he,_,_⟩
 ·exact⟨_,0,fun _=>0,rfl,none,0,rfl,Nat.le_refl _,by decide,fun j hj=>absurd hj (by omega)⟩
 ·have hex:∀ i,∃ z:Int,(i<len→a.block<w.heap.size∧w.cell? (a.add i)=some (.int .i64 z)):=by
   intro i
   by_cases hi:i<len
   ·have h1:=he i hi
    rw[List.getElem?_eq_getElem (by omega:i<elems.length),zqP] at h1;obtain⟨cs,hcs,ht⟩:=Option.bind_eq_some_iff.1 h1;obtain⟨z,c0,d0,_⟩:=DataW.trod_int Tryz.underlying3 ht;refine⟨z,fun _=>⟨?_,?_⟩⟩
    ·have:=World.cells?_block hcs (by omega)
     rwa [zaj] at this
    ·have:=(World.cells?_some hcs).2.2 0 (by omega)
     rw[zlh,c0] at this;exact this
   ·exact⟨0,fun h=>absurd h hi⟩
  exact⟨_,len,fun i=>(hex i).choose,rfl,some a,cap,rfl,hlc,hcm,fun j hj=>⟨a,rfl,((hex j).choose_spec hj).1,((hex j).choose_spec hj).2⟩⟩
theorem zyR {base:Nat}{v:Value}{d:DataW H}{p:List MemPlace}(hval:Value.okWide Tryz.prog w .any base 51 v)(h:DataW.Trod enc Tryz.prog w 0 (fun _=>true) true 51 v d p) :
  ∃ (n:Nat) (f:Nat→Int),RowR w v n (fun j => .int .i64 (f j)):=by
 obtain⟨a0,len,cap,rfl⟩:=okWide_slice slI7 hval;obtain⟨fuel,hf⟩:=h;obtain⟨v,n,f,hcs,h1⟩:=zyQ hf;simp[Value.cells] at hcs;subst hcs;exact⟨n,f,h1⟩
end
end Go.Proofs.YtaogepcaoogpgaaGreatDoor
