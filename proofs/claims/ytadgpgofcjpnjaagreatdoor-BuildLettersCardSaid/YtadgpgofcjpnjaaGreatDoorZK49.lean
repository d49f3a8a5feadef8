/- Part. -/
import Derived.Test.YtadgpgofcjpnjaaGreatDoorZK10
set_option linter.unusedVariables false
set_option linter.defProp false
set_option linter.unusedSimpArgs false
set_option maxRecDepth 100000
set_option maxHeartbeats 16000000
namespace Go.Proofs.YtadgpgofcjpnjaaGreatDoor
open Go.Proofs.Tryz
open Go.RowKit
def zvI {k:Int}(hk:zbv k=true){l:List Nat}(hl:∀ s∈l,1<=s/\s<=500)(hn:l.length<=500)(hd:l.Nodup):detB (zcb k (zak k) l)=true:=by
 have hv:=ziN hk (fun s hs=>(hl s hs).2) hn
 have hall:∀ s∈(zcb k (zak k) l).states,∀ a∈s.arcs,∃ x:Nat,x∈l/\a.i=(x:Int)/\a.o=(x:Int):=fun s hs a ha=>by
  rcases List.mem_cons.1 hs with rfl|hs
  ·obtain⟨x,hx,rfl⟩:=zqbf.1 ha
   exact⟨x,hx,rfl,rfl⟩
  rw[zqbk.1 hs] at ha;cases ha
 have hacc:everyB zbN (zcb k (zak k) l)=true:=zjQ hv (fun s hs a ha=>by
  obtain⟨x,_,h1,h2⟩:=hall s hs a ha;rw[h1,h2])
 have hq:everyB zfE (zcb k (zak k) l)=true:=by
  unfold everyB;rw[hv,Bool.true_and,List.all_eq_true];intro s hs;rw[List.all_eq_true];intro a ha;obtain⟨x,hx,h1,h2⟩:=hall s hs a ha;have:=(hl x hx).1;unfold zfE;rw[h1];simp;omega
 unfold detB;rw[hacc,hq,Bool.true_and,Bool.true_and,List.all_eq_true];intro s hs;unfold zgf;rw[zqca];rcases List.mem_cons.1 hs with rfl|hs
 ·show((l.map (fun s=>(⟨(s:Nat),(s:Nat),zak k,1⟩:zaz))).map zaz.i).Nodup
  rw[List.map_map];exact List.Pairwise.map _ (fun a b h e=>h (Int.ofNat.inj e)) hd
 rw[zqbk.1 hs];exact List.Pairwise.nil
end Go.Proofs.YtadgpgofcjpnjaaGreatDoor
