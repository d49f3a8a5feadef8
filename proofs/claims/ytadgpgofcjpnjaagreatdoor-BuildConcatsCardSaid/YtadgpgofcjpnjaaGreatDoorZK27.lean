/- Part. -/
import Derived.Test.YtadgpgofcjpnjaaGreatDoorZK23
import Derived.Test.YtadgpgofcjpnjaaGreatDoorZK25
set_option linter.unusedVariables false
set_option linter.defProp false
set_option linter.unusedSimpArgs false
set_option maxRecDepth 100000
set_option maxHeartbeats 16000000
namespace Go.Proofs.YtadgpgofcjpnjaaGreatDoor
open Go.Proofs.Tryz
open Go.RowKit
def zid (x:List Nat):zcc x 0 x.length=x:=by unfold zcc;simp
def zcx {w:World}{xv yv:Value}{x y:List Nat}(hx:WIn w xv x)(hy:WIn w yv y)(hl:x.length+y.length<=6):Calls prog 12 #[xv,yv] w (zab (.bool true) w):=by
 have h:=zdH _ _ xv yv w hx.at' hy.at' (by rw[zqbn];omega) (by rw[zqbn];omega);rw[hx.word,hy.word,zqbn,zqbn,decide_eq_true hl] at h;exact h
def zEH {k:Int}(h:zbv k=false)(a:ByteArray):wgtB k a=false:=by
 cases e:wgtB k a;rfl;obtain⟨v,hv⟩:=zcO e;have:=(zbQ k).2 hv.val.kind;rw[h] at this;cases this
def zjd (k:Int)(w:World):Calls prog 15 #[.int .i64 k] w (zab (.bool (zbv k)) w) :=
 (zmB k w).mono fun e w' ⟨h1,h2⟩=>⟨h1,by rw[<- h2];exact World.grownBy.refl _ _⟩
def zkp {a b:zah}(ha:validB a=true)(hb:validB b=true)(h:b.kind=a.kind):checkV a b=0:=by
 unfold checkV;rw[if_pos ⟨ha,hb⟩,if_pos h.symm]
def zkq (w:World)(k:Int)(a b:zah)(ua ub xv yv:Value) :
  zbV w k a ua xv yv w.heap.size true ((w.alloc (.cells #[.int .i64 k,xv,yv,.int .i64 a.kind,.int .i64 a.start,.string a.lead,ua,.bool true] 48)).alloc (.cells #[.int .i64 k,xv,yv,.int .i64 b.kind,.int .i64 b.start,.string b.lead,ub,.bool true] 48)).drew /\
  zbV w k b ub xv yv (w.heap.size+1) true ((w.alloc (.cells #[.int .i64 k,xv,yv,.int .i64 a.kind,.int .i64 a.start,.string a.lead,ua,.bool true] 48)).alloc (.cells #[.int .i64 k,xv,yv,.int .i64 b.kind,.int .i64 b.start,.string b.lead,ub,.bool true] 48)).drew:=by
 have g1:=zGA w (.cells #[.int .i64 k,xv,yv,.int .i64 a.kind,.int .i64 a.start,.string a.lead,ua,.bool true] 48) none;have g2:=zGA (w.alloc (.cells #[.int .i64 k,xv,yv,.int .i64 a.kind,.int .i64 a.start,.string a.lead,ua,.bool true] 48)) (.cells #[.int .i64 k,xv,yv,.int .i64 b.kind,.int .i64 b.start,.string b.lead,ub,.bool true] 48) none;have h1:zbV w k a ua xv yv w.heap.size true _:=⟨zaG w _,zqab _,g1⟩;have hsz:(w.alloc (.cells #[.int .i64 k,xv,yv,.int .i64 a.kind,.int .i64 a.start,.string a.lead,ua,.bool true] 48)).heap.size=w.heap.size+1:=by simp
 have h2:zbV w k b ub xv yv (w.heap.size+1) true _:=⟨by rw[<- hsz];exact zaG _ _,Nat.le_succ _,zaa g1 g2⟩;exact⟨(h1.grown g2).grown (zag _ none),h2.grown (zag _ none)⟩
end Go.Proofs.YtadgpgofcjpnjaaGreatDoor
