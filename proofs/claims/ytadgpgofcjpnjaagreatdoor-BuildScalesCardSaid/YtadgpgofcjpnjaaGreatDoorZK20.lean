/- Part. -/
import Derived.Test.YtadgpgofcjpnjaaGreatDoorZK08
set_option linter.unusedVariables false
set_option linter.defProp false
set_option linter.unusedSimpArgs false
set_option maxRecDepth 100000
set_option maxHeartbeats 16000000
namespace Go.Proofs.YtadgpgofcjpnjaaGreatDoor
open Go.Proofs.Tryz
open Go.ChangeShapes Go.WideShapes Go.ChangeAt Go.RowKit Go.Lib Go.Joins
def zED:prog.underlying 22=some (.slice 3):=underlying22
def zBG (a:Addr)(i:Nat):(a.add (i*1)).add 0=a.add i:=by rw[Nat.mul_one];unfold Addr.add;split <;> simp_all
section
variable {H:Type} {enc:TypeId×Value->H} {w:World}
end
end Go.Proofs.YtadgpgofcjpnjaaGreatDoor
