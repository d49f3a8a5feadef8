/- WD9 -/
import Derived.Test.YtaogepcaoogpgaaGreatDoorX33
set_option linter.unusedVariables false
set_option linter.unusedSimpArgs false
set_option maxRecDepth 100000
set_option maxHeartbeats 16000000
namespace Go.Proofs.YtaogepcaoogpgaaGreatDoor
open Go.RowKit
theorem MatA.square {w:World}{v:Value}{n:Nat}{ln:Nat→Nat}{G:Nat→Nat→ByteArray}(h:MatA w v n ln G)(hl:∀ i,i<n→ln i=n):MatA w v n (fun _=>n) G:=by
 obtain⟨rs,h1,h2⟩:=h;exact⟨rs,h1,fun i hi=>by have:=h2 i hi;rw[hl i hi] at this;exact this⟩
end Go.Proofs.YtaogepcaoogpgaaGreatDoor
