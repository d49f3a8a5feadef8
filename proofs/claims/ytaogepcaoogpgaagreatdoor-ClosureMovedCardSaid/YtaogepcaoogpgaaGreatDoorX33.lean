/- WB4 -/
import Derived.Test.YtaogepcaoogpgaaGreatDoorX32
set_option linter.unusedVariables false
set_option linter.unusedSimpArgs false
set_option maxRecDepth 100000
set_option maxHeartbeats 16000000
namespace Go.Proofs.YtaogepcaoogpgaaGreatDoor
open Go.RowKit
def inM (n:Nat)(G:Nat→Nat→ByteArray)(i j:Nat):ByteArray:=if i<n∧j<n then G i j else ⟨#[]⟩
theorem MatV.inM {k:Int}{w:World}{v:Value}{n:Nat}{F:Nat→Nat→El k}(h:MatV w v n n F):MatA w v n (fun _=>n) (inM n (fun i j=>tx (F i j))) :=
 h.texts.congr (fun i hi j hj=>by unfold Go.Proofs.YtaogepcaoogpgaaGreatDoor.inM;rw[if_pos ⟨hi,hj⟩])
theorem zup {k:Int}{n:Nat}{F:Nat→Nat→El k}(h:∀ i,i<n→∀ j,j<n→FitE (F i j))(i j:Nat):(inM n (fun i j=>tx (F i j)) i j).size≤maxLen:=by
 unfold inM
 split
 ·rename_i e;exact ziM (h i e.1 j e.2)
 ·decide
theorem zwM {k:Int}(hk:zad k){n:Nat}{F:Nat→Nat→El k}(h:∀ i,i<n→∀ j,j<n→FitE (F i j)):zfr k n (fun _=>n) (inM n (fun i j=>tx (F i j))) :=
 ⟨hk,fun _ _=>rfl,fun i j hi hj=>⟨_,by unfold inM;rw[if_pos ⟨hi,hj⟩];exact zby (h i hi j hj)⟩⟩
theorem zmU {k:Int}{n:Nat}{ln:Nat→Nat}{G:Nat→Nat→ByteArray}(hm:zfr k n ln G)(h9:n≤9){w:World}{e:Ending}{w':World}(h:zfM k n ln G w e w') :
  w.grownBy w' none∧∃ (hk:zad k) (A:Nat→Nat→El k),(∀ i,i<n→∀ j,j<n→G i j=tx (A i j)∧FitE (A i j)) ∧
   ∃ v c,e = .returned (.tuple #[v,.int .i64 c])∧(c=0→MatV w' v n n (stM (srE k hk) A n)∧∀ i,i<n→∀ j,j<n→FitE (stM (srE k hk) A n i j)):=by
 obtain⟨hg,h⟩:=h;refine⟨hg,?_⟩;rcases h with⟨hn,_⟩|⟨_,h60,_⟩|⟨_,_,hk,A,hA,h⟩
 ·exact absurd hm hn
 ·omega
 ·refine⟨hk,A,hA,?_⟩
  rcases h with⟨hp,v,h1,h2⟩|⟨_,h1⟩
  ·refine⟨v,0,h1,fun _=>⟨h2,fun i hi j hj => ?_⟩⟩
   have:=zgK hk (Nat.le_refl _) hp i hi j hj;rw[zdq _ _ _ _ _ (Nat.le_refl _) i j hi,zrV _ _ _ hj] at this;exact this
  ·exact⟨_,2,h1,fun h=>absurd h (by decide)⟩
end Go.Proofs.YtaogepcaoogpgaaGreatDoor
