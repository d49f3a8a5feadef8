/- Part. -/
import Derived.Test.YtadgpgofcjpnjaaGreatDoorZK13
set_option linter.unusedVariables false
set_option linter.defProp false
set_option linter.unusedSimpArgs false
set_option maxRecDepth 100000
set_option maxHeartbeats 16000000
namespace Go.Proofs.YtadgpgofcjpnjaaGreatDoor
open Go.Proofs.Tryz
open Go.RowKit
def zEM (zx zy:List Int)(w:World)(e:Ending)(w':World):Prop:=∃ r:Int,e=.returned (.int .i64 r)/\(r=0↔zx=zy)/\w.grownBy w' none
def ziP (zx zy:List Int)(xv yv:Value)(w:World)(hx:zax w xv zx)(hy:zax w yv zy)(bx:zx.length<=140737488355328):Calls prog 18 #[xv,yv] w (zEM zx zy w):=by
 obtain⟨Ax,cx,rfl,_,_,h1⟩:=hx;obtain⟨Ay,cy,rfl,_,_,h2⟩:=hy;obtain⟨lx,hlx⟩:∃ lx,zx.length=lx:=⟨_,rfl⟩;obtain⟨ly,hly⟩:∃ ly,zy.length=ly:=⟨_,rfl⟩;rw[hlx] at h1 bx;rw[hly] at h2;rw[hlx,hly];have HL:=zHd (zAI hlx hly)
 by_cases he:lx=ly
 ·subst he
  have H1:=zHd h1;have H2:=zHd h2;clear h1 h2 hlx hly;go_enter func18,ntmps18;go_wp2
  go_loopw [5] (fun i wr=>∃ k:Nat,i=.int .i64 k/\k<=lx/\(∀ j,j<k->zx.getD j 0=zy.getD j 0)/\w.grownBy wr none) (fun i _=>lx-(intOf i).toNat)
  case atStart=>exact⟨0,rfl,by omega,fun j hj=>absurd hj (by omega),zai _ _⟩
  case round =>
   obtain⟨k,rfl,hk,hs,hgr⟩:=hrel;have HS:=zHd hs;have HGR:=zHd hgr;clear hs
   by_cases hlt:k<lx
   ·obtain⟨a1,rfl,ha1,hc1⟩:=H1.out k hlt
    obtain⟨a2,rfl,ha2,hc2⟩:=H2.out k hlt;have e1:=hgr.cell hc1 (by simp);have e2:=hgr.cell hc2 (by simp);have f1:wr.drew.cell? (a1.add k)=some (.int .i64 (zx.getD k 0)):=e1;have f2:wr.drew.cell? (a2.add k)=some (.int .i64 (zy.getD k 0)):=e2;have f3:wr.drew.drew.cell? (a1.add k)=some (.int .i64 (zx.getD k 0)):=e1;have f4:wr.drew.drew.cell? (a2.add k)=some (.int .i64 (zy.getD k 0)):=e2;have n1:(k:Int)<(lx:Int):=(by omega);have n2:IntKind.i64.wrap ((k:Int)+1)=(k:Int)+1:=(by rw[zqah];omega);have i2:(0:Int)<=(k:Int):=(by omega);generalize hu:zx.getD k 0=u at *;generalize hv:zy.getD k 0=v at *;have HU:=zHd (zAI hu hv);clear hgr hc1 hc2 hu hv;rcases Int.lt_trichotomy u v with hlv|hlv|hlv
    ·have t1:decide (u<v)=true:=by simpa using hlv
     have HN:=zHd hlv;go_wp2
     go_region_held2 (fun W'=>W'.cell? (a1.add k)=some (.int .i64 u)/\W'.cell? (a2.add k)=some (.int .i64 v)) (first|exact⟨f1,f2⟩|exact⟨f3,f4⟩|go_keep) (fail)
     go_wp2;go_ret;refine⟨-1,rfl,⟨fun h=>absurd h (by decide),fun h=>?_⟩,by first|exact HGR.out|exact zaa HGR.out (zag _ _)|exact zaa (zaa HGR.out (zag _ _)) (zag _ _)⟩;exact zQbV
    ·subst hlv
     have t1:¬ u<u:=Int.lt_irrefl u;go_wp2
     go_region_held2 (fun W'=>W'.cell? (a1.add k)=some (.int .i64 u)/\W'.cell? (a2.add k)=some (.int .i64 u)) (first|exact⟨f1,f2⟩|exact⟨f3,f4⟩|go_keep) (fail)
     go_wp2
     go_region_held2 (fun W'=>W'.cell? (a1.add k)=some (.int .i64 u)/\W'.cell? (a2.add k)=some (.int .i64 u)) (first|exact⟨f1,f2⟩|exact⟨f3,f4⟩|go_keep) (fail)
     go_wp2
     go_roundw
     case rel=>exact⟨k+1,by go_num,by omega,fun j hj=>by
      by_cases e:j=k
      subst e;rw[HU.out.1,HU.out.2];exact HS.out j (by omega),by first|exact HGR.out|exact zaa HGR.out (zag _ _)|exact zaa (zaa HGR.out (zag _ _)) (zag _ _)⟩
     case measure=>simp[intOf];omega
    have t1:¬ u<v:=(by omega);have t2:decide (u > v)=true:=(by simpa using hlv);have HN:=zHd hlv;go_wp2
    go_region_held2 (fun W'=>W'.cell? (a1.add k)=some (.int .i64 u)/\W'.cell? (a2.add k)=some (.int .i64 v)) (first|exact⟨f1,f2⟩|exact⟨f3,f4⟩|go_keep) (fail)
    go_wp2
    go_region_held2 (fun W'=>W'.cell? (a1.add k)=some (.int .i64 u)/\W'.cell? (a2.add k)=some (.int .i64 v)) (first|exact⟨f1,f2⟩|exact⟨f3,f4⟩|go_keep) (fail)
    go_wp2;go_ret;refine⟨1,rfl,⟨fun h=>absurd h (by decide),fun h=>?_⟩,by first|exact HGR.out|exact zaa HGR.out (zag _ _)|exact zaa (zaa HGR.out (zag _ _)) (zag _ _)⟩;exact zQbV
   have n1:¬ (k:Int)<(lx:Int):=by omega
   go_wp2;go_ret;refine⟨0,rfl,⟨fun _=>List.ext_getElem (by rw[HL.out.1,HL.out.2]) (fun j h1 h2=>?_),fun _=>rfl⟩,HGR.out⟩;have:=HS.out j (by rw[HL.out.1] at h1;omega);rw[zqaa,zqaa,zqac h1,zqac h2] at this;exact this
 have HE:=zHd he;have hne:((lx:Int)==(ly:Int))=false:=by simp;omega
 by_cases hlt:lx<ly
 ·have n1:(lx:Int)<(ly:Int):=by omega
  have n2:¬ (lx:Int)=(ly:Int):=by omega
  clear h1 h2 hlx hly;go_enter func18,ntmps18;go_wp2;go_ret;exact⟨-1,rfl,⟨fun h=>absurd h (by decide),fun h=>absurd (by rw[<- HL.out.1,<- HL.out.2,h]) HE.out⟩,zai _ _⟩
 have n1:¬ (lx:Int)<(ly:Int):=by omega
 have n2:¬ (lx:Int)=(ly:Int):=by omega
 clear h1 h2 hlx hly;go_enter func18,ntmps18;go_wp2;go_ret;exact⟨1,rfl,⟨fun h=>absurd h (by decide),fun h=>absurd (by rw[<- HL.out.1,<- HL.out.2,h]) HE.out⟩,zai _ _⟩
end Go.Proofs.YtadgpgofcjpnjaaGreatDoor
