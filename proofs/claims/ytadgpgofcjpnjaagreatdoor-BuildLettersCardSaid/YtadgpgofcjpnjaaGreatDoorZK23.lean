/- Part. -/
import Derived.Test.YtadgpgofcjpnjaaGreatDoorZK22
set_option linter.unusedVariables false
set_option linter.defProp false
set_option linter.unusedSimpArgs false
set_option maxRecDepth 100000
set_option maxHeartbeats 16000000
namespace Go.Proofs.YtadgpgofcjpnjaaGreatDoor
open Go.Proofs.Tryz
open Go.RowKit
def zGD {k:Int}(hk:zam k){x y:Rat}(hx:zcs k (.inr x)=true)(hy:zcs k (.inr y)=true):zcs k (zbP k (.inr x) (.inr y))=true:=by
 rcases hk with rfl|rfl|rfl;rfl
 ·have h1:0<x:=by simpa [zcs] using hx
  have h2:0<y:=by simpa [zcs] using hy
  have h3:=Rat.mul_pos h1 h2;show zcs 2 (zaX (.inr x) (.inr y))=true;unfold zaX
  have e1:¬ (x=0∨y=0):=by
   rintro (e|e);rw[e] at h1;exact absurd h1 (by decide +kernel);rw[e] at h2;exact absurd h2 (by decide +kernel)
  simp[zcs,h3,e1]
 have h1:0<x:=by simpa [zcs] using hx
 have h2:0<y:=by simpa [zcs] using hy
 have h3:=Rat.mul_pos h1 h2;show zcs 3 (zaX (.inr x) (.inr y))=true;unfold zaX
 have e1:¬ (x=0∨y=0):=by
  rintro (e|e);rw[e] at h1;exact absurd h1 (by decide +kernel);rw[e] at h2;exact absurd h2 (by decide +kernel)
 simp[zcs,h3,e1]
def zoZ {k:Int}(hk:zam k){a b:ByteArray}(ha:wgtB k a=true)(hb:wgtB k b=true)(h1:a.size<=40)(h2:b.size<=40):wgtB k (tx ((srE k hk).mul (vE hk a) (vE hk b)))=true:=by
 have hf:=zkA hk ha hb h1 h2;obtain⟨u,hu⟩:=zcO ha;obtain⟨v,hv⟩:=zcO hb;refine zgc (v:=((srE k hk).mul (vE hk a) (vE hk b)).1) ⟨(zcW hf).e,?_⟩;show zcs k (zbP k (vE hk a).1 (vE hk b).1)=true;rw[zim hk hu.val,zim hk hv.val]
 match u,v,hu,hv with
 | .inl _,_,hu,_=>exact absurd hu.has (by simp[zcs])
 | .inr x,.inl _,_,hv=>exact absurd hv.has (by simp[zcs])
 | .inr x,.inr y,hu,hv=>exact zGD hk hu.has hv.has
def zpa {k:Int}(hk:zam k){a b:ByteArray}(ha:wgtB k a=true)(hb:wgtB k b=true)(h1:a.size<=40)(h2:b.size<=40):vE hk (tx ((srE k hk).mul (vE hk a) (vE hk b)))=(srE k hk).mul (vE hk a) (vE hk b) :=
 Subtype.ext (zim hk (zcW (zkA hk ha hb h1 h2)))
end Go.Proofs.YtadgpgofcjpnjaaGreatDoor
