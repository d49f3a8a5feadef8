/- Part. -/
import Derived.Test.YtadgpgofcjpnjaaGreatDoorZK16
set_option linter.unusedVariables false
set_option linter.defProp false
set_option linter.unusedSimpArgs false
set_option maxRecDepth 100000
set_option maxHeartbeats 16000000
namespace Go.Proofs.YtadgpgofcjpnjaaGreatDoor
open Go.Proofs.Tryz
open Go.RowKit
def zuM {k:Int}(hk:zam k){a:ByteArray}(h:wgtB k a=true){n:Nat}(hn:a.size<=n)(h1:1<=n):zaA n (vE hk a).1:=by
 obtain⟨v,hv⟩:=zcO h;rw[zim hk hv.val]
 match v,hv with
 | .inl b,hv=>exact absurd hv.has (by simp[zcs])
 | .inr x,hv=>exact zzK hv.e hn h1
def zkA {k:Int}(hk:zam k){a b:ByteArray}(ha:wgtB k a=true)(hb:wgtB k b=true)(h1:a.size<=40)(h2:b.size<=40):zav ((srE k hk).mul (vE hk a) (vE hk b)) :=
 zaA.fits (znh (m:=40) (n:=40) (by omega) (zuM hk ha h1 (by omega)) (zuM hk hb h2 (by omega))) (by omega)
def zjT {k:Int}(hk:zam k){a b:ByteArray}(ha:wgtB k a=true)(hb:wgtB k b=true)(h1:a.size<=40)(h2:b.size<=40):∀ w,Calls prog 60 #[.int .i64 k,.string a,.string b] w (zab (.tuple #[.string (tx ((srE k hk).mul (vE hk a) (vE hk b))),.int .i64 0]) w):=by
 obtain⟨u,hu⟩:=zcO ha;obtain⟨v,hv⟩:=zcO hb;refine zrA hk (u:=vE hk a) (v:=vE hk b) (r:=(srE k hk).mul (vE hk a) (vE hk b)) ?_ ?_ rfl (zkA hk ha hb h1 h2) rfl;rw[zim hk hu.val];exact hu.val;rw[zim hk hv.val];exact hv.val
end Go.Proofs.YtadgpgofcjpnjaaGreatDoor
