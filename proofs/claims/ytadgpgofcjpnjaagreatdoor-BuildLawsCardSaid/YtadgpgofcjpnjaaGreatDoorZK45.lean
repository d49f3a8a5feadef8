/- Part. -/
import Derived.Test.YtadgpgofcjpnjaaGreatDoorZK27
import Derived.Test.YtadgpgofcjpnjaaGreatDoorZK33
set_option linter.unusedVariables false
set_option linter.defProp false
set_option linter.unusedSimpArgs false
set_option maxRecDepth 100000
set_option maxHeartbeats 16000000
namespace Go.Proofs.YtadgpgofcjpnjaaGreatDoor
open Go.Proofs.Tryz
open Go.RowKit
structure ziQ (k:Int)(n c:Nat)(m:zah):Prop where
 val:validB m=true
 kind:m.kind=k
 len:m.states.length<=n
 arcs:zaj m.states<=c
structure zdI (k:Int)(n c:Nat)(m:zah):Prop extends ziQ k n c m where
 lead:m.lead.size<=40
def zjU {k:Int}(hk:zam k):(zak k).size<=40:=by
 rcases hk with rfl|rfl|rfl <;> decide +kernel
section
variable {k:Int} {a b:zah} {va vb:Value} {w:World} {n1 c1 n2 c2:Nat}
def ziQ.wlead (h:ziQ k n1 c1 a):wgtB k a.lead=true:=by have:=zdc h.val;rw[h.kind] at this;exact this
def zje (hk:zam k)(ha:ziQ k n1 c1 a)(hb:ziQ k n2 c2 b)(h1:1+n1+n2<=3000)(h2:2+c1+c2<=30000):zdI k (1+n1+n2) (2+c1+c2) (zbA (zak k) a b) where
 val:=by have:=zkz ha.val hb.val (ha.kind.trans hb.kind.symm) (by have:=ha.len;have:=hb.len;omega) (by have:=ha.arcs;have:=hb.arcs;omega);rw[ha.kind] at this;exact this
 kind:=ha.kind
 len:=by rw[zsf];have:=ha.len;have:=hb.len;omega
 arcs:=by rw[zql];have:=ha.arcs;have:=hb.arcs;omega
 lead:=zjU hk
noncomputable def catL (hk:zam k)(a b:zah):ByteArray:=tx ((srE k hk).mul (vE hk a.lead) (vE hk b.lead))
def zgJ (hk:zam k)(ha:zdI k n1 c1 a)(hb:zdI k n2 c2 b)(h1:n2+n1<=3000)(h2:c2+c1+n1<=30000):ziQ k (n2+n1) (c2+c1+n1) (zba (catL hk a b) a b) where
 val:=by
  have hl:=zoZ hk ha.wlead hb.wlead ha.lead hb.lead;have hl2:wgtB a.kind (catL hk a b)=true:=by rw[ha.kind];exact hl
  exact zjO ha.val hb.val (ha.kind.trans hb.kind.symm) hl2 (by have:=ha.len;have:=hb.len;omega) (by have:=ha.len;have:=ha.arcs;have:=hb.arcs;omega)
 kind:=ha.kind
 len:=by rw[zqm];have:=ha.len;have:=hb.len;omega
 arcs:=zqam (zok _ _ _) (by have:=ha.len;have:=ha.arcs;have:=hb.arcs;omega)
def zBQ (hk:zam k)(ha:ziQ k n1 c1 a)(h1:1+n1<=3000)(h2:1+c1+n1<=30000):zdI k (1+n1) (1+c1+n1) (zbt (zak k) a) where
 val:=by have:=ziX ha.val (by have:=ha.len;omega) (by have:=ha.len;have:=ha.arcs;omega);rw[ha.kind] at this;exact this
 kind:=ha.kind
 len:=by rw[zuw];have:=ha.len;omega
 arcs:=zqam (zsg _ _) (by have:=ha.len;have:=ha.arcs;omega)
 lead:=zjU hk
def zkB (hk:zam k)(ha:ziQ k n1 c1 a)(n most:Nat)(h1:1+most*(n1+1)<=3000)(h2:1+most*(1+c1+n1)<=30000):zdI k (1+most*(n1+1)) (1+most*(1+c1+n1)) (zaJ (zak k) a n most) where
 val:=by
  have e1:most*(a.states.length+1)<=most*(n1+1):=Nat.mul_le_mul (zqab _) (by have:=ha.len;omega);have e2:most*(1+zaj a.states+a.states.length)<=most*(1+c1+n1):=Nat.mul_le_mul (zqab _) (by have:=ha.len;have:=ha.arcs;omega);have:=zjP ha.val n most (by omega) (by omega);rw[ha.kind] at this;exact this
 kind:=ha.kind
 len:=by
  have e1:most*(a.states.length+1)<=most*(n1+1):=Nat.mul_le_mul (zqab _) (by have:=ha.len;omega);rw[zgw];omega
 arcs:=zqam (zol _ _ _ _) (by
  have e2:most*(1+zaj a.states+a.states.length)<=most*(1+c1+n1):=Nat.mul_le_mul (zqab _) (by have:=ha.len;have:=ha.arcs;omega);omega)
 lead:=zjU hk
def zqx (hk:zam k):zdI k 1 0 (zbF k (zak k) (zak k) [] []) where
 val:=zgz ((zbQ _).2 hk) (zeG ((zbQ _).2 hk)) (fun s h=>by cases h) (fun s h=>by cases h) (by decide) (by decide)
 kind:=rfl
 len:=by rw[zjJ];simp
 arcs:=by simp[zbF,zaj]
 lead:=zjU hk
def zlJ (hk:zam k)(Ha:zan w va a)(Hb:zan w vb b)(ha:ziQ k n1 c1 a)(hb:ziQ k n2 c2 b)(h1:n1+n2+1<=3000)(h2:c1+c2+2<=30000):Calls prog 26 #[va,vb] w (zbb (zbA (zak k) a b,0) w):=by
 have:=zhL Ha Hb (zaq ha.val) (zaq hb.val) (by have:=ha.len;have:=hb.len;omega) (by have:=ha.arcs;have:=hb.arcs;omega);rw[show unionV a b=(zbA (zak k) a b,0) by unfold unionV;rw[if_pos (zkp ha.val hb.val (hb.kind.trans ha.kind.symm)),ha.kind]] at this;exact this
def ziH (hk:zam k)(Ha:zan w va a)(Hb:zan w vb b)(ha:zdI k n1 c1 a)(hb:zdI k n2 c2 b)(h1:n1+n2<=3000)(h2:c1+c2+n1<=30000):Calls prog 32 #[va,vb] w (zbb (zba (catL hk a b) a b,0) w):=by
 have:=zfP Ha Hb (zaq ha.val) (zaq hb.val) (by have:=ha.len;have:=hb.len;omega) (by have:=ha.len;have:=ha.arcs;have:=hb.arcs;omega) (catL hk a b) (fun _=>by rw[ha.kind];exact zjT hk ha.wlead hb.wlead ha.lead hb.lead);rw[show concatV (catL hk a b) a b=(zba (catL hk a b) a b,0) by unfold concatV;rw[if_pos (zkp ha.val hb.val (hb.kind.trans ha.kind.symm))]] at this;exact this
def zGI (hk:zam k)(Ha:zan w va a)(ha:ziQ k n1 c1 a)(h1:1+n1<=3000)(h2:1+c1+n1<=30000):Calls prog 34 #[va] w (zbb (zbt (zak k) a,0) w):=by
 have:=ziD Ha (zaq ha.val) (by have:=ha.len;omega) (by have:=ha.len;have:=ha.arcs;omega);rw[show starV a=(zbt (zak k) a,0) by unfold starV;rw[if_pos ha.val,ha.kind]] at this;exact this
def znj (hk:zam k)(Ha:zan w va a)(ha:ziQ k n1 c1 a)(n most:Nat)(h3:n<=most)(h4:most<=30)(h1:31+30*n1<=3000)(h2:30*(c1+n1+1)<=30000):Calls prog 36 #[va,.int .i64 (n:Int),.int .i64 (most:Int)] w (zbb (zaJ (zak k) a n most,0) w):=by
 have:=zfO Ha (zaq ha.val) (n:Int) (most:Int) (by have:=ha.len;omega) (by have:=ha.len;have:=ha.arcs;omega);rw[show repeatV a (n:Int) (most:Int)=(zaJ (zak k) a n most,0) by unfold repeatV;rw[if_pos ⟨ha.val,by omega,by omega,by omega⟩,ha.kind];rfl] at this;exact this
def zEO (hk:zam k):Calls prog 14 #[.int .i64 k,.slice none 0 0,.slice none 0 0,.string (zak k)] w (zbb (zbF k (zak k) (zak k) [] [],0) w):=by
 have h:=zep k [] [] (.slice none 0 0) (.slice none 0 0) (zak k) w (zhn w).at' (zhn w).at' (by have:=zjU hk;unfold maxLen;omega);rw[show wordV k [] [] (zak k)=(zbF k (zak k) (zak k) [] [],0) by unfold wordV;rw[if_pos ⟨by decide,by decide,zeG ((zbQ _).2 hk)⟩];rfl] at h;exact h
def znk (hk:zam k)(ha:validB a=true)(hb:validB b=true)(u v:List Nat):VL hk (zbA (zak k) a b) u v=(srE k hk).add (VL hk a u v) (VL hk b u v) :=
 ziC (S:=srE k hk) (zcB hk) (zcC hk) (zch hk) (zbB ha) (zbB hb) u v
def zhP (hk:zam k)(ha:zdI k n1 c1 a)(hb:zdI k n2 c2 b)(u v:List Nat):VL hk (zba (catL hk a b) a b) u v=sp (srE k hk) u v (fun p q r s=>(srE k hk).mul (VL hk a p r) (VL hk b q s)) :=
 zly (S:=srE k hk) (zcB hk) (zcC hk) (zpa hk ha.wlead hb.wlead ha.lead hb.lead) (zbB ha.val) (zbB hb.val) u v
def zyI (hk:zam k){c:zah}{n3 c3:Nat}(ha:zdI k n1 c1 a)(hb:zdI k n2 c2 b)(hc:zdI k n3 c3 c)(hu:zdI k (1+n1+n2) (2+c1+c2) (zbA (zak k) a b))(v1:validB (zba (catL hk a c) a c)=true)(v2:validB (zba (catL hk b c) b c)=true)(u v:List Nat) :
  VL hk (zba (catL hk (zbA (zak k) a b) c) (zbA (zak k) a b) c) u v=VL hk (zbA (zak k) (zba (catL hk a c) a c) (zba (catL hk b c) b c)) u v:=by
 rw[zhP hk hu hc,znk hk v1 v2,zhP hk ha hc,zhP hk hb hc,<- zmD];exact zcP (fun p q r s _ _=>by rw[znk hk ha.val hb.val,(srE k hk).add_mul])
def zEP (hk:zam k)(ha:zdI k n1 c1 a)(hs:zdI k n2 c2 (zbt (zak k) a))(vt:validB (zba (catL hk a (zbt (zak k) a)) a (zbt (zak k) a))=true){u v:List Nat}(hu:∀ s∈u,1<=s)(hv:∀ s∈v,1<=s) :
  VL hk (zbt (zak k) a) u v=VL hk (zbA (zak k) (zbF k (zak k) (zak k) [] []) (zba (catL hk a (zbt (zak k) a)) a (zbt (zak k) a))) u v:=by
 rw[znk hk (zqx hk).val vt,zhP hk ha hs];refine(zyi (S:=srE k hk) (zcB hk) (zcC hk) (zch hk) (zeI hk) (zbB ha.val) u v).trans ?_;congr 1;exact((zoO (S:=srE k hk) (zcB hk) (zcC hk) k (zch hk) (zeI hk) (zak k) (x:=[]) (y:=[]) (fun s h=>by cases h) (fun s h=>by cases h) hu hv).trans (by rw[zch];rfl)).symm
def zyJ (hk:zam k)(ha:validB a=true)(h1:zdI k n1 c1 (zaJ (zak k) a 1 1))(h2:zdI k n2 c2 (zaJ (zak k) a 0 2))(u v:List Nat) :
  VL hk (zba (catL hk (zaJ (zak k) a 1 1) (zaJ (zak k) a 0 2)) (zaJ (zak k) a 1 1) (zaJ (zak k) a 0 2)) u v=VL hk (zaJ (zak k) a 1 3) u v:=by
 rw[zhP hk h1 h2];exact(zuz (S:=srE k hk) (zcB hk) (zcC hk) (zch hk) (zbB ha) (zeI hk) u v).symm
end
end Go.Proofs.YtadgpgofcjpnjaaGreatDoor
