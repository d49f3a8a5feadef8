/- WE02 WE84 WE62 -/
import Derived.Shelf.Strings.Trim
import Derived.Shelf.Small.Utf8
import Derived.Shelf.Small.Bits
import Derived.Shelf.Small.Wraps
import Derived.Shelf.Strings.Shaped
import Derived.Shelf.Strings.IndexAnyAll
import Derived.Shelf.Strings.Repeat
import Derived.Shelf.Unicode.DecodeSlow
import Derived.Shelf.Spec.BitsCarry
import Derived.Test.YtaogepcaoogpgaaGreatDoorProg
import Derived.Test.YtaogepcaoogpgaaGreatDoorKE01
set_option linter.unusedVariables false
set_option linter.unusedSimpArgs false
set_option maxRecDepth 100000
set_option maxHeartbeats 16000000
namespace Go.Proofs
open Go.Shelf
def Tryz.lays161_ren:Go.Shelf.Ren:=⟨fun|161=>273|231=>283|227=>284|233=>285|235=>286|228=>291|197=>292|151=>293|260=>295|152=>296|137=>297|119=>298|224=>266|225=>265|217=>264|266=>278|n=>n,fun|9=>9|4=>4|3=>3|5=>5|117=>236|116=>235|0=>0|124=>239|105=>246|21=>21|119=>250|46=>159|139=>253|138=>252|n=>n,fun|3=>3|4=>4|n=>n⟩
theorem Tryz.lays161:Go.Proofs.Lays.n161 Tryz.prog Tryz.lays161_ren := {
 mixed:=by kernel_rfl
 f119:=Tryz.func298.trans (congrArg some (by kernel_rfl))
 f137:=Tryz.func297.trans (congrArg some (by kernel_rfl))
 f151:=Tryz.func293.trans (congrArg some (by kernel_rfl))
 f152:=Tryz.func296.trans (congrArg some (by kernel_rfl))
 f161:=Tryz.func273.trans (congrArg some (by kernel_rfl))
 f197:=Tryz.func292.trans (congrArg some (by kernel_rfl))
 f217:=Tryz.func264.trans (congrArg some (by kernel_rfl))
 f224:=Tryz.func266.trans (congrArg some (by kernel_rfl))
 f225:=Tryz.func265.trans (congrArg some (by kernel_rfl))
 f227:=Tryz.func284.trans (congrArg some (by kernel_rfl))
 f228:=Tryz.func291.trans (congrArg some (by kernel_rfl))
 f231:=Tryz.func283.trans (congrArg some (by kernel_rfl))
 f233:=Tryz.func285.trans (congrArg some (by kernel_rfl))
 f235:=Tryz.func286.trans (congrArg some (by kernel_rfl))
 f260:=Tryz.func295.trans (congrArg some (by kernel_rfl))
 f266:=Tryz.func278.trans (congrArg some (by kernel_rfl))
 t0:=Tryz.underlying0
 a0:=Tryz.isAgg0
 z0:=Tryz.sizeOf0
 v0:=Tryz.zeroValue0
 t3:=Tryz.underlying3
 a3:=Tryz.isAgg3
 z3:=Tryz.sizeOf3
 v3:=Tryz.zeroValue3
 t4:=Tryz.underlying4
 a4:=Tryz.isAgg4
 z4:=Tryz.sizeOf4
 v4:=Tryz.zeroValue4
 t5:=Tryz.underlying5
 a5:=Tryz.isAgg5
 z5:=Tryz.sizeOf5
 v5:=Tryz.zeroValue5
 t9:=Tryz.underlying9
 a9:=Tryz.isAgg9
 z9:=Tryz.sizeOf9
 v9:=Tryz.zeroValue9
 t21:=Tryz.underlying21
 a21:=Tryz.isAgg21
 z21:=Tryz.sizeOf21
 v21:=Tryz.zeroValue21
 t46:=Tryz.underlying159
 a46:=Tryz.isAgg159
 z46:=Tryz.sizeOf159
 v46:=Tryz.zeroValue159
 t105:=Tryz.underlying246
 a105:=Tryz.isAgg246
 z105:=Tryz.sizeOf246
 v105:=Tryz.zeroValue246
 t116:=Tryz.underlying235
 a116:=Tryz.isAgg235
 z116:=Tryz.sizeOf235
 t117:=Tryz.underlying236
 a117:=Tryz.isAgg236
 z117:=Tryz.sizeOf236
 v117:=Tryz.zeroValue236
 t119:=Tryz.underlying250
 a119:=Tryz.isAgg250
 z119:=Tryz.sizeOf250
 t124:=Tryz.underlying239
 a124:=Tryz.isAgg239
 z124:=Tryz.sizeOf239
 v124:=Tryz.zeroValue239
 t138:=Tryz.underlying252
 a138:=Tryz.isAgg252
 z138:=Tryz.sizeOf252
 v138:=Tryz.zeroValue252
 t139:=Tryz.underlying253
 a139:=Tryz.isAgg253
 z139:=Tryz.sizeOf253
 v139:=Tryz.zeroValue253
 g3:=by kernel_rfl
 g4:=by kernel_rfl }
open Go.RowKit in
theorem Tryz.strings_TrimLeft_one (s:ByteArray)(c:UInt8)(hc:c.toNat<128)(w:World) :
  Calls Tryz.prog 273 #[.string s,.string ⟨#[c]⟩] w fun e w'=>e = .returned (.string ⟨(Lib.trimLeftB s.data.toList c).toArray⟩)∧w'=w:=Any.strings_TrimLeft_one Tryz.lays161 s c hc w
def Tryz.lays134_ren:Go.Shelf.Ren:=⟨fun|134=>294|129=>246|n=>n,fun|53=>181|3=>3|4=>4|46=>159|5=>5|9=>9|n=>n,fun|n=>n⟩
theorem Tryz.lays134:Go.Proofs.Lays.n134 Tryz.prog Tryz.lays134_ren := {
 mixed:=by kernel_rfl
 f129:=Tryz.func246.trans (congrArg some (by kernel_rfl))
 f134:=Tryz.func294.trans (congrArg some (by kernel_rfl))
 t3:=Tryz.underlying3
 a3:=Tryz.isAgg3
 z3:=Tryz.sizeOf3
 v3:=Tryz.zeroValue3
 t4:=Tryz.underlying4
 a4:=Tryz.isAgg4
 z4:=Tryz.sizeOf4
 v4:=Tryz.zeroValue4
 t5:=Tryz.underlying5
 a5:=Tryz.isAgg5
 z5:=Tryz.sizeOf5
 v5:=Tryz.zeroValue5
 t9:=Tryz.underlying9
 a9:=Tryz.isAgg9
 z9:=Tryz.sizeOf9
 v9:=Tryz.zeroValue9
 t46:=Tryz.underlying159
 a46:=Tryz.isAgg159
 z46:=Tryz.sizeOf159
 v46:=Tryz.zeroValue159
 t53:=Tryz.underlying181
 a53:=Tryz.isAgg181
 z53:=Tryz.sizeOf181
 v53:=Tryz.zeroValue181 }
theorem Tryz.bits_LeadingZeros64 (x:Int)(w:World)(h0:0≤x)(h1:x≤18446744073709551615) :
  Calls Tryz.prog 294 #[.int .u64 x] w fun e w'=>e = .returned (.int .i64 (64 - (Lib.bitLen x.toNat:Int)))∧w'=w:=Any.bits_LeadingZeros64 Tryz.lays134 x w h0 h1
def Tryz.lays106_ren:Go.Shelf.Ren:=⟨fun|106=>253|213=>270|265=>281|n=>n,fun|9=>9|3=>3|n=>n,fun|n=>n⟩
theorem Tryz.lays106:Go.Proofs.Lays.n106 Tryz.prog Tryz.lays106_ren := {
 mixed:=by kernel_rfl
 f106:=Tryz.func253.trans (congrArg some (by kernel_rfl))
 f213:=Tryz.func270.trans (congrArg some (by kernel_rfl))
 f265:=Tryz.func281.trans (congrArg some (by kernel_rfl))
 t3:=Tryz.underlying3
 a3:=Tryz.isAgg3
 z3:=Tryz.sizeOf3
 v3:=Tryz.zeroValue3
 t9:=Tryz.underlying9
 a9:=Tryz.isAgg9
 z9:=Tryz.sizeOf9
 v9:=Tryz.zeroValue9 }
open Go.RowKit in
theorem Tryz.strings_Compare (a b:ByteArray)(w:World) :
  Calls Tryz.prog 253 #[.string a,.string b] w fun e w'=>e = .returned (.int .i64 (Lib.compareBytes a.data.toList b.data.toList))∧w'=w:=Any.strings_Compare Tryz.lays106 a b w
def Tryz.lays103_ren:Go.Shelf.Ren:=⟨fun|103=>189|210=>223|206=>247|n=>n,fun|9=>9|4=>4|24=>170|3=>3|n=>n,fun|n=>n⟩
theorem Tryz.lays103:Go.Proofs.Lays.n103 Tryz.prog Tryz.lays103_ren := {
 mixed:=by kernel_rfl
 f103:=Tryz.func189.trans (congrArg some (by kernel_rfl))
 f206:=Tryz.func247.trans (congrArg some (by kernel_rfl))
 f210:=Tryz.func223.trans (congrArg some (by kernel_rfl))
 t3:=Tryz.underlying3
 a3:=Tryz.isAgg3
 z3:=Tryz.sizeOf3
 v3:=Tryz.zeroValue3
 t4:=Tryz.underlying4
 a4:=Tryz.isAgg4
 z4:=Tryz.sizeOf4
 v4:=Tryz.zeroValue4
 t9:=Tryz.underlying9
 a9:=Tryz.isAgg9
 z9:=Tryz.sizeOf9
 v9:=Tryz.zeroValue9
 t24:=Tryz.underlying170
 a24:=Tryz.isAgg170
 z24:=Tryz.sizeOf170
 v24:=Tryz.zeroValue170 }
open Go.RowKit in
theorem Tryz.strings_CutPrefix (s p:ByteArray)(w:World) :
  Calls Tryz.prog 189 #[.string s,.string p] w fun e w'=>e = .returned (.tuple #[.string ⟨(Lib.trimPrefix s.data.toList p.data.toList).toArray⟩,.bool (Lib.hasPrefix s.data.toList p.data.toList)])∧w'=w:=Any.strings_CutPrefix Tryz.lays103 s p w
def Tryz.lays122_ren:Go.Shelf.Ren:=⟨fun|122=>155|215=>195|n=>n,fun|3=>3|4=>4|n=>n,fun|n=>n⟩
theorem Tryz.lays122:Go.Proofs.Lays.n122 Tryz.prog Tryz.lays122_ren := {
 mixed:=by kernel_rfl
 f122:=Tryz.func155.trans (congrArg some (by kernel_rfl))
 f215:=Tryz.func195.trans (congrArg some (by kernel_rfl))
 t3:=Tryz.underlying3
 a3:=Tryz.isAgg3
 z3:=Tryz.sizeOf3
 v3:=Tryz.zeroValue3
 t4:=Tryz.underlying4
 a4:=Tryz.isAgg4
 z4:=Tryz.sizeOf4
 v4:=Tryz.zeroValue4 }
open Go.RowKit in
theorem Tryz.cmp_Compare_int (x y:Int)(w:World) :
  Calls Tryz.prog 155 #[.int .i64 x,.int .i64 y] w fun e w'=>e = .returned (.int .i64 (Lib.compareInt x y))∧w'=w:=Any.cmp_Compare_int Tryz.lays122 x y w
open Go.RowKit in
open Go.RowKit in
open Go.RowKit in
open Go.RowKit in
def Tryz.lays219_ren:Go.Shelf.Ren:=⟨fun|219=>248|217=>264|225=>265|224=>266|267=>267|266=>278|314=>279|n=>n,fun|9=>9|3=>3|4=>4|5=>5|46=>159|146=>179|51=>178|n=>n,fun|1=>0|n=>n⟩
theorem Tryz.lays219:Go.Proofs.Lays.n219 Tryz.prog Tryz.lays219_ren := {
 mixed:=by kernel_rfl
 f217:=Tryz.func264.trans (congrArg some (by kernel_rfl))
 f219:=Tryz.func248.trans (congrArg some (by kernel_rfl))
 f224:=Tryz.func266.trans (congrArg some (by kernel_rfl))
 f225:=Tryz.func265.trans (congrArg some (by kernel_rfl))
 f266:=Tryz.func278.trans (congrArg some (by kernel_rfl))
 f267:=Tryz.func267.trans (congrArg some (by kernel_rfl))
 f314:=Tryz.func279.trans (congrArg some (by kernel_rfl))
 t3:=Tryz.underlying3
 a3:=Tryz.isAgg3
 z3:=Tryz.sizeOf3
 v3:=Tryz.zeroValue3
 t4:=Tryz.underlying4
 a4:=Tryz.isAgg4
 z4:=Tryz.sizeOf4
 v4:=Tryz.zeroValue4
 t5:=Tryz.underlying5
 a5:=Tryz.isAgg5
 z5:=Tryz.sizeOf5
 v5:=Tryz.zeroValue5
 t9:=Tryz.underlying9
 a9:=Tryz.isAgg9
 z9:=Tryz.sizeOf9
 v9:=Tryz.zeroValue9
 t46:=Tryz.underlying159
 a46:=Tryz.isAgg159
 z46:=Tryz.sizeOf159
 v46:=Tryz.zeroValue159
 t51:=Tryz.underlying178
 a51:=Tryz.isAgg178
 z51:=Tryz.sizeOf178
 v51:=Tryz.zeroValue178
 t146:=Tryz.underlying179
 a146:=Tryz.isAgg179
 z146:=Tryz.sizeOf179
 v146:=Tryz.zeroValue179
 g1:=by kernel_rfl }
open Go.RowKit Go.Lib in
theorem Tryz.stringslite_Index_one (s:ByteArray)(c:UInt8)(w:World) :
  Calls Tryz.prog 248 #[.string s,.string ⟨#[c]⟩] w fun e w'=>e = .returned (.int .i64 (Lib.indexByte s.data.toList c))∧w'=w:=Any.stringslite_Index_one Tryz.lays219 s c w
open Go.RowKit Go.Lib in
def Tryz.lays264_ren:Go.Shelf.Ren:=⟨fun|264=>207|n=>n,fun|53=>181|46=>159|n=>n,fun|n=>n⟩
theorem Tryz.lays264:Go.Proofs.Lays.n264 Tryz.prog Tryz.lays264_ren := {
 mixed:=by kernel_rfl
 f264:=Tryz.func207.trans (congrArg some (by kernel_rfl))
 t46:=Tryz.underlying159
 a46:=Tryz.isAgg159
 z46:=Tryz.sizeOf159
 v46:=Tryz.zeroValue159
 t53:=Tryz.underlying181
 a53:=Tryz.isAgg181
 z53:=Tryz.sizeOf181
 v53:=Tryz.zeroValue181 }
open Go.RowKit Go.Lib in
theorem Tryz.bits_Mul64 (x y:Nat)(hx:x<18446744073709551616)(hy:y<18446744073709551616)(w:World) :
  Calls Tryz.prog 207 #[.int .u64 x,.int .u64 y] w fun e w'=>e = .returned (.tuple #[.int .u64 ((x * y / 18446744073709551616:Nat):Int),.int .u64 ((x * y % 18446744073709551616:Nat):Int)])∧w'=w:=Any.bits_Mul64 Tryz.lays264 x y hx hy w
def Tryz.lays7_25_ren:Go.Shelf.Ren:=⟨fun|25=>289|n=>n,fun|22=>181|n=>n,fun|n=>n⟩
theorem Tryz.lays7_25:Go.Proofs.Lays7.n25 Tryz.prog Tryz.lays7_25_ren := {
 mixed:=by kernel_rfl
 f25:=Tryz.func289.trans (congrArg some (by kernel_rfl))
 t22:=Tryz.underlying181
 a22:=Tryz.isAgg181
 z22:=Tryz.sizeOf181
 v22:=Tryz.zeroValue181
 i22:=by kernel_rfl }
theorem Tryz.bits_Add64 (x y:Nat)(w:World) :
  (callFunc 289 #[.int .u64 x,.int .u64 y,.int .u64 0]).run Tryz.prog w =
   .ok (.value (.tuple #[.int .u64 (((x+y) % 18446744073709551616:Nat):Int),.int .u64 (((x+y) / 18446744073709551616:Nat):Int)])) w :=
 Any7.bits_Add64 Tryz.lays7_25 x y 0 (by decide) w
end Go.Proofs
namespace Go.Proofs.YtaogepcaoogpgaaGreatDoor
def sgL (sw:Bool):Int:=if sw then 1 else -1
theorem zfw (sw:Bool):sgL (!sw) = -sgL sw:=by cases sw <;> rfl
theorem zyv (sw:Bool):sgL sw * sgL sw=1:=by cases sw <;> rfl
structure Fore (hx hy x y a b c d e f:Nat)(sw:Bool):Prop where
 vx:(x:Int)=sgL sw * (b * hx - d * hy)
 vy:(y:Int)=sgL sw * (f * hy - e * hx)
 det:(b:Int) * f - d * e=sgL sw
 ef:e≤f
 bd:b+e≤d+f
 f1:1≤f
 fh:f≤1000000000000000000
 al:a<1000000000
 bl:b<1000000000
 cl:c<1000000000
 dl:d<1000000000
 det2:c=0∨(b:Int) * c - a * d=sgL sw
 first:(b=1∧d=0∧e=0∧f=1∧sw=true)∨∀ P X Y:Nat,0<P→X / P=hx→Y / P=hy→sgL sw * (b * X - d * Y)≤(Y:Int)
 good:c=0∨∀ P X Y:Nat,0<P→X / P=hx→Y / P=hy→0<sgL sw * (b * X - d * Y)∧sgL sw * (b * X - d * Y) < -sgL sw * (a * X - c * Y) ∧ -sgL sw * (a * X - c * Y)≤(Y:Int)
theorem zwm (hx hy:Nat):Fore hx hy hx hy 0 1 0 0 0 1 true where
 vx:=by simp[sgL]
 vy:=by simp[sgL]
 det:=by simp[sgL]
 ef:=by omega
 bd:=by omega
 f1:=by omega
 fh:=by omega
 al:=by omega
 bl:=by omega
 cl:=by omega
 dl:=by omega
 det2 := .inl rfl
 first := .inl ⟨rfl,rfl,rfl,rfl,rfl⟩
 good := .inl rfl
section
variable {hx hy x y a b c d e f:Nat} {sw:Bool}
theorem Fore.whole (h:Fore hx hy x y a b c d e f sw):f * x+d * y=hx:=by
 have hz:((f:Int) * x+d * y)=hx:=by
  rw[h.vx,h.vy];have hd:=h.det;have hs:=zyv sw;generalize sgL sw=s at *;have:(f:Int) * (s * (b * hx - d * hy))+d * (s * (f * hy - e * hx))=s * ((b:Int) * f - d * e) * hx:=by grind
  rw[this,hd,hs];simp
 exact_mod_cast hz
theorem zpE {P X Y hx hy:Nat}(hP:0<P)(h1:X / P=hx)(h2:Y / P=hy)(s:Int)(hs:s=1∨s = -1)(u v n:Nat)(m:Int)(huv:u≤n)(hvn:v≤n)(hm:m=s * (u * hx - v * hy))(hn:(n:Int)≤m)(h0:0<n) :
  0<s * (u * X - v * Y):=by
 have e1:X=P * hx+X % P:=by rw[← h1];exact(Nat.div_add_mod X P).symm
 have e2:Y=P * hy+Y % P:=by rw[← h2];exact(Nat.div_add_mod Y P).symm
 have l1:=Nat.mod_lt X hP;have l2:=Nat.mod_lt Y hP;generalize X % P=X' at *;generalize Y % P=Y' at *;subst e1;subst e2;have k1:u * X'≤n * (P - 1):=Nat.mul_le_mul huv (by omega);have k2:v * Y'≤n * (P - 1):=Nat.mul_le_mul hvn (by omega);have k3:(n:Int) * P≤m * P:=Int.mul_le_mul_of_nonneg_right hn (by omega)
 have k4:n * (P - 1)+n=n * P:=by
  obtain⟨p,rfl⟩:∃ p,P=p+1:=⟨P - 1,by omega⟩;simp[Nat.mul_add]
 have e3:s * ((u:Int) * ((P * hx+X':Nat):Int) - v * ((P * hy+Y':Nat):Int))=m * P+s * ((u * X':Nat) - (v * Y':Nat):Int):=by
  rw[hm];push_cast;grind
 rw[e3];have k5:(n:Int) * P=((n * P:Nat):Int):=by push_cast;rfl
 rw[k5] at k3;generalize u * X'=p1 at *;generalize v * Y'=p2 at *;generalize n * (P - 1)=p3 at *;generalize n * P=p4 at *;generalize m * (P:Int)=p5 at *;rcases hs with rfl|rfl <;> omega
theorem zyw (sw:Bool):sgL sw=1∨sgL sw = -1:=by cases sw <;> simp[sgL]
theorem Fore.step (h:Fore hx hy x y a b c d e f sw)(hx18:hx<1000000000000000000)(h1:f≤y)(h2:y+d+f≤x) :
  Fore hx hy y (x % y) b e d f (b+x / y * e) (d+x / y * f) (!sw)∧x % y<y∧f<1000000000:=by
 have hf1:=h.f1;have hq:1≤x / y:=(Nat.one_le_div_iff (by omega)).2 (by omega);have hdm:y * (x / y)+x % y=x:=Nat.div_add_mod x y;have hml:x % y<y:=Nat.mod_lt _ (by omega);have hw:=h.whole
 have hff:f * f<1000000000000000000:=by
  have:f * f≤f * x:=Nat.mul_le_mul_left _ (by omega)
  omega
 have hfb:f<1000000000:=by
  rcases Nat.lt_or_ge f 1000000000 with g|g
  ·exact g
  ·have:=Nat.mul_le_mul g g
   omega
 generalize hqq:x / y=q at *;generalize hrr:x % y=r at *
 have hgood:∀ P X Y:Nat,0<P→X / P=hx→Y / P=hy→0<sgL sw * (f * Y - e * X)∧sgL sw * (f * Y - e * X)<sgL sw * (b * X - d * Y):=by
  intro P X Y hP e1 e2
  constructor
  ·have:=zpE (u:=e) (v:=f) (n:=f) hP e1 e2 (-sgL sw) (by rcases zyw sw with g|g <;> simp[g]) (y:Int) h.ef (Nat.le_refl _) (by rw[h.vy];grind) (by omega) (by omega)
   have e3 : -sgL sw * ((e:Int) * X - f * Y)=sgL sw * (f * Y - e * X):=by grind
   rwa [e3] at this
  ·have:=zpE (u:=b+e) (v:=d+f) (n:=d+f) hP e1 e2 (sgL sw) (zyw sw) ((x:Int) - y) h.bd (Nat.le_refl _) (by rw[h.vx,h.vy];push_cast;grind) (by omega) (by omega)
   have e3:sgL sw * (((b+e:Nat):Int) * X - ((d+f:Nat):Int) * Y)=sgL sw * (b * X - d * Y) - sgL sw * (f * Y - e * X):=by push_cast;grind
   rw[e3] at this
   omega
 have hel:e<1000000000:=Nat.lt_of_le_of_lt h.ef hfb;have hnext:Fore hx hy y r b e d f (b+q * e) (d+q * f) (!sw)→Fore hx hy y r b e d f (b+q * e) (d+q * f) (!sw)∧r<y∧f<1000000000:=fun g=>⟨g,hml,hfb⟩
 apply hnext
 have vy':(y:Int)=sgL (!sw) * (e * hx - f * hy):=by rw[zfw,h.vy];grind
 have vr':(r:Int)=sgL (!sw) * ((d+q * f:Nat) * hy - (b+q * e:Nat) * hx):=by
  have e1:(r:Int)=x - y * q:=by have:=congrArg (Nat.cast (R:=Int)) hdm;push_cast at this;omega
  rw[e1,zfw,h.vx,h.vy];push_cast;grind
 have det':(e:Int) * (d+q * f:Nat) - f * (b+q * e:Nat)=sgL (!sw):=by
  rw[zfw,← h.det];push_cast;grind
 have hqe:q * e≤q * f:=Nat.mul_le_mul_left _ h.ef;have hqe1:(q - 1) * e≤(q - 1) * f:=Nat.mul_le_mul_left _ h.ef
 have hq1:∀ z:Nat,q * z=(q - 1) * z+z:=fun z=>by
  obtain⟨p,rfl⟩:∃ p,q=p+1:=⟨q - 1,by omega⟩;simp[Nat.add_mul]
 have ef':b+q * e≤d+q * f:=by rw[hq1 e,hq1 f];have:=h.bd;omega
 have fh':d+q * f≤1000000000000000000:=by
  have e1:((d+q * f:Nat):Int) * y+f * r=hx:=by
   have e2:(r:Int)=x - y * q:=by have:=congrArg (Nat.cast (R:=Int)) hdm;push_cast at this;omega
   have e3:(f:Int) * x+d * y=hx:=by exact_mod_cast hw
   rw[e2,← e3];push_cast;grind
  have e4:(d+q * f) * y+f * r=hx:=by exact_mod_cast e1
  have e5:(d+q * f) * 1≤(d+q * f) * y:=Nat.mul_le_mul_left _ (by omega)
  omega
 exact {
  vx:=vy',vy:=vr',det:=det',ef:=ef',bd:=by have:=h.ef;omega,f1:=by have:=Nat.mul_le_mul hq hf1;omega,fh:=fh'
  al:=h.bl,bl:=hel,cl:=h.dl,dl:=hfb
  det2 := .inr (by rw[zfw,← h.det];grind)
  first := .inr (fun P X Y hP e1 e2=>by
   have g:=hgood P X Y hP e1 e2;have e3:sgL (!sw) * ((e:Int) * X - f * Y)=sgL sw * (f * Y - e * X):=by rw[zfw];grind
   rw[e3];rcases h.first with⟨rfl,rfl,rfl,rfl,rfl⟩|k
   ·simp[sgL]
   ·have:=k P X Y hP e1 e2;omega)
  good:=by
   rcases h.first with⟨rfl,rfl,rfl,rfl,rfl⟩|k
   ·exact .inl rfl
   ·refine .inr (fun P X Y hP e1 e2 => ?_)
    have g:=hgood P X Y hP e1 e2;have g2:=k P X Y hP e1 e2;have e3:sgL (!sw) * ((e:Int) * X - f * Y)=sgL sw * (f * Y - e * X):=by rw[zfw];grind
    have e4 : -sgL (!sw) * ((b:Int) * X - d * Y)=sgL sw * (b * X - d * Y):=by rw[zfw];grind
    rw[e3,e4];exact⟨g.1,g.2,g2⟩ }
structure Later (a b c d:Nat)(sw:Bool)(X Y A B:Nat):Prop where
 t1:sw=true→A+a * X=c * Y∧B+d * Y=b * X
 t2:sw=false→A+c * Y=a * X∧B+b * X=d * Y
 pos:0<B
 lt:B<A
 le:A≤Y
 g:Nat.gcd A B=Nat.gcd X Y
theorem Fore.out (h:Fore hx hy x y a b c d e f sw)(h0:c≠0){P X Y:Nat}(hP:0<P)(h1:X / P=hx)(h2:Y / P=hy):∃ A B,Later a b c d sw X Y A B:=by
 obtain⟨g1,g2,g3⟩:=h.good.resolve_left h0 P X Y hP h1 h2;have hd:=h.det2.resolve_left h0;have hs:=zyv sw;obtain⟨A,hA⟩:∃ A:Nat,(A:Int) = -sgL sw * (a * X - c * Y):=⟨(-sgL sw * (a * X - c * Y)).toNat,Int.toNat_of_nonneg (by omega)⟩;obtain⟨B,hB⟩:∃ B:Nat,(B:Int)=sgL sw * (b * X - d * Y):=⟨(sgL sw * (b * X - d * Y)).toNat,Int.toNat_of_nonneg (by omega)⟩;rw[← hA,← hB] at g2;rw[← hA] at g3;rw[← hB] at g1;refine⟨A,B,⟨?_,?_,by omega,by omega,by omega,?_⟩⟩
 ·rintro rfl
  simp only[sgL,if_true] at hA hB
  constructor
  ·have:((A+a * X:Nat):Int)=((c * Y:Nat):Int):=by push_cast;rw[hA];grind
   exact_mod_cast this
  ·have:((B+d * Y:Nat):Int)=((b * X:Nat):Int):=by push_cast;rw[hB];grind
   exact_mod_cast this
 ·rintro rfl
  simp only[sgL] at hA hB
  constructor
  ·have:((A+c * Y:Nat):Int)=((a * X:Nat):Int):=by push_cast;rw[hA];simp <;> grind
   exact_mod_cast this
  ·have:((B+b * X:Nat):Int)=((d * Y:Nat):Int):=by push_cast;rw[hB];simp <;> grind
   exact_mod_cast this
 ·have eX:d * A+c * B=X:=by
   have:((d:Int) * A+c * B)=X:=by
    rw[hA,hB];generalize sgL sw=s at *;have e:(d:Int) * (-s * (a * X - c * Y))+c * (s * (b * X - d * Y))=s * ((b:Int) * c - a * d) * X:=by grind
    rw[e,hd,hs];simp
   exact_mod_cast this
  have eY:b * A+a * B=Y:=by
   have:((b:Int) * A+a * B)=Y:=by
    rw[hA,hB];generalize sgL sw=s at *;have e:(b:Int) * (-s * (a * X - c * Y))+a * (s * (b * X - d * Y))=s * ((b:Int) * c - a * d) * Y:=by grind
    rw[e,hd,hs];simp
   exact_mod_cast this
  refine Nat.dvd_antisymm (Nat.dvd_gcd ?_ ?_) (Nat.dvd_gcd ?_ ?_)
  ·rw[← eX];exact Nat.dvd_add (Nat.dvd_mul_left_of_dvd (Nat.gcd_dvd_left A B) _) (Nat.dvd_mul_left_of_dvd (Nat.gcd_dvd_right A B) _)
  ·rw[← eY];exact Nat.dvd_add (Nat.dvd_mul_left_of_dvd (Nat.gcd_dvd_left A B) _) (Nat.dvd_mul_left_of_dvd (Nat.gcd_dvd_right A B) _)
  ·have hx':((Nat.gcd X Y:Nat):Int) ∣ X:=Int.natCast_dvd_natCast.2 (Nat.gcd_dvd_left X Y)
   have hy':((Nat.gcd X Y:Nat):Int) ∣ Y:=Int.natCast_dvd_natCast.2 (Nat.gcd_dvd_right X Y)
   apply Int.natCast_dvd_natCast.1
   rw[hA];exact Int.dvd_mul_of_dvd_right (Int.dvd_sub (Int.dvd_mul_of_dvd_right hx') (Int.dvd_mul_of_dvd_right hy'))
  ·have hx':((Nat.gcd X Y:Nat):Int) ∣ X:=Int.natCast_dvd_natCast.2 (Nat.gcd_dvd_left X Y)
   have hy':((Nat.gcd X Y:Nat):Int) ∣ Y:=Int.natCast_dvd_natCast.2 (Nat.gcd_dvd_right X Y)
   apply Int.natCast_dvd_natCast.1
   rw[hB];exact Int.dvd_mul_of_dvd_right (Int.dvd_sub (Int.dvd_mul_of_dvd_right hx') (Int.dvd_mul_of_dvd_right hy'))
end
def difS (f g:Nat)(xs ys:List Nat)(i:Nat)(c:Int):Int:=c+(((f * xs.getD i 0:Nat):Int) - ((g * ys.getD i 0:Nat):Int))
def dif (f g:Nat)(xs ys:List Nat):Nat→List Nat × Int
 | 0=>([],0)
 | k+1=>((dif f g xs ys k).1++[(difS f g xs ys k (dif f g xs ys k).2 % 1000000000).toNat],difS f g xs ys k (dif f g xs ys k).2 / 1000000000)
structure zGV (f g:Nat)(xs ys:List Nat)(k:Nat)(zs:List Nat)(c:Int):Prop where
 len:zs.length=k
 lt:∀ z∈zs,z<1000000000
 lo : -1000000000≤c
 hi:c≤1000000000
 val:((vl 1000000000 zs:Nat):Int)+((1000000000 ^ k:Nat):Int) * c=f * (vl 1000000000 (xs.take k):Nat) - g * (vl 1000000000 (ys.take k):Nat)
theorem zmJ {f g:Nat}{xs ys:List Nat}(hf:f≤1000000000)(hg:g≤1000000000)(hx:∀ x∈xs,x<1000000000)(hy:∀ y∈ys,y<1000000000)(i:Nat){c:Int}(h1 : -1000000000≤c)(h2:c≤1000000000) :
  f * xs.getD i 0≤999999999000000000∧g * ys.getD i 0≤999999999000000000 ∧ -1000000000000000000≤difS f g xs ys i c∧difS f g xs ys i c≤1000000000000000000:=by
 have a1:=zaG 1000000000 (by decide) xs hx i;have a2:=zaG 1000000000 (by decide) ys hy i;have b1:=zkS f _ hf a1;have b2:=zkS g _ hg a2;unfold difS
 omega
theorem zrx {f g:Nat}{xs ys:List Nat}(hf:f≤1000000000)(hg:g≤1000000000)(hx:∀ x∈xs,x<1000000000)(hy:∀ y∈ys,y<1000000000):∀ k,zGV f g xs ys k (dif f g xs ys k).1 (dif f g xs ys k).2
 | 0=>⟨rfl,by simp[dif],by simp[dif],by simp[dif],by simp[dif,vl]⟩
 | k+1=>by
  have ih:=zrx hf hg hx hy k;obtain⟨r1,r2,r3,r4⟩:=zmJ hf hg hx hy k ih.lo ih.hi;have hdm:=Int.mul_ediv_add_emod (difS f g xs ys k (dif f g xs ys k).2) 1000000000;have hm0:=Int.emod_nonneg (difS f g xs ys k (dif f g xs ys k).2) (show(1000000000:Int)≠0 by decide);have hm1:=Int.emod_lt_of_pos (difS f g xs ys k (dif f g xs ys k).2) (show(0:Int)<1000000000 by decide);have hS:difS f g xs ys k (dif f g xs ys k).2=(dif f g xs ys k).2+(((f * xs.getD k 0:Nat):Int) - ((g * ys.getD k 0:Nat):Int)):=rfl;have hv:=ih.val;have hl:=ih.len;refine⟨?_,?_,?_,?_,?_⟩
  ·simp[dif,hl]
  ·intro z hz
   simp only[dif,List.mem_append,List.mem_singleton] at hz;rcases hz with hz|rfl
   ·exact ih.lt z hz
   ·omega
  ·show -1000000000≤difS f g xs ys k (dif f g xs ys k).2 / 1000000000
   omega
  ·show difS f g xs ys k (dif f g xs ys k).2 / 1000000000≤1000000000
   omega
  ·show((vl 1000000000 ((dif f g xs ys k).1++[(difS f g xs ys k (dif f g xs ys k).2 % 1000000000).toNat]):Nat):Int)+((1000000000 ^ (k+1):Nat):Int) * (difS f g xs ys k (dif f g xs ys k).2 / 1000000000)=_
   rw[zea,hl,zaw,zaw];generalize difS f g xs ys k (dif f g xs ys k).2 / 1000000000=q at *;generalize hr:difS f g xs ys k (dif f g xs ys k).2 % 1000000000=r at *;have hr2:((r.toNat:Nat):Int)=r:=Int.toNat_of_nonneg hm0;have e1:(r:Int)=(dif f g xs ys k).2+(((f * xs.getD k 0:Nat):Int) - ((g * ys.getD k 0:Nat):Int)) - 1000000000 * q:=by omega
   generalize (dif f g xs ys k).2=c at *;generalize vl 1000000000 (dif f g xs ys k).1=z at *;rw[Nat.pow_succ];generalize (1000000000:Nat) ^ k=P at *;simp only[Int.natCast_add,Int.natCast_mul] at hv e1 ⊢;rw[hr2,e1];have e9:((1000000000:Nat):Int)=1000000000:=rfl;rw[e9]
   grind
theorem zEL {f g:Nat}{xs ys:List Nat}(hf:f≤1000000000)(hg:g≤1000000000)(hx:∀ x∈xs,x<1000000000)(hy:∀ y∈ys,y<1000000000){n R:Nat}(hxn:xs.length≤n)(hyn:ys.length≤n)
  (hR:R+g * vl 1000000000 ys=f * vl 1000000000 xs) (hlt:R<1000000000 ^ n):vl 1000000000 (dif f g xs ys n).1=R:=by
 have h:=zrx hf hg hx hy n;have hv:=h.val;rw[List.take_of_length_le hxn,List.take_of_length_le hyn] at hv;have hz:=zbm 1000000000 _ h.lt;rw[h.len] at hz;have hR2:(R:Int)+g * (vl 1000000000 ys:Nat)=f * (vl 1000000000 xs:Nat):=by exact_mod_cast hR
 have hv2:((vl 1000000000 (dif f g xs ys n).1:Nat):Int)+((1000000000 ^ n:Nat):Int) * (dif f g xs ys n).2=R:=by omega
 generalize vl 1000000000 (dif f g xs ys n).1=z at *;generalize (dif f g xs ys n).2=c at *;generalize (1000000000:Nat) ^ n=P at *
 have hc:c=0:=by
  rcases Int.lt_trichotomy c 0 with k|k|k
  ·have:(P:Int) * c≤(P:Int) * (-1):=Int.mul_le_mul_of_nonneg_left (by omega) (by omega)
   omega
  ·exact k
  ·have:(P:Int) * 1≤(P:Int) * c:=Int.mul_le_mul_of_nonneg_left (by omega) (by omega)
   omega
 subst hc
 omega
theorem zyx (c:Int):(Int.tmod c 1000000000<0∧c % 1000000000=Int.tmod c 1000000000+1000000000∧c / 1000000000=Int.tdiv c 1000000000 - 1) ∨
  (0≤Int.tmod c 1000000000∧c % 1000000000=Int.tmod c 1000000000∧c / 1000000000=Int.tdiv c 1000000000):=by
 have h1:=Int.mul_tdiv_add_tmod c 1000000000;have h2:=Int.tmod_lt_of_pos c (show(0:Int)<1000000000 by decide);have h3:=Int.tmod_lt_of_pos (-c) (show(0:Int)<1000000000 by decide);rw[Int.neg_tmod] at h3;generalize Int.tmod c 1000000000=t at *;generalize Int.tdiv c 1000000000=q at *
 by_cases h:t<0
 ·left;omega
 ·right;omega
structure Sr (α:Type) where
 add:α→α→α
 mul:α→α→α
 zero:α
 one:α
 star:α→α
 le:α→α→Prop
 add_comm:∀ a b,add a b=add b a
 add_assoc:∀ a b c,add (add a b) c=add a (add b c)
 add_zero:∀ a,add a zero=a
 mul_comm:∀ a b,mul a b=mul b a
 mul_assoc:∀ a b c,mul (mul a b) c=mul a (mul b c)
 mul_add:∀ a b c,mul a (add b c)=add (mul a b) (mul a c)
 mul_one:∀ a,mul a one=a
 mul_zero:∀ a,mul a zero=zero
 star_law:∀ a,add one (mul a (star a))=star a
 le_refl:∀ a,le a a
 le_trans:∀ a b c,le a b→le b c→le a c
 le_anti:∀ a b,le a b→le b a→a=b
 add_mono:∀ a b c d,le a b→le c d→le (add a c) (add b d)
 mul_mono:∀ a b c,le a b→le (mul c a) (mul c b)
 zero_le:∀ a,le zero a
 star_least:∀ a b x,le (add b (mul a x)) x→le (mul (star a) b) x
variable {α:Type}
instance (S:Sr α):Std.Associative S.add:=⟨S.add_assoc⟩
instance (S:Sr α):Std.Commutative S.add:=⟨S.add_comm⟩
instance (S:Sr α):Std.Associative S.mul:=⟨S.mul_assoc⟩
instance (S:Sr α):Std.Commutative S.mul:=⟨S.mul_comm⟩
theorem Sr.zero_add (S:Sr α)(a:α):S.add S.zero a=a:=by rw[S.add_comm,S.add_zero]
theorem Sr.one_mul (S:Sr α)(a:α):S.mul S.one a=a:=by rw[S.mul_comm,S.mul_one]
theorem Sr.zero_mul (S:Sr α)(a:α):S.mul S.zero a=S.zero:=by rw[S.mul_comm,S.mul_zero]
theorem Sr.add_mul (S:Sr α)(a b c:α):S.mul (S.add a b) c=S.add (S.mul a c) (S.mul b c):=by rw[S.mul_comm,S.mul_add,S.mul_comm c a,S.mul_comm c b]
theorem Sr.le_add (S:Sr α)(a b:α):S.le a (S.add a b):=by
 have h:=S.add_mono a a S.zero b (S.le_refl a) (S.zero_le b)
 rwa [S.add_zero] at h
theorem Sr.le_add2 (S:Sr α)(a b:α):S.le a (S.add b a):=by rw[S.add_comm];exact S.le_add a b
theorem Sr.star_mul (S:Sr α)(a b:α):S.add b (S.mul (S.mul a (S.star a)) b)=S.mul (S.star a) b:=by
 conv=>rhs;rw[← S.star_law a]
 rw[S.add_mul,S.one_mul]
def sm (S:Sr α):Nat→(Nat→α)→α
 | 0,_=>S.zero
 | n+1,f=>S.add (sm S n f) (f n)
theorem zal (S:Sr α){f g:Nat→α}:∀ {n:Nat},(∀ m,m<n→f m=g m)→sm S n f=sm S n g
 | 0,_=>rfl
 | n+1,h=>by unfold sm;rw[zal S (fun m hm=>h m (by omega)),h n (by omega)]
theorem zdA (S:Sr α)(f g:Nat→α):∀ n,sm S n (fun m=>S.add (f m) (g m))=S.add (sm S n f) (sm S n g)
 | 0=>(S.add_zero _).symm
 | n+1=>by unfold sm;rw[zdA S f g n];dsimp only;ac_rfl
theorem zic (S:Sr α)(c:α)(f:Nat→α):∀ n,S.mul c (sm S n f)=sm S n (fun m=>S.mul c (f m))
 | 0=>S.mul_zero c
 | n+1=>by unfold sm;rw[S.mul_add,zic S c f n]
theorem zjG (S:Sr α)(c:α)(f:Nat→α)(n:Nat):S.mul (sm S n f) c=sm S n (fun m=>S.mul (f m) c):=by
 rw[S.mul_comm,zic];exact zal S (fun m _=>S.mul_comm _ _)
theorem zoi (S:Sr α):∀ n,sm S n (fun _=>S.zero)=S.zero
 | 0=>rfl
 | n+1=>by unfold sm;rw[zoi S n,S.add_zero]
theorem zgE (S:Sr α){f:Nat→α}{n:Nat}(h:∀ m,m<n→f m=S.zero):sm S n f=S.zero:=by rw[zal S h,zoi]
theorem zid (S:Sr α)(f:Nat→Nat→α)(n:Nat):∀ k,sm S n (fun i=>sm S k (fun j=>f i j))=sm S k (fun j=>sm S n (fun i=>f i j))
 | 0=>zoi S n
 | k+1=>by
  show sm S n (fun i=>S.add (sm S k (fun j=>f i j)) (f i k))=S.add (sm S k (fun j=>sm S n (fun i=>f i j))) (sm S n (fun i=>f i k));rw[zdA,zid S f n k]
theorem zgF (S:Sr α){f g:Nat→α}:∀ {n:Nat},(∀ m,m<n→S.le (f m) (g m))→S.le (sm S n f) (sm S n g)
 | 0,_=>S.le_refl _
 | n+1,h=>S.add_mono _ _ _ _ (zgF S (fun m hm=>h m (by omega))) (h n (by omega))
def sx (S:Sr α)(n k:Nat)(f:Nat→α):α:=sm S n (fun m=>if m=k then S.zero else f m)
theorem zBR (S:Sr α){f g:Nat→α}{n k:Nat}(h:∀ m,m<n→m≠k→f m=g m):sx S n k f=sx S n k g:=by
 refine zal S (fun m hm => ?_)
 by_cases e:m=k
 ·rw[if_pos e,if_pos e]
 ·rw[if_neg e,if_neg e];exact h m hm e
theorem zgU (S:Sr α)(f:Nat→α){k:Nat}:∀ {n:Nat},k<n→sm S n f=S.add (f k) (sx S n k f)
 | n+1,h=>by
  unfold sx sm
  dsimp only
  by_cases e:k=n
  ·subst e
   rw[if_pos rfl,S.add_zero,S.add_comm]
   congr 1
   exact zal S (fun m hm=>(if_neg (by omega)).symm)
  ·rw[if_neg (Ne.symm e),zgU S f (show k<n by omega)]
   unfold sx
   ac_rfl
theorem zGb (S:Sr α)(n k:Nat)(f g:Nat→α):sx S n k (fun m=>S.add (f m) (g m))=S.add (sx S n k f) (sx S n k g):=by
 unfold sx;rw[← zdA];refine zal S (fun m _ => ?_)
 by_cases e:m=k
 ·simp only[e,if_true];rw[S.add_zero]
 ·simp only[e,if_false]
theorem zGc (S:Sr α)(c:α)(n k:Nat)(f:Nat→α):S.mul c (sx S n k f)=sx S n k (fun m=>S.mul c (f m)):=by
 unfold sx;rw[zic];refine zal S (fun m _ => ?_)
 by_cases e:m=k
 ·simp only[e,if_true];rw[S.mul_zero]
 ·simp only[e,if_false]
theorem zwn (S:Sr α)(f:Nat→α){k n:Nat}(h:k<n):S.le (f k) (sm S n f):=by rw[zgU S f h];exact S.le_add _ _
def idm (S:Sr α)(i j:Nat):α:=if i=j then S.one else S.zero
theorem zjH (S:Sr α)(f:Nat→α){n j:Nat}(h:j<n):sm S n (fun m=>S.mul (f m) (idm S m j))=f j:=by
 rw[zgU S _ h];unfold idm sx
 rw[if_pos rfl,S.mul_one,zgE S (fun m _=>by
  by_cases e:m=j
  ·rw[if_pos e]
  ·rw[if_neg e]
   dsimp only
   rw[if_neg e,S.mul_zero]),S.add_zero]
theorem zjI (S:Sr α)(f:Nat→α){n i:Nat}(h:i<n):sm S n (fun m=>S.mul (idm S i m) (f m))=f i:=by
 have h2:=zjH S f h;rw[← h2];refine zal S (fun m _ => ?_);rw[S.mul_comm];unfold idm
 by_cases e:i=m
 ·subst e;rfl
 ·rw[if_neg e,if_neg (Ne.symm e)]
def el (S:Sr α)(A:Nat→Nat→α):Nat→Nat→Nat→α
 | 0,i,j=>A i j
 | k+1,i,j=>S.add (el S A k i j) (S.mul (S.mul (el S A k i k) (S.star (el S A k k k))) (el S A k k j))
def stM (S:Sr α)(A:Nat→Nat→α)(n i j:Nat):α:=S.add (idm S i j) (el S A n i j)
theorem zjJ (S:Sr α)(A:Nat→Nat→α)(k j:Nat):el S A (k+1) k j=S.mul (S.star (el S A k k k)) (el S A k k j):=S.star_mul _ _
theorem zbF (S:Sr α)(A:Nat→Nat→α):∀ k i j,el S A k i j=S.add (A i j) (sm S k (fun m=>S.mul (A i m) (el S A k m j)))
 | 0,i,j=>(S.add_zero _).symm
 | k+1,i,j=>by
  have h1:=zbF S A k i j;have h2:=zbF S A k i k
  have e:sm S k (fun m=>S.mul (A i m) (el S A (k+1) m j))=S.add (sm S k (fun m=>S.mul (A i m) (el S A k m j))) (S.mul (sm S k (fun m=>S.mul (A i m) (el S A k m k))) (S.mul (S.star (el S A k k k)) (el S A k k j))):=by
   rw[zjG,← zdA];refine zal S (fun m _ => ?_);show S.mul (A i m) (S.add (el S A k m j) (S.mul (S.mul (el S A k m k) (S.star (el S A k k k))) (el S A k k j)))=_;rw[S.mul_add]
   congr 1
   ac_rfl
  show S.add (el S A k i j) (S.mul (S.mul (el S A k i k) (S.star (el S A k k k))) (el S A k k j))=S.add (A i j) (S.add (sm S k (fun m=>S.mul (A i m) (el S A (k+1) m j))) (S.mul (A i k) (el S A (k+1) k j)));rw[e,zjJ];generalize hx:S.mul (S.star (el S A k k k)) (el S A k k j)=x;rw[S.mul_assoc,hx];generalize sm S k (fun m=>S.mul (A i m) (el S A k m j))=p at *;generalize sm S k (fun m=>S.mul (A i m) (el S A k m k))=q at *;rw[h1,h2,S.add_mul]
  ac_rfl
theorem zec (S:Sr α)(A:Nat→Nat→α):∀ k i j,el S (fun a b=>A b a) k i j=el S A k j i
 | 0,i,j=>rfl
 | k+1,i,j=>by
  unfold el;rw[zec S A k i j,zec S A k i k,zec S A k k k,zec S A k k j]
  congr 1
  ac_rfl
theorem zeJ (S:Sr α)(A:Nat→Nat→α)(k i j:Nat):el S A k i j=S.add (A i j) (sm S k (fun m=>S.mul (el S A k i m) (A m j))):=by
 rw[← zec S A k j i,zbF S (fun a b=>A b a) k j i]
 congr 1
 refine zal S (fun m _ => ?_);rw[zec S A k m i,S.mul_comm]
theorem zpF (S:Sr α)(A:Nat→Nat→α){n i j:Nat}(hj:j<n):stM S A n i j=S.add (idm S i j) (sm S n (fun m=>S.mul (A i m) (stM S A n m j))):=by
 have e:sm S n (fun m=>S.mul (A i m) (stM S A n m j))=S.add (sm S n (fun m=>S.mul (A i m) (idm S m j))) (sm S n (fun m=>S.mul (A i m) (el S A n m j))):=by
  rw[← zdA];exact zal S (fun m _=>S.mul_add _ _ _)
 rw[e,zjH S _ hj,← zbF]
 rfl
theorem zfx (S:Sr α)(A:Nat→Nat→α)(b X:Nat→α){n:Nat}(h:∀ i,i<n→S.le (S.add (b i) (sm S n (fun m=>S.mul (A i m) (X m)))) (X i)) :
  ∀ k,k≤n→∀ i,i<n→S.le (S.add (b i) (sm S n (fun m=>S.mul (el S A k i m) (if m<k then b m else X m)))) (X i)
 | 0,_,i,hi=>by
  refine S.le_trans _ _ _ ?_ (h i hi);rw[zal S (g:=fun m=>S.mul (A i m) (X m)) (fun m _=>by simp[el])];exact S.le_refl _
 | k+1,hk,i,hi=>by
  have ih:=zfx S A b X h k (by omega);have hkn:k<n:=by omega
  have hrow:=ih k hkn;rw[zgU S _ hkn] at hrow;have hrow2:=ih i hi;rw[zgU S _ hkn] at hrow2;simp only[Nat.lt_irrefl,if_false] at hrow hrow2
  have hst:S.le (S.mul (S.star (el S A k k k)) (S.add (b k) (sx S n k (fun m=>S.mul (el S A k k m) (if m<k then b m else X m))))) (X k):=by
   refine S.star_least _ _ _ ?_;refine S.le_trans _ _ _ ?_ hrow;rw[show S.add (S.add (b k) (sx S n k (fun m=>S.mul (el S A k k m) (if m<k then b m else X m)))) (S.mul (el S A k k k) (X k))=S.add (b k) (S.add (S.mul (el S A k k k) (X k)) (sx S n k (fun m=>S.mul (el S A k k m) (if m<k then b m else X m)))) by ac_rfl];exact S.le_refl _
  refine S.le_trans _ _ _ ?_ hrow2;rw[zgU S _ hkn];simp only[Nat.lt_succ_self,if_true]
  have e1:el S A (k+1) i k=S.mul (el S A k i k) (S.star (el S A k k k)):=by
   show S.add (el S A k i k) (S.mul (S.mul (el S A k i k) (S.star (el S A k k k))) (el S A k k k))=_;rw[show S.mul (S.mul (el S A k i k) (S.star (el S A k k k))) (el S A k k k)=S.mul (S.mul (el S A k k k) (S.star (el S A k k k))) (el S A k i k) by ac_rfl,S.star_mul,S.mul_comm]
  have e2:sx S n k (fun m=>S.mul (el S A (k+1) i m) (if m<k+1 then b m else X m))=S.add (sx S n k (fun m=>S.mul (el S A k i m) (if m<k then b m else X m))) (S.mul (S.mul (el S A k i k) (S.star (el S A k k k))) (sx S n k (fun m=>S.mul (el S A k k m) (if m<k then b m else X m)))):=by
   rw[zGc,← zGb];refine zBR S (fun m _ hm => ?_)
   have e3:(if m<k+1 then b m else X m)=(if m<k then b m else X m):=by
    by_cases e:m<k
    ·rw[if_pos e,if_pos (by omega)]
    ·rw[if_neg e,if_neg (by omega)]
   rw[e3];show S.mul (S.add (el S A k i m) (S.mul (S.mul (el S A k i k) (S.star (el S A k k k))) (el S A k k m))) _=_;rw[S.add_mul]
   congr 1
   ac_rfl
  rw[e1,e2];have hmm:=S.mul_mono _ _ (el S A k i k) hst;generalize hT:sx S n k (fun m=>S.mul (el S A k i m) (if m<k then b m else X m))=T;generalize hU:sx S n k (fun m=>S.mul (el S A k k m) (if m<k then b m else X m))=U at *
  have e4:S.add (b i) (S.add (S.mul (S.mul (el S A k i k) (S.star (el S A k k k))) (b k)) (S.add T (S.mul (S.mul (el S A k i k) (S.star (el S A k k k))) U)))=S.add (b i) (S.add (S.mul (el S A k i k) (S.mul (S.star (el S A k k k)) (S.add (b k) U))) T):=by
   rw[S.mul_add,S.mul_add,← S.mul_assoc,← S.mul_assoc]
   ac_rfl
  rw[e4];exact S.add_mono _ _ _ _ (S.le_refl _) (S.add_mono _ _ _ _ hmm (S.le_refl _))
theorem star_least (S:Sr α)(A:Nat→Nat→α)(X:Nat→α){n j:Nat}(hj:j<n)(h:∀ i,i<n→S.le (S.add (idm S i j) (sm S n (fun m=>S.mul (A i m) (X m)))) (X i)){i:Nat}(hi:i<n):S.le (stM S A n i j) (X i):=by
 have hl:=zfx S A (fun i=>idm S i j) X h n (Nat.le_refl n) i hi;rw[zal S (g:=fun m=>S.mul (el S A n i m) (idm S m j)) (fun m hm=>by rw[if_pos hm]),zjH S _ hj] at hl;exact hl
variable {α:Type}
def sw (p q i:Nat):Nat:=if i=p then q else if i=q then p else i
theorem zlU (S:Sr α){A B:Nat→Nat→α}{n:Nat}(h:∀ i j,i<n→j<n→A i j=B i j):∀ k,k≤n→∀ i j,i<n→j<n→el S A k i j=el S B k i j
 | 0,_,i,j,hi,hj=>h i j hi hj
 | k+1,hk,i,j,hi,hj=>by
  have ih:=zlU S h k (by omega);unfold el;rw[ih i j hi hj,ih i k hi (by omega),ih k k (by omega) (by omega),ih k j (by omega) hj]
theorem zpG (S:Sr α){A B:Nat→Nat→α}{n:Nat}(h:∀ i j,i<n→j<n→A i j=B i j){i j:Nat}(hi:i<n)(hj:j<n):stM S A n i j=stM S B n i j:=by
 unfold stM;rw[zlU S h n (Nat.le_refl n) i j hi hj]
def mm (S:Sr α)(n:Nat)(a b:Nat→Nat→α)(i j:Nat):α:=sm S n (fun m=>S.mul (a i m) (b m j))
def pwM (S:Sr α)(n:Nat)(u:Nat→Nat→α):Nat→Nat→Nat→α
 | 0=>idm S
 | k+1=>mm S n (pwM S n u k) u
theorem zBS (S:Sr α)(n:Nat)(a b c:Nat→Nat→α)(i j:Nat):mm S n (mm S n a b) c i j=mm S n a (mm S n b c) i j:=by
 unfold mm;rw[zal S (g:=fun m=>sm S n (fun l=>S.mul (S.mul (a i l) (b l m)) (c m j))) (fun m _=>zjG S _ _ n),zid S (fun m l=>S.mul (S.mul (a i l) (b l m)) (c m j)) n n];refine zal S (fun l _ => ?_);rw[zic];exact zal S (fun m _=>S.mul_assoc _ _ _)
theorem zBT (S:Sr α){n:Nat}{a b c d:Nat→Nat→α}{i j:Nat}(h1:∀ m,m<n→a i m=c i m)(h2:∀ m,m<n→b m j=d m j):mm S n a b i j=mm S n c d i j :=
 zal S (fun m hm=>by rw[h1 m hm,h2 m hm])
theorem zry (S:Sr α)(n:Nat)(u:Nat→Nat→α):∀ k i j,i<n→j<n→mm S n u (pwM S n u k) i j=pwM S n u (k+1) i j
 | 0,i,j,hi,hj=>by
  show sm S n (fun m=>S.mul (u i m) (idm S m j))=sm S n (fun m=>S.mul (idm S i m) (u m j));rw[zjH S _ hj,zjI S _ hi]
 | k+1,i,j,hi,hj=>by
  show mm S n u (mm S n (pwM S n u k) u) i j=mm S n (mm S n (pwM S n u k) u) u i j;rw[← zBS];exact zBT S (fun m hm=>zry S n u k i m hi hm) (fun m _=>rfl)
theorem zrz (S:Sr α){n:Nat}{u:Nat→Nat→α}(hu:∀ i j,i<n→j<n→j≤i→u i j=S.zero):∀ k i j,i<n→j<n→j<i+k→pwM S n u k i j=S.zero
 | 0,i,j,hi,hj,h=>by show idm S i j=_;unfold idm;rw[if_neg (by omega)]
 | k+1,i,j,hi,hj,h=>zgE S (fun m hm=>by
  by_cases e:m<i+k
  ·rw[zrz S hu k i m hi hm e,S.zero_mul]
  ·rw[hu m j hm hj (by omega),S.mul_zero])
def pwS (S:Sr α)(n:Nat)(u:Nat→Nat→α)(k i j:Nat):α:=sm S k (fun l=>pwM S n u l i j)
theorem zyy (S:Sr α){n:Nat}{u:Nat→Nat→α}(hu:∀ i j,i<n→j<n→j≤i→u i j=S.zero){i j:Nat}(hi:i<n)(hj:j<n) :
  pwS S n u n i j=S.add (idm S i j) (sm S n (fun m=>S.mul (u i m) (pwS S n u n m j))):=by
 have e:sm S n (fun m=>S.mul (u i m) (pwS S n u n m j))=sm S n (fun l=>pwM S n u (l+1) i j):=by
  unfold pwS;rw[zal S (g:=fun m=>sm S n (fun l=>S.mul (u i m) (pwM S n u l m j))) (fun m _=>zic S _ _ n),zid S (fun m l=>S.mul (u i m) (pwM S n u l m j)) n n];exact zal S (fun l _=>zry S n u l i j hi hj)
 rw[e]
 have shift:∀ k (f:Nat→α),S.add (sm S k f) (f k)=S.add (f 0) (sm S k (fun l=>f (l+1))):=fun k f=>by
  induction k with
  | zero=>show S.add S.zero (f 0)=S.add (f 0) S.zero;ac_rfl
  | succ k ih =>
   show S.add (S.add (sm S k f) (f k)) (f (k+1))=S.add (f 0) (S.add (sm S k (fun l=>f (l+1))) (f (k+1)));rw[ih];ac_rfl
 have h:=shift n (fun l=>pwM S n u l i j);rw[zrz S hu n i j hi hj (by omega),S.add_zero] at h;exact h
theorem zpH (S:Sr α){n:Nat}{u:Nat→Nat→α}(hu:∀ i j,i<n→j<n→j≤i→u i j=S.zero){X Y:Nat→α}{b:Nat→α}
  (hX:∀ i,i<n→X i=S.add (b i) (sm S n (fun m=>S.mul (u i m) (X m)))) (hY:∀ i,i<n→Y i=S.add (b i) (sm S n (fun m=>S.mul (u i m) (Y m)))):∀ d i,i<n→n≤i+d→X i=Y i
 | 0,i,hi,h=>by omega
 | d+1,i,hi,h=>by
  rw[hX i hi,hY i hi]
  congr 1
  refine zal S (fun m hm => ?_)
  by_cases e:m≤i
  ·rw[hu i m hi hm e,S.zero_mul,S.zero_mul]
  ·rw[zpH S hu hX hY d m hm (by omega)]
theorem ztS (S:Sr α){n:Nat}{u:Nat→Nat→α}(hu:∀ i j,i<n→j<n→j≤i→u i j=S.zero){i j:Nat}(hi:i<n)(hj:j<n):stM S u n i j=pwS S n u n i j :=
 zpH S hu (X:=fun i=>stM S u n i j) (Y:=fun i=>pwS S n u n i j) (b:=fun i=>idm S i j) (fun i hi=>zpF S u hj) (fun i hi=>zyy S hu hi hj) n i hi (by omega)
def zbx (S:Sr α)(A:Nat→Nat→α):List Nat→α
 | []=>S.one
 | [_]=>S.one
 | x::y::l=>S.mul (A x y) (zbx S A (y::l))
variable {α:Type}
theorem Sr.zero_of_le (S:Sr α){a:α}(h:S.le a S.zero):a=S.zero:=S.le_anti _ _ h (S.zero_le a)
theorem Sr.zero_left (S:Sr α){a b:α}(h:S.add a b=S.zero):a=S.zero:=S.zero_of_le (h ▸ S.le_add a b)
theorem Sr.zero_right (S:Sr α){a b:α}(h:S.add a b=S.zero):b=S.zero:=S.zero_of_le (h ▸ S.le_add2 b a)
theorem zwo (S:Sr α){f:Nat→α}{n k:Nat}(h:sm S n f=S.zero)(hk:k<n):f k=S.zero:=S.zero_of_le (h ▸ zwn S f hk)
theorem zoj (S:Sr α)(f:Nat→α)(p:Nat→Bool):∀ k,sm S ((List.range k).filter p).length (fun x=>f (((List.range k).filter p).getD x 0))=sm S k (fun m=>if p m=true then f m else S.zero)
 | 0=>rfl
 | k+1=>by
  have ih:=zoj S f p k;show _=S.add (sm S k (fun m=>if p m=true then f m else S.zero)) (if p k=true then f k else S.zero);rw[← ih,List.range_succ,List.filter_append]
  by_cases hk:p k=true
  ·rw[if_pos hk]
   have e1:[k].filter p=[k]:=by simp[hk]
   rw[e1,List.length_append,List.length_singleton];show S.add (sm S ((List.range k).filter p).length (fun x=>f ((((List.range k).filter p)++[k]).getD x 0))) (f ((((List.range k).filter p)++[k]).getD ((List.range k).filter p).length 0))=_
   have e2:(((List.range k).filter p)++[k]).getD ((List.range k).filter p).length 0=k:=by
    rw[List.getD_eq_getElem?_getD,List.getElem?_append_right (Nat.le_refl _),Nat.sub_self];rfl
   rw[e2]
   congr 1
   refine zal S (fun m hm => ?_);rw[List.getD_eq_getElem?_getD,List.getD_eq_getElem?_getD,List.getElem?_append_left hm]
  ·rw[if_neg hk,S.add_zero]
   have e1:[k].filter p=[]:=by simp[hk]
   rw[e1,List.append_nil]
inductive Rch (S:Sr α) (A:Nat→Nat→α) (k:Nat):Nat→Nat→Prop
 | one {i m:Nat}:A i m≠S.zero→Rch S A k i m
 | more {i l m:Nat}:l<k→A i l≠S.zero→Rch S A k l m→Rch S A k i m
theorem Rch.mono {S:Sr α}{A:Nat→Nat→α}{k k' i m:Nat}(h:Rch S A k i m)(hk:k≤k'):Rch S A k' i m:=by
 induction h with
 | one h=>exact .one h
 | more hl h _ ih=>exact .more (by omega) h ih
theorem Rch.trans {S:Sr α}{A:Nat→Nat→α}{k i l m:Nat}(h:Rch S A k i l)(hl:l<k)(h2:Rch S A k l m):Rch S A k i m:=by
 induction h with
 | one h=>exact .more hl h h2
 | more hl' h _ ih=>exact .more hl' h (ih hl h2)
theorem zfe (S:Sr α)(A:Nat→Nat→α):∀ k i m,el S A k i m≠S.zero→Rch S A k i m
 | 0,i,m,h => .one h
 | k+1,i,m,h=>by
  by_cases h1:el S A k i m=S.zero
  ·by_cases h2:el S A k i k=S.zero
   ·exact absurd (by unfold el;rw[h1,h2,S.zero_mul,S.zero_mul,S.add_zero]) h
   ·by_cases h3:el S A k k m=S.zero
    ·exact absurd (by unfold el;rw[h1,h3,S.mul_zero,S.add_zero]) h
    ·exact((zfe S A k i k h2).mono (Nat.le_succ k)).trans (Nat.lt_succ_self k) ((zfe S A k k m h3).mono (Nat.le_succ k))
  ·exact(zfe S A k i m h1).mono (Nat.le_succ k)
theorem zie (S:Sr α)(hm:∀ a b:α,a≠S.zero→b≠S.zero→S.mul a b≠S.zero)(A:Nat→Nat→α){k i m:Nat}(h:Rch S A k i m):el S A k i m≠S.zero:=by
 induction h with
 | one h=>exact fun e=>h (S.zero_left ((zbF S A k _ _).symm.trans e))
 | more hl h _ ih=>exact fun e=>hm _ _ h ih (zwo S (S.zero_right ((zbF S A k _ _).symm.trans e)) hl)
theorem zeK (S:Sr α)(A:Nat→Nat→α):∀ t x y,el S (fun x y=>el S A 1 (x+1) (y+1)) t x y=el S A (t+1) (x+1) (y+1)
 | 0,x,y=>rfl
 | t+1,x,y=>by
  show S.add (el S (fun x y=>el S A 1 (x+1) (y+1)) t x y) (S.mul (S.mul (el S (fun x y=>el S A 1 (x+1) (y+1)) t x t) (S.star (el S (fun x y=>el S A 1 (x+1) (y+1)) t t t))) (el S (fun x y=>el S A 1 (x+1) (y+1)) t t y))=_;rw[zeK S A t x y,zeK S A t x t,zeK S A t t t,zeK S A t t y]
  rfl
theorem zok (S:Sr α)(A:Nat→Nat→α)(i j:Nat):∀ d k,S.le (el S A k i j) (el S A (k+d) i j)
 | 0,k=>S.le_refl _
 | d+1,k=>S.le_trans _ _ _ (zok S A i j d k) (S.le_add _ _)
variable {α:Type}
theorem zyz (S:Sr α)(A:Nat→Nat→α)(σ τ:Nat→Nat):∀ t,(∀ m,m<t→σ m=m+1∧τ m=m+1)→∀ x y,el S (fun x y=>el S A 1 (σ x) (τ y)) t x y=el S A (t+1) (σ x) (τ y)
 | 0,_,x,y=>rfl
 | t+1,h,x,y=>by
  have ih:=zyz S A σ τ t (fun m hm=>h m (by omega));have ht:=h t (Nat.lt_succ_self t);show S.add (el S (fun x y=>el S A 1 (σ x) (τ y)) t x y) (S.mul (S.mul (el S (fun x y=>el S A 1 (σ x) (τ y)) t x t) (S.star (el S (fun x y=>el S A 1 (σ x) (τ y)) t t t))) (el S (fun x y=>el S A 1 (σ x) (τ y)) t t y))=_;rw[ih x y,ih x t,ih t t,ih t y,ht.1,ht.2]
  rfl
theorem zBU (S:Sr α)(A:Nat→Nat→α)(n j:Nat):el S A (n+1) 0 (j+1)=S.add (el S A 1 0 (j+1)) (sm S n (fun l=>S.mul (el S A 1 0 (l+1)) (el S A (n+1) (l+1) (j+1)))):=by
 have hm:=zyz S A (fun x=>if x<n then x+1 else 0) (fun y=>y+1) n (fun m hm=>⟨if_pos hm,rfl⟩);have hl:=zbF S (fun x y=>el S A 1 ((fun x=>if x<n then x+1 else 0) x) ((fun y=>y+1) y)) n n j;rw[hm n j] at hl;simp only[Nat.lt_irrefl,if_false] at hl;rw[hl]
 congr 1
 refine zal S (fun m hmn => ?_);have:=hm m j;simp only[if_pos hmn] at this;rw[← this]
def xsol (S:Sr α)(A:Nat→Nat→α)(n:Nat)(F:Nat→α)(i:Nat):α:=sm S n (fun m=>S.mul (stM S A n i m) (F m))
theorem zuX (S:Sr α)(A:Nat→Nat→α)(n:Nat)(F:Nat→α){i:Nat}(hi:i<n):xsol S A n F i=S.add (F i) (sm S n (fun m=>S.mul (el S A n i m) (F m))):=by
 unfold xsol;rw[← zjI S F hi,← zdA];refine zal S (fun m _ => ?_);unfold stM;rw[S.add_mul]
theorem zeM (S:Sr α)(A:Nat→Nat→α)(n:Nat)(F:Nat→α){i:Nat}(hi:i<n):xsol S A n F i=S.add (F i) (sm S n (fun m=>S.mul (A i m) (xsol S A n F m))):=by
 have e:sm S n (fun m=>S.mul (A i m) (xsol S A n F m))=sm S n (fun j=>sm S n (fun m=>S.mul (S.mul (A i m) (stM S A n m j)) (F j))):=by
  rw[← zid];refine zal S (fun m _ => ?_);unfold xsol;rw[zic];exact zal S (fun j _=>(S.mul_assoc _ _ _).symm)
 rw[e]
 conv=>rhs;lhs;rw[← zjI S F hi]
 rw[← zdA];unfold xsol;refine zal S (fun j hj => ?_);rw[← zjG,← S.add_mul,← zpF S A hj]
theorem zed (S:Sr α)(A:Nat→Nat→α){n:Nat}(F Z:Nat→α)(h:∀ i,i<n→S.le (S.add (F i) (sm S n (fun m=>S.mul (A i m) (Z m)))) (Z i)){i:Nat}(hi:i<n):S.le (xsol S A n F i) (Z i):=by
 have hl:=zfx S A F Z h n (Nat.le_refl n) i hi;rw[zal S (g:=fun m=>S.mul (el S A n i m) (F m)) (fun m hm=>by rw[if_pos hm])] at hl;rw[zuX S A n F hi];exact hl
theorem ziA (S:Sr α){A B:Nat→Nat→α}{F G:Nat→α}{n:Nat}(h:∀ i j,i<n→j<n→A i j=B i j)(hf:∀ i,i<n→F i=G i){i:Nat}(hi:i<n):xsol S A n F i=xsol S B n G i :=
 zal S (fun m hm=>by rw[zpG S h hi hm,hf m hm])
def augM (A b:Nat→Nat→α)(n x y:Nat):α:=if y<n then A x y else b x (y - n)
theorem zol (S:Sr α)(A b:Nat→Nat→α){n t:Nat}(ht:t≤n){j:Nat}(hj:j<n):∀ i,el S (augM A b n) t i j=el S A t i j:=by
 have:∀ t,t≤n→∀ i j,j<n→el S (augM A b n) t i j=el S A t i j:=by
  intro t
  induction t with
  | zero=>intro _ i j hj;show augM A b n i j=A i j;unfold augM;rw[if_pos hj]
  | succ t ih =>
   intro ht i j hj;unfold el;rw[ih (by omega) i j hj,ih (by omega) i t (by omega),ih (by omega) t t (by omega),ih (by omega) t j hj]
 exact fun i=>this t ht i j hj
theorem ztT (S:Sr α)(A b:Nat→Nat→α)(n t:Nat)(ht:t≤n)(i J:Nat):el S (augM A b n) t i (n+J)=S.add (b i J) (sm S t (fun m=>S.mul (el S A t i m) (b m J))):=by
 rw[zeJ];have e:∀ x,augM A b n x (n+J)=b x J:=fun x=>by unfold augM;rw[if_neg (by omega),Nat.add_sub_cancel_left]
 rw[e]
 congr 1
 refine zal S (fun m hm => ?_);rw[zol S A b ht (by omega),e]
theorem zuY (S:Sr α)(A b:Nat→Nat→α){n i:Nat}(hi:i<n)(J:Nat):el S (augM A b n) n i (n+J)=xsol S A n (fun m=>b m J) i:=by
 rw[ztT S A b n n (Nat.le_refl n),zuX S A n _ hi]
theorem zrA (S:Sr α)(A:Nat→Nat→α){n J:Nat}(i:Nat)(hJ:J<n):xsol S A n (fun m=>idm S m J) i=stM S A n i J:=zjH S _ hJ
theorem zuZ (S:Sr α)(f:Nat→α){k d:Nat}(h:d<k):sm S k (fun e=>if d=e then f e else S.zero)=f d:=by
 rw[zgU S _ h];unfold sx;simp only[if_true]
 rw[zgE S (fun m _=>by
  by_cases e:m=d
  ·rw[if_pos e]
  ·rw[if_neg e,if_neg (Ne.symm e)]),S.add_zero]
def mrg (S:Sr α)(n:Nat)(f:Nat→α)(κ:Nat→Nat)(d:Nat):α:=sm S n (fun j=>if κ j=d then f j else S.zero)
theorem zEM (S:Sr α){n k:Nat}(f y:Nat→α)(κ:Nat→Nat)(hk:∀ j,j<n→κ j<k):sm S k (fun d=>S.mul (mrg S n f κ d) (y d))=sm S n (fun j=>S.mul (f j) (y (κ j))):=by
 have e:sm S k (fun d=>S.mul (mrg S n f κ d) (y d))=sm S n (fun j=>sm S k (fun d=>S.mul (if κ j=d then f j else S.zero) (y d))):=by
  rw[← zid];exact zal S (fun d _=>by unfold mrg;rw[zjG])
 rw[e];refine zal S (fun j hj => ?_);rw[← zuZ S (fun d=>S.mul (f j) (y d)) (hk j hj)];refine zal S (fun d _ => ?_)
 by_cases h:κ j=d
 ·rw[if_pos h,if_pos h]
 ·rw[if_neg h,if_neg h,S.zero_mul]
theorem ztU (S:Sr α)(A:Nat→Nat→α){n k:Nat}(F:Nat→α)(κ ρ:Nat→Nat)(hκ:∀ j,j<n→κ j<k)(hρ:∀ c,c<k→ρ c<n)(hκρ:∀ c,c<k→κ (ρ c)=c)
  (he:∀ i j,i<n→j<n→A (ρ (κ i)) j=A i j) {i:Nat} (hi:i<n) :
  xsol S A n F i=S.add (F i) (xsol S (fun c d=>mrg S n (A (ρ c)) κ d) k (fun c=>sm S n (fun j=>S.mul (A (ρ c) j) (F j))) (κ i)):=by
 generalize hA':(fun c d=>mrg S n (A (ρ c)) κ d)=A';generalize hb':(fun c=>sm S n (fun j=>S.mul (A (ρ c) j) (F j)))=b'
 have eA:∀ c (y:Nat→α),sm S k (fun d=>S.mul (A' c d) (y d))=sm S n (fun j=>S.mul (A (ρ c) j) (y (κ j))):=fun c y=>by
  rw[← hA'];exact zEM S _ y κ hκ
 have eb:∀ c,b' c=sm S n (fun j=>S.mul (A (ρ c) j) (F j)):=fun c=>by rw[← hb']
 have hy:∀ c,c<k→S.le (xsol S A' k b' c) (sm S n (fun j=>S.mul (A (ρ c) j) (xsol S A n F j))):=by
  intro c hc;refine zed S A' b' (fun c=>sm S n (fun j=>S.mul (A (ρ c) j) (xsol S A n F j))) (fun c hc => ?_) hc;rw[eA,eb,← zdA];rw[zal S (g:=fun j=>S.mul (A (ρ c) j) (xsol S A n F j)) (fun j hj => ?_)]
  ·exact S.le_refl _
  ·rw[← S.mul_add]
   congr 1
   conv=>rhs;rw[zeM S A n F hj]
   congr 1
   exact zal S (fun m hm=>by rw[he j m hj hm])
 refine S.le_anti _ _ ?_ ?_
 ·refine zed S A F (fun i=>S.add (F i) (xsol S A' k b' (κ i))) (fun i hi => ?_) hi
  try dsimp only
  have hκi:=hκ i hi;rw[zeM S A' k b' hκi,eA,eb,← zdA];rw[zal S (g:=fun j=>S.add (S.mul (A (ρ (κ i)) j) (F j)) (S.mul (A (ρ (κ i)) j) (xsol S A' k b' (κ j)))) (fun j hj => ?_)]
  ·exact S.le_refl _
  ·rw[he i j hi hj,S.mul_add]
 ·conv=>rhs;rw[zeM S A n F hi]
  refine S.add_mono _ _ _ _ (S.le_refl _) ?_;refine S.le_trans _ _ _ (hy (κ i) (hκ i hi)) ?_;rw[zal S (g:=fun j=>S.mul (A i j) (xsol S A n F j)) (fun j hj=>by rw[he i j hi hj])];exact S.le_refl _
theorem zyA (S:Sr α)(A A':Nat→Nat→α){n k:Nat}(F F':Nat→α)(ρ:Nat→Nat)(hρ:∀ c,c<k→ρ c<n)
  (hs:∀ c,c<k→∀ X:Nat→α,(∀ j,j<n→(∀ d,d<k→ρ d≠j)→S.mul (A (ρ c) j) (X j)=S.zero)→sm S n (fun j=>S.mul (A (ρ c) j) (X j))=sm S k (fun d=>S.mul (A' c d) (X (ρ d))))
  (hF:∀ c,c<k→F' c=F (ρ c)) (hdead:∀ c,c<k→∀ j,j<n→(∀ d,d<k→ρ d≠j)→S.mul (A (ρ c) j) (xsol S A n F j)=S.zero) (hinj:∀ c d,c<k→d<k→ρ c=ρ d→c=d)
  {c:Nat} (hc:c<k):xsol S A' k F' c=xsol S A n F (ρ c):=by
 refine S.le_anti _ _ ?_ ?_
 ·refine zed S A' F' (fun c=>xsol S A n F (ρ c)) (fun c hc => ?_) hc
  try dsimp only
  rw[hF c hc,← hs c hc (xsol S A n F) (hdead c hc),← zeM S A n F (hρ c hc)];exact S.le_refl _
 ·have key:=zed S A F (fun j=>if h:∃ d,d<k∧ρ d=j then xsol S A' k F' h.choose else xsol S A n F j) (fun j hj => ?_) (hρ c hc)
  ·have h:∃ d,d<k∧ρ d=ρ c:=⟨c,hc,rfl⟩
   rw[dif_pos h] at key;have:=hinj _ _ h.choose_spec.1 hc h.choose_spec.2
   rwa [this] at key
  ·by_cases h:∃ d,d<k∧ρ d=j
   ·rw[dif_pos h]
    obtain⟨hd,e⟩:=h.choose_spec;generalize h.choose=d at *;subst e;rw[hs d hd _ (fun j hj hno => ?_)]
    ·rw[zal S (g:=fun e=>S.mul (A' d e) (xsol S A' k F' e)) (fun e he => ?_),← hF d hd,← zeM S A' k F' hd]
     ·exact S.le_refl _
     ·have h2:∃ d,d<k∧ρ d=ρ e:=⟨e,he,rfl⟩
      rw[dif_pos h2];have:=hinj _ _ h2.choose_spec.1 he h2.choose_spec.2;rw[this]
    ·rw[dif_neg (fun⟨d,hd,e⟩=>hno d hd e)]
     exact hdead d hd j hj hno
   ·rw[dif_neg h]
    conv=>rhs;rw[zeM S A n F hj]
    refine S.add_mono _ _ _ _ (S.le_refl _) (zgF S (fun m hm => ?_))
    by_cases h2:∃ d,d<k∧ρ d=m
    ·rw[dif_pos h2]
     obtain⟨hd,e⟩:=h2.choose_spec;generalize h2.choose=d at *;subst e;refine S.mul_mono _ _ _ ?_;refine zed S A' F' (fun c=>xsol S A n F (ρ c)) (fun c hc => ?_) hd
     try dsimp only
     rw[hF c hc,← hs c hc (xsol S A n F) (hdead c hc),← zeM S A n F (hρ c hc)];exact S.le_refl _
    ·rw[dif_neg h2]
     exact S.le_refl _
variable {α:Type}
def zaN (S:Sr α)(row f:Nat→α)(R:Nat→Nat→α)(n j:Nat):α:=S.add (row j) (sm S n (fun s=>S.mul (f s) (R s j)))
def zcL (S:Sr α)(Fit:α→Prop)(n m:Nat)(row f:Nat→α)(R:Nat→Nat→α):Prop :=
 ∀ t,t<n→∀ j,j<m→Fit (S.mul (f t) (R t j))∧Fit (zaN S row f R (t+1) j)
def fstR (S:Sr α)(A:Nat→Nat→α)(j:Nat):α:=S.mul (S.star (A 0 0)) (A 0 (j+1))
def putR (S:Sr α)(A:Nat→Nat→α)(i j:Nat):α:=zaN S (fun j=>A (i+1) (j+1)) (fun _=>A (i+1) 0) (fun _=>fstR S A) 1 j
def zdr (S:Sr α):Nat→(Nat→Nat→α)→Nat→Nat→α
 | 0,_,_,_=>S.zero
 | n+1,A,0,J=>zaN S (fun J=>fstR S A (n+J)) (fstR S A) (zdr S n (putR S A)) n J
 | n+1,A,i+1,J=>zdr S n (putR S A) i J
def zdN (S:Sr α)(Fit:α→Prop):Nat→Nat→(Nat→Nat→α)→Prop
 | 0,_,_=>True
 | n+1,m,A=>Fit (S.star (A 0 0))∧(∀ j,j<n+m→Fit (fstR S A j))∧(∀ i,i<n→zcL S Fit 1 (n+m) (fun j=>A (i+1) (j+1)) (fun _=>A (i+1) 0) (fun _=>fstR S A)) ∧
  zdN S Fit n m (putR S A)∧zcL S Fit n m (fun J=>fstR S A (n+J)) (fstR S A) (zdr S n (putR S A))
theorem zom (S:Sr α)(A:Nat→Nat→α)(j:Nat):fstR S A j=el S A 1 0 (j+1):=(zjJ S A 0 (j+1)).symm
theorem zEN (S:Sr α)(A:Nat→Nat→α)(i j:Nat):putR S A i j=el S A 1 (i+1) (j+1):=by
 unfold putR zaN fstR;show S.add (A (i+1) (j+1)) (S.add S.zero (S.mul (A (i+1) 0) (S.mul (S.star (A 0 0)) (A 0 (j+1)))))=S.add (A (i+1) (j+1)) (S.mul (S.mul (A (i+1) 0) (S.star (A 0 0))) (A 0 (j+1)));rw[S.zero_add,S.mul_assoc]
theorem zon (S:Sr α)(A:Nat→Nat→α):putR S A=fun x y=>el S A 1 (x+1) (y+1):=funext fun i=>funext fun j=>zEN S A i j
theorem ziB (S:Sr α):∀ (n:Nat) (A:Nat→Nat→α) (i J:Nat),i<n→zdr S n A i J=el S A n i (n+J)
 | n+1,A,0,J,_=>by
  have e:n+1+J=(n+J)+1:=by omega
  rw[e,zBU];show zaN S (fun J=>fstR S A (n+J)) (fstR S A) (zdr S n (putR S A)) n J=_;unfold zaN
  try dsimp only
  rw[zom]
  congr 1
  refine zal S (fun l hl => ?_);rw[zom,ziB S n (putR S A) l J hl,zon,zeK]
 | n+1,A,i+1,J,h=>by
  show zdr S n (putR S A) i J=_;rw[ziB S n (putR S A) i J (by omega),zon,zeK]
  congr 1
  omega
theorem zeN (S:Sr α)(A:Nat→Nat→α)(t:Nat):∀ s x y,el S (fun x y=>el S A t (x+t) (y+t)) s x y=el S A (t+s) (x+t) (y+t)
 | 0,x,y=>rfl
 | s+1,x,y=>by
  show S.add (el S (fun x y=>el S A t (x+t) (y+t)) s x y) (S.mul (S.mul (el S (fun x y=>el S A t (x+t) (y+t)) s x s) (S.star (el S (fun x y=>el S A t (x+t) (y+t)) s s s))) (el S (fun x y=>el S A t (x+t) (y+t)) s s y))=_;rw[zeN S A t s x y,zeN S A t s x s,zeN S A t s s s,zeN S A t s s y,Nat.add_comm s t]
  rfl
structure zfy (S:Sr α)(Fit:α→Prop)(n m:Nat)(A:Nat→Nat→α):Prop where
 st:∀ t,t<n→Fit (S.star (el S A t t t))
 row:∀ t,t<n→∀ j,t<j→j<n+m→Fit (el S A (t+1) t j)
 pr:∀ t,t<n→∀ i,t<i→i<n→∀ j,t<j→j<n+m→Fit (S.mul (el S A t i t) (el S A (t+1) t j))
 en:∀ t,t<n→∀ i,t<i→i<n→∀ j,t<j→j<n+m→Fit (el S A (t+1) i j)
 bp:∀ t,t<n→∀ l,t+1+l<n→∀ J,J<m→Fit (S.mul (el S A (t+1) t (t+1+l)) (el S A n (t+1+l) (n+J)))
 bs:∀ t,t<n→∀ l,t+1+l<n→∀ J,J<m→Fit (S.add (el S A (t+1) t (n+J)) (sm S (l+1) (fun l=>S.mul (el S A (t+1) t (t+1+l)) (el S A n (t+1+l) (n+J)))))
theorem zfy.fits (S:Sr α){Fit:α→Prop}{n m:Nat}{A:Nat→Nat→α}(h:zfy S Fit n m A):∀ d t,t+d=n→zdN S Fit d m (fun x y=>el S A t (x+t) (y+t))
 | 0,_,_=>trivial
 | d+1,t,htd=>by
  have e1:∀ x y,el S (fun x y=>el S A t (x+t) (y+t)) 1 x y=el S A (t+1) (x+t) (y+t):=fun x y=>zeN S A t 1 x y;have efst:∀ j,fstR S (fun x y=>el S A t (x+t) (y+t)) j=el S A (t+1) t (j+1+t):=fun j=>by rw[zom,e1,Nat.zero_add]
  have eput:putR S (fun x y=>el S A t (x+t) (y+t))=fun x y=>el S A (t+1) (x+(t+1)) (y+(t+1)):=by
   rw[zon]
   funext x y
   rw[e1,Nat.add_assoc x 1 t,Nat.add_assoc y 1 t,Nat.add_comm 1 t]
  have erest:∀ l J,l<d→zdr S d (putR S (fun x y=>el S A t (x+t) (y+t))) l J=el S A n (t+1+l) (n+J):=fun l J hl=>by
   rw[ziB S d _ l J hl,eput,zeN,show t+1+d=n by omega,show l+(t+1)=t+1+l by omega,show d+J+(t+1)=n+J by omega]
  refine⟨?_,?_,?_,?_,?_⟩
  ·have:=h.st t (by omega)
   simpa using this
  ·intro j hj
   rw[efst];exact h.row t (by omega) _ (by omega) (by omega)
  ·intro i hi s hs j hj
   obtain rfl:s=0:=by omega
   constructor
   ·show Fit (S.mul (el S A t (i+1+t) (0+t)) (fstR S (fun x y=>el S A t (x+t) (y+t)) j))
    rw[efst,Nat.zero_add];exact h.pr t (by omega) _ (by omega) (by omega) _ (by omega) (by omega)
   ·show Fit (putR S (fun x y=>el S A t (x+t) (y+t)) i j)
    rw[eput];exact h.en t (by omega) _ (by omega) (by omega) _ (by omega) (by omega)
  ·rw[eput]
   exact zfy.fits S h d (t+1) (by omega)
  ·intro l hl J hJ
   constructor
   ·rw[efst,erest l J hl,show l+1+t=t+1+l by omega]
    exact h.bp t (by omega) l (by omega) J hJ
   ·unfold zaN
    try dsimp only
    rw[efst,show d+J+1+t=n+J by omega,zal S (g:=fun l=>S.mul (el S A (t+1) t (t+1+l)) (el S A n (t+1+l) (n+J))) (fun s hs=>by
     rw[efst,erest s J (by omega),show s+1+t=t+1+s by omega])]
    exact h.bs t (by omega) l (by omega) J hJ
theorem zfy.all (S:Sr α){Fit:α→Prop}{n m:Nat}{A:Nat→Nat→α}(h:zfy S Fit n m A):zdN S Fit n m A:=zfy.fits S h n 0 (by omega)
def scan (eq:Nat→Nat→Bool):Nat→List Nat × List Nat
 | 0=>([],[])
 | i+1=>match (scan eq i).1.findIdx? (fun j=>eq j i) with
  | some k=>((scan eq i).1,(scan eq i).2++[k])
  | none=>((scan eq i).1++[i],(scan eq i).2++[(scan eq i).1.length])
structure zyB (eq:Nat→Nat→Bool)(i:Nat)(r c:List Nat):Prop where
 len:c.length=i
 cl:∀ j,j<i→c.getD j 0<r.length∧eq (r.getD (c.getD j 0) 0) j=true
 rl:∀ x,x<r.length→r.getD x 0<i
 rc:∀ x,x<r.length→c.getD (r.getD x 0) 0=x
 le:r.length≤i
 up:r.Pairwise (· < ·)
theorem zbq {l m:List Nat}{j:Nat}(h:j<l.length):(l++m).getD j 0=l.getD j 0:=by
 rw[List.getD_eq_getElem?_getD,List.getD_eq_getElem?_getD,List.getElem?_append_left h]
theorem zce {l:List Nat}{x:Nat}:(l++[x]).getD l.length 0=x:=by
 rw[List.getD_eq_getElem?_getD,List.getElem?_append_right (Nat.le_refl _),Nat.sub_self];rfl
theorem zif {eq:Nat→Nat→Bool}(hr:∀ i,eq i i=true):∀ i,zyB eq i (scan eq i).1 (scan eq i).2
 | 0=>⟨rfl,fun j h=>absurd h (by omega),fun x h=>absurd h (by simp[scan]),fun x h=>absurd h (by simp[scan]),Nat.le_refl _,List.Pairwise.nil⟩
 | i+1=>by
  have ih:=zif hr i;unfold scan
  split
  ·next k hk =>
   obtain⟨hk1,hk2,_⟩:=List.findIdx?_eq_some_iff_getElem.1 hk;have hkd:(scan eq i).1.getD k 0=(scan eq i).1[k]:=by rw[List.getD_eq_getElem?_getD,List.getElem?_eq_getElem hk1];rfl
   refine⟨by simp[ih.len],fun j hj => ?_,fun x hx=>Nat.lt_succ_of_lt (ih.rl x hx),fun x hx => ?_,Nat.le_succ_of_le ih.le,ih.up⟩
   ·try dsimp only
    by_cases e:j<i
    ·rw[zbq (by rw[ih.len];exact e)];exact ih.cl j e
    ·obtain rfl:j=i:=by omega
     have:((scan eq j).2++[k]).getD j 0=k:=by conv=>lhs;arg 2;rw[← ih.len]
                                              exact zce
     rw[this];exact⟨hk1,by rw[hkd];exact hk2⟩
   ·dsimp only at hx ⊢
    rw[zbq (by rw[ih.len];exact ih.rl x hx)];exact ih.rc x hx
  ·next hk =>
   refine⟨by simp[ih.len],fun j hj => ?_,fun x hx => ?_,fun x hx => ?_,by simp;exact ih.le,?_⟩
   ·try dsimp only
    by_cases e:j<i
    ·rw[zbq (by rw[ih.len];exact e),zbq (ih.cl j e).1]
     exact⟨by simp;exact Nat.lt_succ_of_lt (ih.cl j e).1,(ih.cl j e).2⟩
    ·obtain rfl:j=i:=by omega
     have:((scan eq j).2++[(scan eq j).1.length]).getD j 0=(scan eq j).1.length:=by conv=>lhs;arg 2;rw[← ih.len]
                                                                                    exact zce
     rw[this];exact⟨by simp,by rw[zce];exact hr j⟩
   ·dsimp only at hx ⊢
    by_cases e:x<(scan eq i).1.length
    ·rw[zbq e];exact Nat.lt_succ_of_lt (ih.rl x e)
    ·obtain rfl:x=(scan eq i).1.length:=by simp at hx;omega
     rw[zce];omega
   ·dsimp only at hx ⊢
    by_cases e:x<(scan eq i).1.length
    ·rw[zbq e,zbq (by rw[ih.len];exact ih.rl x e)];exact ih.rc x e
    ·obtain rfl:x=(scan eq i).1.length:=by simp at hx;omega
     rw[zce]
     conv=>lhs;arg 2;rw[← ih.len]
     exact zce
   ·try dsimp only
    refine List.pairwise_append.2 ⟨ih.up,List.pairwise_singleton _ _,fun a ha b hb => ?_⟩;obtain⟨x,hx,rfl⟩:=List.getElem_of_mem ha;have:=ih.rl x hx;rw[List.getD_eq_getElem?_getD,List.getElem?_eq_getElem hx] at this;simp at hb;subst hb;exact this
noncomputable def eqR (n:Nat)(A:Nat→Nat→α)(i j:Nat):Bool := @decide (∀ l,l<n→A i l=A j l) (Classical.propDecidable _)
theorem zfz {n:Nat}{A:Nat→Nat→α}{i j:Nat}:eqR n A i j=true↔∀ l,l<n→A i l=A j l:=by unfold eqR;exact @decide_eq_true_iff _ (Classical.propDecidable _)
noncomputable def repR (n:Nat)(A:Nat→Nat→α):List Nat:=(scan (eqR n A) n).1
noncomputable def clsR (n:Nat)(A:Nat→Nat→α):List Nat:=(scan (eqR n A) n).2
theorem zmK (n:Nat)(A:Nat→Nat→α):zyB (eqR n A) n (repR n A) (clsR n A):=zif (fun i=>zfz.2 (fun _ _=>rfl)) n
noncomputable def mrgA (S:Sr α)(n:Nat)(A:Nat→Nat→α)(c d:Nat):α:=mrg S n (A ((repR n A).getD c 0)) (fun j=>(clsR n A).getD j 0) d
noncomputable def mrgB (S:Sr α)(n:Nat)(A b:Nat→Nat→α)(c J:Nat):α:=zaN S (fun _=>S.zero) (A ((repR n A).getD c 0)) b n J
noncomputable def solveF (S:Sr α):Nat→Nat→(Nat→Nat→α)→(Nat→Nat→α)→Nat→Nat→α
 | 0,_,_,_,_,_=>S.zero
 | s+1,n,A,b,i,J=>if (repR n A).length=n then zdr S n (augM A b n) i J
  else S.add (b i J) (solveF S s (repR n A).length (mrgA S n A) (mrgB S n A b) ((clsR n A).getD i 0) J)
def zkW (S:Sr α)(Fit:α→Prop)(n:Nat)(f:Nat→α)(κ:Nat→Nat):Prop:=∀ t,t<n→Fit (sm S (t+1) (fun j=>if κ j=κ t then f j else S.zero))
noncomputable def SolveFits (S:Sr α)(Fit:α→Prop):Nat→Nat→Nat→(Nat→Nat→α)→(Nat→Nat→α)→Prop
 | 0,_,_,_,_=>True
 | s+1,n,m,A,b=>if (repR n A).length=n then zdN S Fit n m (augM A b n)
  else (∀ c,c<(repR n A).length→zkW S Fit n (A ((repR n A).getD c 0)) (fun j=>(clsR n A).getD j 0)) ∧
   (∀ c,c<(repR n A).length→zcL S Fit n m (fun _=>S.zero) (A ((repR n A).getD c 0)) b) ∧
   SolveFits S Fit s (repR n A).length m (mrgA S n A) (mrgB S n A b) ∧
   ∀ i,i<n→∀ J,J<m→Fit (S.add (b i J) (solveF S s (repR n A).length (mrgA S n A) (mrgB S n A b) ((clsR n A).getD i 0) J))
theorem zdO (S:Sr α):∀ (s n:Nat) (A b:Nat→Nat→α),n≤s→∀ i J,i<n→solveF S s n A b i J=xsol S A n (fun m=>b m J) i
 | 0,n,A,b,h,i,J,hi=>absurd hi (by omega)
 | s+1,n,A,b,h,i,J,hi=>by
  have hs:=zmK n A;unfold solveF
  by_cases hk:(repR n A).length=n
  ·rw[if_pos hk,ziB S n _ i J hi,zuY S A b hi]
  ·have hlt:(repR n A).length<n:=by have:=hs.le;omega
   rw[if_neg hk,zdO S s _ _ _ (by omega) _ J (hs.cl i hi).1];rw[ztU S A (k:=(repR n A).length) (fun m=>b m J) (fun j=>(clsR n A).getD j 0) (fun c=>(repR n A).getD c 0) (fun j hj=>(hs.cl j hj).1) hs.rl hs.rc (fun i j hi hj=>zfz.1 (hs.cl i hi).2 j hj) hi]
   congr 1
   refine ziA S (fun c d _ _=>rfl) (fun c _ => ?_) (hs.cl i hi).1;unfold mrgB zaN;rw[S.zero_add]
end Go.Proofs.YtaogepcaoogpgaaGreatDoor
