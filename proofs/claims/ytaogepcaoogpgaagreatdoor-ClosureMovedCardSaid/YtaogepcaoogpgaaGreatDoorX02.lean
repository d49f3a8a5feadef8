/- W02 W62 W28 -/
import Derived.Shelf.Strings.Trim
import Derived.Shelf.Small.Utf8
import Derived.Shelf.Small.Bits
import Derived.Shelf.Small.Wraps
import Derived.Shelf.Strings.Shaped
import Derived.Shelf.Strings.IndexAnyAll
import Derived.Shelf.Strings.Repeat
import Derived.Shelf.Unicode.DecodeSlow
import Derived.Shelf.Spec.BitsCarry
import Derived.Test.YtaogepcaoogpgaaGreatDoorProg
import Derived.Test.YtaogepcaoogpgaaGreatDoorX00
set_option linter.unusedVariables false
set_option linter.unusedSimpArgs false
set_option maxRecDepth 100000
set_option maxHeartbeats 16000000
namespace Go.Proofs
open Go.Shelf
def Tryz.lays161_ren:Go.Shelf.Ren:=⟨fun|161=>273|231=>283|227=>284|233=>285|235=>286|228=>291|197=>292|151=>293|260=>295|152=>296|137=>297|119=>298|224=>266|225=>265|217=>264|266=>278|n=>n,fun|9=>9|4=>4|3=>3|5=>5|117=>236|116=>235|0=>0|124=>239|105=>246|21=>21|119=>250|46=>159|139=>253|138=>252|n=>n,fun|3=>3|4=>4|n=>n⟩
theorem Tryz.lays161:Go.Proofs.Lays.n161 Tryz.prog Tryz.lays161_ren := {
 mixed:=by kernel_rfl
 f119:=Tryz.func298.trans (congrArg some (by kernel_rfl))
 f137:=Tryz.func297.trans (congrArg some (by kernel_rfl))
 f151:=Tryz.func293.trans (congrArg some (by kernel_rfl))
 f152:=Tryz.func296.trans (congrArg some (by kernel_rfl))
 f161:=Tryz.func273.trans (congrArg some (by kernel_rfl))
 f197:=Tryz.func292.trans (congrArg some (by kernel_rfl))
 f217:=Tryz.func264.trans (congrArg some (by kernel_rfl))
 f224:=Tryz.func266.trans (congrArg some (by kernel_rfl))
 f225:=Tryz.func265.trans (congrArg some (by kernel_rfl))
 f227:=Tryz.func284.trans (congrArg some (by kernel_rfl))
 f228:=Tryz.func291.trans (congrArg some (by kernel_rfl))
 f231:=Tryz.func283.trans (congrArg some (by kernel_rfl))
 f233:=Tryz.func285.trans (congrArg some (by kernel_rfl))
 f235:=Tryz.func286.trans (congrArg some (by kernel_rfl))
 f260:=Tryz.func295.trans (congrArg some (by kernel_rfl))
 f266:=Tryz.func278.trans (congrArg some (by kernel_rfl))
 t0:=Tryz.underlying0
 a0:=Tryz.isAgg0
 z0:=Tryz.sizeOf0
 v0:=Tryz.zeroValue0
 t3:=Tryz.underlying3
 a3:=Tryz.isAgg3
 z3:=Tryz.sizeOf3
 v3:=Tryz.zeroValue3
 t4:=Tryz.underlying4
 a4:=Tryz.isAgg4
 z4:=Tryz.sizeOf4
 v4:=Tryz.zeroValue4
 t5:=Tryz.underlying5
 a5:=Tryz.isAgg5
 z5:=Tryz.sizeOf5
 v5:=Tryz.zeroValue5
 t9:=Tryz.underlying9
 a9:=Tryz.isAgg9
 z9:=Tryz.sizeOf9
 v9:=Tryz.zeroValue9
 t21:=Tryz.underlying21
 a21:=Tryz.isAgg21
 z21:=Tryz.sizeOf21
 v21:=Tryz.zeroValue21
 t46:=Tryz.underlying159
 a46:=Tryz.isAgg159
 z46:=Tryz.sizeOf159
 v46:=Tryz.zeroValue159
 t105:=Tryz.underlying246
 a105:=Tryz.isAgg246
 z105:=Tryz.sizeOf246
 v105:=Tryz.zeroValue246
 t116:=Tryz.underlying235
 a116:=Tryz.isAgg235
 z116:=Tryz.sizeOf235
 t117:=Tryz.underlying236
 a117:=Tryz.isAgg236
 z117:=Tryz.sizeOf236
 v117:=Tryz.zeroValue236
 t119:=Tryz.underlying250
 a119:=Tryz.isAgg250
 z119:=Tryz.sizeOf250
 t124:=Tryz.underlying239
 a124:=Tryz.isAgg239
 z124:=Tryz.sizeOf239
 v124:=Tryz.zeroValue239
 t138:=Tryz.underlying252
 a138:=Tryz.isAgg252
 z138:=Tryz.sizeOf252
 v138:=Tryz.zeroValue252
 t139:=Tryz.underlying253
 a139:=Tryz.isAgg253
 z139:=Tryz.sizeOf253
 v139:=Tryz.zeroValue253
 g3:=by kernel_rfl
 g4:=by kernel_rfl }
open Go.RowKit in
theorem Tryz.strings_TrimLeft_one (s:ByteArray)(c:UInt8)(hc:c.toNat<128)(w:World) :
  Calls Tryz.prog 273 #[.string s,.string ⟨#[c]⟩] w fun e w'=>e = .returned (.string ⟨(Lib.trimLeftB s.data.toList c).toArray⟩)∧w'=w:=Any.strings_TrimLeft_one Tryz.lays161 s c hc w
def Tryz.lays134_ren:Go.Shelf.Ren:=⟨fun|134=>294|129=>246|n=>n,fun|53=>181|3=>3|4=>4|46=>159|5=>5|9=>9|n=>n,fun|n=>n⟩
theorem Tryz.lays134:Go.Proofs.Lays.n134 Tryz.prog Tryz.lays134_ren := {
 mixed:=by kernel_rfl
 f129:=Tryz.func246.trans (congrArg some (by kernel_rfl))
 f134:=Tryz.func294.trans (congrArg some (by kernel_rfl))
 t3:=Tryz.underlying3
 a3:=Tryz.isAgg3
 z3:=Tryz.sizeOf3
 v3:=Tryz.zeroValue3
 t4:=Tryz.underlying4
 a4:=Tryz.isAgg4
 z4:=Tryz.sizeOf4
 v4:=Tryz.zeroValue4
 t5:=Tryz.underlying5
 a5:=Tryz.isAgg5
 z5:=Tryz.sizeOf5
 v5:=Tryz.zeroValue5
 t9:=Tryz.underlying9
 a9:=Tryz.isAgg9
 z9:=Tryz.sizeOf9
 v9:=Tryz.zeroValue9
 t46:=Tryz.underlying159
 a46:=Tryz.isAgg159
 z46:=Tryz.sizeOf159
 v46:=Tryz.zeroValue159
 t53:=Tryz.underlying181
 a53:=Tryz.isAgg181
 z53:=Tryz.sizeOf181
 v53:=Tryz.zeroValue181 }
theorem Tryz.bits_LeadingZeros64 (x:Int)(w:World)(h0:0≤x)(h1:x≤18446744073709551615) :
  Calls Tryz.prog 294 #[.int .u64 x] w fun e w'=>e = .returned (.int .i64 (64 - (Lib.bitLen x.toNat:Int)))∧w'=w:=Any.bits_LeadingZeros64 Tryz.lays134 x w h0 h1
def Tryz.lays106_ren:Go.Shelf.Ren:=⟨fun|106=>253|213=>270|265=>281|n=>n,fun|9=>9|3=>3|n=>n,fun|n=>n⟩
theorem Tryz.lays106:Go.Proofs.Lays.n106 Tryz.prog Tryz.lays106_ren := {
 mixed:=by kernel_rfl
 f106:=Tryz.func253.trans (congrArg some (by kernel_rfl))
 f213:=Tryz.func270.trans (congrArg some (by kernel_rfl))
 f265:=Tryz.func281.trans (congrArg some (by kernel_rfl))
 t3:=Tryz.underlying3
 a3:=Tryz.isAgg3
 z3:=Tryz.sizeOf3
 v3:=Tryz.zeroValue3
 t9:=Tryz.underlying9
 a9:=Tryz.isAgg9
 z9:=Tryz.sizeOf9
 v9:=Tryz.zeroValue9 }
open Go.RowKit in
theorem Tryz.strings_Compare (a b:ByteArray)(w:World) :
  Calls Tryz.prog 253 #[.string a,.string b] w fun e w'=>e = .returned (.int .i64 (Lib.compareBytes a.data.toList b.data.toList))∧w'=w:=Any.strings_Compare Tryz.lays106 a b w
def Tryz.lays103_ren:Go.Shelf.Ren:=⟨fun|103=>189|210=>223|206=>247|n=>n,fun|9=>9|4=>4|24=>170|3=>3|n=>n,fun|n=>n⟩
theorem Tryz.lays103:Go.Proofs.Lays.n103 Tryz.prog Tryz.lays103_ren := {
 mixed:=by kernel_rfl
 f103:=Tryz.func189.trans (congrArg some (by kernel_rfl))
 f206:=Tryz.func247.trans (congrArg some (by kernel_rfl))
 f210:=Tryz.func223.trans (congrArg some (by kernel_rfl))
 t3:=Tryz.underlying3
 a3:=Tryz.isAgg3
 z3:=Tryz.sizeOf3
 v3:=Tryz.zeroValue3
 t4:=Tryz.underlying4
 a4:=Tryz.isAgg4
 z4:=Tryz.sizeOf4
 v4:=Tryz.zeroValue4
 t9:=Tryz.underlying9
 a9:=Tryz.isAgg9
 z9:=Tryz.sizeOf9
 v9:=Tryz.zeroValue9
 t24:=Tryz.underlying170
 a24:=Tryz.isAgg170
 z24:=Tryz.sizeOf170
 v24:=Tryz.zeroValue170 }
open Go.RowKit in
theorem Tryz.strings_CutPrefix (s p:ByteArray)(w:World) :
  Calls Tryz.prog 189 #[.string s,.string p] w fun e w'=>e = .returned (.tuple #[.string ⟨(Lib.trimPrefix s.data.toList p.data.toList).toArray⟩,.bool (Lib.hasPrefix s.data.toList p.data.toList)])∧w'=w:=Any.strings_CutPrefix Tryz.lays103 s p w
def Tryz.lays122_ren:Go.Shelf.Ren:=⟨fun|122=>155|215=>195|n=>n,fun|3=>3|4=>4|n=>n,fun|n=>n⟩
theorem Tryz.lays122:Go.Proofs.Lays.n122 Tryz.prog Tryz.lays122_ren := {
 mixed:=by kernel_rfl
 f122:=Tryz.func155.trans (congrArg some (by kernel_rfl))
 f215:=Tryz.func195.trans (congrArg some (by kernel_rfl))
 t3:=Tryz.underlying3
 a3:=Tryz.isAgg3
 z3:=Tryz.sizeOf3
 v3:=Tryz.zeroValue3
 t4:=Tryz.underlying4
 a4:=Tryz.isAgg4
 z4:=Tryz.sizeOf4
 v4:=Tryz.zeroValue4 }
open Go.RowKit in
theorem Tryz.cmp_Compare_int (x y:Int)(w:World) :
  Calls Tryz.prog 155 #[.int .i64 x,.int .i64 y] w fun e w'=>e = .returned (.int .i64 (Lib.compareInt x y))∧w'=w:=Any.cmp_Compare_int Tryz.lays122 x y w
open Go.RowKit in
open Go.RowKit in
open Go.RowKit in
open Go.RowKit in
def Tryz.lays219_ren:Go.Shelf.Ren:=⟨fun|219=>248|217=>264|225=>265|224=>266|267=>267|266=>278|314=>279|n=>n,fun|9=>9|3=>3|4=>4|5=>5|46=>159|146=>179|51=>178|n=>n,fun|1=>0|n=>n⟩
theorem Tryz.lays219:Go.Proofs.Lays.n219 Tryz.prog Tryz.lays219_ren := {
 mixed:=by kernel_rfl
 f217:=Tryz.func264.trans (congrArg some (by kernel_rfl))
 f219:=Tryz.func248.trans (congrArg some (by kernel_rfl))
 f224:=Tryz.func266.trans (congrArg some (by kernel_rfl))
 f225:=Tryz.func265.trans (congrArg some (by kernel_rfl))
 f266:=Tryz.func278.trans (congrArg some (by kernel_rfl))
 f267:=Tryz.func267.trans (congrArg some (by kernel_rfl))
 f314:=Tryz.func279.trans (congrArg some (by kernel_rfl))
 t3:=Tryz.underlying3
 a3:=Tryz.isAgg3
 z3:=Tryz.sizeOf3
 v3:=Tryz.zeroValue3
 t4:=Tryz.underlying4
 a4:=Tryz.isAgg4
 z4:=Tryz.sizeOf4
 v4:=Tryz.zeroValue4
 t5:=Tryz.underlying5
 a5:=Tryz.isAgg5
 z5:=Tryz.sizeOf5
 v5:=Tryz.zeroValue5
 t9:=Tryz.underlying9
 a9:=Tryz.isAgg9
 z9:=Tryz.sizeOf9
 v9:=Tryz.zeroValue9
 t46:=Tryz.underlying159
 a46:=Tryz.isAgg159
 z46:=Tryz.sizeOf159
 v46:=Tryz.zeroValue159
 t51:=Tryz.underlying178
 a51:=Tryz.isAgg178
 z51:=Tryz.sizeOf178
 v51:=Tryz.zeroValue178
 t146:=Tryz.underlying179
 a146:=Tryz.isAgg179
 z146:=Tryz.sizeOf179
 v146:=Tryz.zeroValue179
 g1:=by kernel_rfl }
open Go.RowKit Go.Lib in
theorem Tryz.stringslite_Index_one (s:ByteArray)(c:UInt8)(w:World) :
  Calls Tryz.prog 248 #[.string s,.string ⟨#[c]⟩] w fun e w'=>e = .returned (.int .i64 (Lib.indexByte s.data.toList c))∧w'=w:=Any.stringslite_Index_one Tryz.lays219 s c w
open Go.RowKit Go.Lib in
def Tryz.lays264_ren:Go.Shelf.Ren:=⟨fun|264=>207|n=>n,fun|53=>181|46=>159|n=>n,fun|n=>n⟩
theorem Tryz.lays264:Go.Proofs.Lays.n264 Tryz.prog Tryz.lays264_ren := {
 mixed:=by kernel_rfl
 f264:=Tryz.func207.trans (congrArg some (by kernel_rfl))
 t46:=Tryz.underlying159
 a46:=Tryz.isAgg159
 z46:=Tryz.sizeOf159
 v46:=Tryz.zeroValue159
 t53:=Tryz.underlying181
 a53:=Tryz.isAgg181
 z53:=Tryz.sizeOf181
 v53:=Tryz.zeroValue181 }
open Go.RowKit Go.Lib in
theorem Tryz.bits_Mul64 (x y:Nat)(hx:x<18446744073709551616)(hy:y<18446744073709551616)(w:World) :
  Calls Tryz.prog 207 #[.int .u64 x,.int .u64 y] w fun e w'=>e = .returned (.tuple #[.int .u64 ((x * y / 18446744073709551616:Nat):Int),.int .u64 ((x * y % 18446744073709551616:Nat):Int)])∧w'=w:=Any.bits_Mul64 Tryz.lays264 x y hx hy w
def Tryz.lays7_25_ren:Go.Shelf.Ren:=⟨fun|25=>289|n=>n,fun|22=>181|n=>n,fun|n=>n⟩
theorem Tryz.lays7_25:Go.Proofs.Lays7.n25 Tryz.prog Tryz.lays7_25_ren := {
 mixed:=by kernel_rfl
 f25:=Tryz.func289.trans (congrArg some (by kernel_rfl))
 t22:=Tryz.underlying181
 a22:=Tryz.isAgg181
 z22:=Tryz.sizeOf181
 v22:=Tryz.zeroValue181
 i22:=by kernel_rfl }
theorem Tryz.bits_Add64 (x y:Nat)(w:World) :
  (callFunc 289 #[.int .u64 x,.int .u64 y,.int .u64 0]).run Tryz.prog w =
   .ok (.value (.tuple #[.int .u64 (((x+y) % 18446744073709551616:Nat):Int),.int .u64 (((x+y) / 18446744073709551616:Nat):Int)])) w :=
 Any7.bits_Add64 Tryz.lays7_25 x y 0 (by decide) w
end Go.Proofs
namespace Go.Proofs.YtaogepcaoogpgaaGreatDoor
structure Sr (α:Type) where
 add:α→α→α
 mul:α→α→α
 zero:α
 one:α
 star:α→α
 le:α→α→Prop
 add_comm:∀ a b,add a b=add b a
 add_assoc:∀ a b c,add (add a b) c=add a (add b c)
 add_zero:∀ a,add a zero=a
 mul_comm:∀ a b,mul a b=mul b a
 mul_assoc:∀ a b c,mul (mul a b) c=mul a (mul b c)
 mul_add:∀ a b c,mul a (add b c)=add (mul a b) (mul a c)
 mul_one:∀ a,mul a one=a
 mul_zero:∀ a,mul a zero=zero
 star_law:∀ a,add one (mul a (star a))=star a
 le_refl:∀ a,le a a
 le_trans:∀ a b c,le a b→le b c→le a c
 le_anti:∀ a b,le a b→le b a→a=b
 add_mono:∀ a b c d,le a b→le c d→le (add a c) (add b d)
 mul_mono:∀ a b c,le a b→le (mul c a) (mul c b)
 zero_le:∀ a,le zero a
 star_least:∀ a b x,le (add b (mul a x)) x→le (mul (star a) b) x
variable {α:Type}
instance (S:Sr α):Std.Associative S.add:=⟨S.add_assoc⟩
instance (S:Sr α):Std.Commutative S.add:=⟨S.add_comm⟩
instance (S:Sr α):Std.Associative S.mul:=⟨S.mul_assoc⟩
instance (S:Sr α):Std.Commutative S.mul:=⟨S.mul_comm⟩
theorem Sr.zero_add (S:Sr α)(a:α):S.add S.zero a=a:=by rw[S.add_comm,S.add_zero]
theorem Sr.one_mul (S:Sr α)(a:α):S.mul S.one a=a:=by rw[S.mul_comm,S.mul_one]
theorem Sr.zero_mul (S:Sr α)(a:α):S.mul S.zero a=S.zero:=by rw[S.mul_comm,S.mul_zero]
theorem Sr.add_mul (S:Sr α)(a b c:α):S.mul (S.add a b) c=S.add (S.mul a c) (S.mul b c):=by rw[S.mul_comm,S.mul_add,S.mul_comm c a,S.mul_comm c b]
theorem Sr.le_add (S:Sr α)(a b:α):S.le a (S.add a b):=by
 have h:=S.add_mono a a S.zero b (S.le_refl a) (S.zero_le b)
 rwa [S.add_zero] at h
theorem Sr.le_add2 (S:Sr α)(a b:α):S.le a (S.add b a):=by rw[S.add_comm];exact S.le_add a b
theorem Sr.star_mul (S:Sr α)(a b:α):S.add b (S.mul (S.mul a (S.star a)) b)=S.mul (S.star a) b:=by
 conv=>rhs;rw[← S.star_law a]
 rw[S.add_mul,S.one_mul]
def sm (S:Sr α):Nat→(Nat→α)→α
 | 0,_=>S.zero
 | n+1,f=>S.add (sm S n f) (f n)
theorem zal (S:Sr α){f g:Nat→α}:∀ {n:Nat},(∀ m,m<n→f m=g m)→sm S n f=sm S n g
 | 0,_=>rfl
 | n+1,h=>by unfold sm;rw[zal S (fun m hm=>h m (by omega)),h n (by omega)]
theorem zde (S:Sr α)(f g:Nat→α):∀ n,sm S n (fun m=>S.add (f m) (g m))=S.add (sm S n f) (sm S n g)
 | 0=>(S.add_zero _).symm
 | n+1=>by unfold sm;rw[zde S f g n];dsimp only;ac_rfl
theorem zhe (S:Sr α)(c:α)(f:Nat→α):∀ n,S.mul c (sm S n f)=sm S n (fun m=>S.mul c (f m))
 | 0=>S.mul_zero c
 | n+1=>by unfold sm;rw[S.mul_add,zhe S c f n]
theorem zjS (S:Sr α)(c:α)(f:Nat→α)(n:Nat):S.mul (sm S n f) c=sm S n (fun m=>S.mul (f m) c):=by
 rw[S.mul_comm,zhe];exact zal S (fun m _=>S.mul_comm _ _)
theorem zoA (S:Sr α):∀ n,sm S n (fun _=>S.zero)=S.zero
 | 0=>rfl
 | n+1=>by unfold sm;rw[zoA S n,S.add_zero]
theorem zgN (S:Sr α){f:Nat→α}{n:Nat}(h:∀ m,m<n→f m=S.zero):sm S n f=S.zero:=by rw[zal S h,zoA]
theorem ziu (S:Sr α)(f:Nat→Nat→α)(n:Nat):∀ k,sm S n (fun i=>sm S k (fun j=>f i j))=sm S k (fun j=>sm S n (fun i=>f i j))
 | 0=>zoA S n
 | k+1=>by
  show sm S n (fun i=>S.add (sm S k (fun j=>f i j)) (f i k))=S.add (sm S k (fun j=>sm S n (fun i=>f i j))) (sm S n (fun i=>f i k));rw[zde,ziu S f n k]
theorem zgO (S:Sr α){f g:Nat→α}:∀ {n:Nat},(∀ m,m<n→S.le (f m) (g m))→S.le (sm S n f) (sm S n g)
 | 0,_=>S.le_refl _
 | n+1,h=>S.add_mono _ _ _ _ (zgO S (fun m hm=>h m (by omega))) (h n (by omega))
def sx (S:Sr α)(n k:Nat)(f:Nat→α):α:=sm S n (fun m=>if m=k then S.zero else f m)
theorem zCz (S:Sr α){f g:Nat→α}{n k:Nat}(h:∀ m,m<n→m≠k→f m=g m):sx S n k f=sx S n k g:=by
 refine zal S (fun m hm => ?_)
 by_cases e:m=k
 ·rw[if_pos e,if_pos e]
 ·rw[if_neg e,if_neg e];exact h m hm e
theorem zex (S:Sr α)(f:Nat→α){k:Nat}:∀ {n:Nat},k<n→sm S n f=S.add (f k) (sx S n k f)
 | n+1,h=>by
  unfold sx sm
  dsimp only
  by_cases e:k=n
  ·subst e
   rw[if_pos rfl,S.add_zero,S.add_comm]
   congr 1
   exact zal S (fun m hm=>(if_neg (by omega)).symm)
  ·rw[if_neg (Ne.symm e),zex S f (show k<n by omega)]
   unfold sx
   ac_rfl
theorem zGL (S:Sr α)(n k:Nat)(f g:Nat→α):sx S n k (fun m=>S.add (f m) (g m))=S.add (sx S n k f) (sx S n k g):=by
 unfold sx;rw[← zde];refine zal S (fun m _ => ?_)
 by_cases e:m=k
 ·simp only[e,if_true];rw[S.add_zero]
 ·simp only[e,if_false]
theorem zGM (S:Sr α)(c:α)(n k:Nat)(f:Nat→α):S.mul c (sx S n k f)=sx S n k (fun m=>S.mul c (f m)):=by
 unfold sx;rw[zhe];refine zal S (fun m _ => ?_)
 by_cases e:m=k
 ·simp only[e,if_true];rw[S.mul_zero]
 ·simp only[e,if_false]
theorem zrE (S:Sr α)(f:Nat→α){k n:Nat}(h:k<n):S.le (f k) (sm S n f):=by rw[zex S f h];exact S.le_add _ _
def idm (S:Sr α)(i j:Nat):α:=if i=j then S.one else S.zero
theorem zjT (S:Sr α)(f:Nat→α){n j:Nat}(h:j<n):sm S n (fun m=>S.mul (f m) (idm S m j))=f j:=by
 rw[zex S _ h];unfold idm sx
 rw[if_pos rfl,S.mul_one,zgN S (fun m _=>by
  by_cases e:m=j
  ·rw[if_pos e]
  ·rw[if_neg e]
   dsimp only
   rw[if_neg e,S.mul_zero]),S.add_zero]
theorem zhf (S:Sr α)(f:Nat→α){n i:Nat}(h:i<n):sm S n (fun m=>S.mul (idm S i m) (f m))=f i:=by
 have h2:=zjT S f h;rw[← h2];refine zal S (fun m _ => ?_);rw[S.mul_comm];unfold idm
 by_cases e:i=m
 ·subst e;rfl
 ·rw[if_neg e,if_neg (Ne.symm e)]
def el (S:Sr α)(A:Nat→Nat→α):Nat→Nat→Nat→α
 | 0,i,j=>A i j
 | k+1,i,j=>S.add (el S A k i j) (S.mul (S.mul (el S A k i k) (S.star (el S A k k k))) (el S A k k j))
def stM (S:Sr α)(A:Nat→Nat→α)(n i j:Nat):α:=S.add (idm S i j) (el S A n i j)
theorem zjU (S:Sr α)(A:Nat→Nat→α)(k j:Nat):el S A (k+1) k j=S.mul (S.star (el S A k k k)) (el S A k k j):=S.star_mul _ _
theorem zbJ (S:Sr α)(A:Nat→Nat→α):∀ k i j,el S A k i j=S.add (A i j) (sm S k (fun m=>S.mul (A i m) (el S A k m j)))
 | 0,i,j=>(S.add_zero _).symm
 | k+1,i,j=>by
  have h1:=zbJ S A k i j;have h2:=zbJ S A k i k
  have e:sm S k (fun m=>S.mul (A i m) (el S A (k+1) m j))=S.add (sm S k (fun m=>S.mul (A i m) (el S A k m j))) (S.mul (sm S k (fun m=>S.mul (A i m) (el S A k m k))) (S.mul (S.star (el S A k k k)) (el S A k k j))):=by
   rw[zjS,← zde];refine zal S (fun m _ => ?_);show S.mul (A i m) (S.add (el S A k m j) (S.mul (S.mul (el S A k m k) (S.star (el S A k k k))) (el S A k k j)))=_;rw[S.mul_add]
   congr 1
   ac_rfl
  show S.add (el S A k i j) (S.mul (S.mul (el S A k i k) (S.star (el S A k k k))) (el S A k k j))=S.add (A i j) (S.add (sm S k (fun m=>S.mul (A i m) (el S A (k+1) m j))) (S.mul (A i k) (el S A (k+1) k j)));rw[e,zjU];generalize hx:S.mul (S.star (el S A k k k)) (el S A k k j)=x;rw[S.mul_assoc,hx];generalize sm S k (fun m=>S.mul (A i m) (el S A k m j))=p at *;generalize sm S k (fun m=>S.mul (A i m) (el S A k m k))=q at *;rw[h1,h2,S.add_mul]
  ac_rfl
theorem zdF (S:Sr α)(A:Nat→Nat→α):∀ k i j,el S (fun a b=>A b a) k i j=el S A k j i
 | 0,i,j=>rfl
 | k+1,i,j=>by
  unfold el;rw[zdF S A k i j,zdF S A k i k,zdF S A k k k,zdF S A k k j]
  congr 1
  ac_rfl
theorem zdR (S:Sr α)(A:Nat→Nat→α)(k i j:Nat):el S A k i j=S.add (A i j) (sm S k (fun m=>S.mul (el S A k i m) (A m j))):=by
 rw[← zdF S A k j i,zbJ S (fun a b=>A b a) k j i]
 congr 1
 refine zal S (fun m _ => ?_);rw[zdF S A k m i,S.mul_comm]
theorem zjV (S:Sr α)(A:Nat→Nat→α){n i j:Nat}(hj:j<n):stM S A n i j=S.add (idm S i j) (sm S n (fun m=>S.mul (A i m) (stM S A n m j))):=by
 have e:sm S n (fun m=>S.mul (A i m) (stM S A n m j))=S.add (sm S n (fun m=>S.mul (A i m) (idm S m j))) (sm S n (fun m=>S.mul (A i m) (el S A n m j))):=by
  rw[← zde];exact zal S (fun m _=>S.mul_add _ _ _)
 rw[e,zjT S _ hj,← zbJ]
 rfl
theorem zwP (S:Sr α)(A:Nat→Nat→α){n i j:Nat}(hi:i<n):stM S A n i j=S.add (idm S i j) (sm S n (fun m=>S.mul (stM S A n i m) (A m j))):=by
 have e:sm S n (fun m=>S.mul (stM S A n i m) (A m j))=S.add (sm S n (fun m=>S.mul (idm S i m) (A m j))) (sm S n (fun m=>S.mul (el S A n i m) (A m j))):=by
  rw[← zde];exact zal S (fun m _=>S.add_mul _ _ _)
 rw[e,zhf S _ hi,← zdR]
 rfl
theorem zfy (S:Sr α)(A:Nat→Nat→α)(b X:Nat→α){n:Nat}(h:∀ i,i<n→S.le (S.add (b i) (sm S n (fun m=>S.mul (A i m) (X m)))) (X i)) :
  ∀ k,k≤n→∀ i,i<n→S.le (S.add (b i) (sm S n (fun m=>S.mul (el S A k i m) (if m<k then b m else X m)))) (X i)
 | 0,_,i,hi=>by
  refine S.le_trans _ _ _ ?_ (h i hi);rw[zal S (g:=fun m=>S.mul (A i m) (X m)) (fun m _=>by simp[el])];exact S.le_refl _
 | k+1,hk,i,hi=>by
  have ih:=zfy S A b X h k (by omega);have hkn:k<n:=by omega
  have hrow:=ih k hkn;rw[zex S _ hkn] at hrow;have hrow2:=ih i hi;rw[zex S _ hkn] at hrow2;simp only[Nat.lt_irrefl,if_false] at hrow hrow2
  have hst:S.le (S.mul (S.star (el S A k k k)) (S.add (b k) (sx S n k (fun m=>S.mul (el S A k k m) (if m<k then b m else X m))))) (X k):=by
   refine S.star_least _ _ _ ?_;refine S.le_trans _ _ _ ?_ hrow;rw[show S.add (S.add (b k) (sx S n k (fun m=>S.mul (el S A k k m) (if m<k then b m else X m)))) (S.mul (el S A k k k) (X k))=S.add (b k) (S.add (S.mul (el S A k k k) (X k)) (sx S n k (fun m=>S.mul (el S A k k m) (if m<k then b m else X m)))) by ac_rfl];exact S.le_refl _
  refine S.le_trans _ _ _ ?_ hrow2;rw[zex S _ hkn];simp only[Nat.lt_succ_self,if_true]
  have e1:el S A (k+1) i k=S.mul (el S A k i k) (S.star (el S A k k k)):=by
   show S.add (el S A k i k) (S.mul (S.mul (el S A k i k) (S.star (el S A k k k))) (el S A k k k))=_;rw[show S.mul (S.mul (el S A k i k) (S.star (el S A k k k))) (el S A k k k)=S.mul (S.mul (el S A k k k) (S.star (el S A k k k))) (el S A k i k) by ac_rfl,S.star_mul,S.mul_comm]
  have e2:sx S n k (fun m=>S.mul (el S A (k+1) i m) (if m<k+1 then b m else X m))=S.add (sx S n k (fun m=>S.mul (el S A k i m) (if m<k then b m else X m))) (S.mul (S.mul (el S A k i k) (S.star (el S A k k k))) (sx S n k (fun m=>S.mul (el S A k k m) (if m<k then b m else X m)))):=by
   rw[zGM,← zGL];refine zCz S (fun m _ hm => ?_)
   have e3:(if m<k+1 then b m else X m)=(if m<k then b m else X m):=by
    by_cases e:m<k
    ·rw[if_pos e,if_pos (by omega)]
    ·rw[if_neg e,if_neg (by omega)]
   rw[e3];show S.mul (S.add (el S A k i m) (S.mul (S.mul (el S A k i k) (S.star (el S A k k k))) (el S A k k m))) _=_;rw[S.add_mul]
   congr 1
   ac_rfl
  rw[e1,e2];have hmm:=S.mul_mono _ _ (el S A k i k) hst;generalize hT:sx S n k (fun m=>S.mul (el S A k i m) (if m<k then b m else X m))=T;generalize hU:sx S n k (fun m=>S.mul (el S A k k m) (if m<k then b m else X m))=U at *
  have e4:S.add (b i) (S.add (S.mul (S.mul (el S A k i k) (S.star (el S A k k k))) (b k)) (S.add T (S.mul (S.mul (el S A k i k) (S.star (el S A k k k))) U)))=S.add (b i) (S.add (S.mul (el S A k i k) (S.mul (S.star (el S A k k k)) (S.add (b k) U))) T):=by
   rw[S.mul_add,S.mul_add,← S.mul_assoc,← S.mul_assoc]
   ac_rfl
  rw[e4];exact S.add_mono _ _ _ _ (S.le_refl _) (S.add_mono _ _ _ _ hmm (S.le_refl _))
theorem star_least (S:Sr α)(A:Nat→Nat→α)(X:Nat→α){n j:Nat}(hj:j<n)(h:∀ i,i<n→S.le (S.add (idm S i j) (sm S n (fun m=>S.mul (A i m) (X m)))) (X i)){i:Nat}(hi:i<n):S.le (stM S A n i j) (X i):=by
 have hl:=zfy S A (fun i=>idm S i j) X h n (Nat.le_refl n) i hi;rw[zal S (g:=fun m=>S.mul (el S A n i m) (idm S m j)) (fun m hm=>by rw[if_pos hm]),zjT S _ hj] at hl;exact hl
variable {α:Type}
def sw (p q i:Nat):Nat:=if i=p then q else if i=q then p else i
theorem zwQ (p q i:Nat):sw p q (sw p q i)=i:=by
 unfold sw
 by_cases h1:i=p
 ·subst h1
  rw[if_pos rfl]
  by_cases h2:q=i
  ·rw[if_pos h2];exact h2
  ·rw[if_neg h2,if_pos rfl]
 ·rw[if_neg h1]
  by_cases h2:i=q
  ·rw[if_pos h2,if_pos rfl];exact h2.symm
  ·rw[if_neg h2,if_neg h1,if_neg h2]
theorem zgy {p q i n:Nat}(hp:p<n)(hq:q<n)(hi:i<n):sw p q i<n:=by
 unfold sw
 split
 ·exact hq
 ·split
  ·exact hp
  ·exact hi
theorem zHI {p q i j:Nat}:sw p q i=sw p q j↔i=j:=⟨fun h=>by have:=congrArg (sw p q) h;rwa [zwQ,zwQ] at this,fun h=>by rw[h]⟩
theorem zzb (S:Sr α)(f:Nat→α){n p q:Nat}(hq:q<n)(hpq:q≠p):sx S n p f=S.add (f q) (sm S n (fun m=>if m=p∨m=q then S.zero else f m)):=by
 unfold sx;rw[zex S _ hq,if_neg hpq]
 congr 1
 unfold sx;refine zal S (fun m _ => ?_)
 by_cases e:m=q
 ·rw[if_pos e,if_pos (.inr e)]
 ·rw[if_neg e]
  dsimp only
  by_cases e2:m=p
  ·rw[if_pos e2,if_pos (.inl e2)]
  ·rw[if_neg e2,if_neg (by intro h;rcases h with h|h;exact e2 h;exact e h)]
theorem zHJ (S:Sr α)(f:Nat→α){n p q:Nat}(hp:p<n)(hq:q<n):sm S n (fun m=>f (sw p q m))=sm S n f:=by
 by_cases e:q=p
 ·subst e
  refine zal S (fun m _ => ?_);have h:sw q q m=m:=by unfold sw;by_cases h:m=q;rw[if_pos h,h];rw[if_neg h,if_neg h]
  rw[h]
 ·rw[zex S _ hp,zzb S _ hq e,zex S f hp,zzb S f hq e]
  have h1:sw p q p=q:=by unfold sw;rw[if_pos rfl]
  have h2:sw p q q=p:=by unfold sw;rw[if_neg e,if_pos rfl]
  have h3:sm S n (fun m=>if m=p∨m=q then S.zero else f (sw p q m))=sm S n (fun m=>if m=p∨m=q then S.zero else f m):=by
   refine zal S (fun m _ => ?_)
   by_cases h:m=p∨m=q
   ·rw[if_pos h,if_pos h]
   ·rw[if_neg h,if_neg h]
    have:sw p q m=m:=by unfold sw;rw[if_neg (fun x=>h (.inl x)),if_neg (fun x=>h (.inr x))]
    rw[this]
  rw[h1,h2,h3]
  ac_rfl
theorem zrS (S:Sr α)(A:Nat→Nat→α){n p q:Nat}(hp:p<n)(hq:q<n){i j:Nat}(hi:i<n)(hj:j<n) :
  S.le (stM S (fun a b=>A (sw p q a) (sw p q b)) n i j) (stM S A n (sw p q i) (sw p q j)):=by
 refine star_least S _ (fun i=>stM S A n (sw p q i) (sw p q j)) hj (fun i hi => ?_) hi;have h1:=zHJ S (fun m=>S.mul (A (sw p q i) m) (stM S A n m (sw p q j))) hp hq;rw[h1];rw[zjV S A (i:=sw p q i) (zgy hp hq hj)]
 have h2:idm S (sw p q i) (sw p q j)=idm S i j:=by
  unfold idm
  by_cases e:i=j
  ·rw[if_pos e,if_pos (by rw[e])]
  ·rw[if_neg e,if_neg (fun h=>e (zHI.1 h))]
 rw[h2];exact S.le_refl _
theorem zwR (S:Sr α)(A:Nat→Nat→α){n p q:Nat}(hp:p<n)(hq:q<n){i j:Nat}(hi:i<n)(hj:j<n) :
  stM S (fun a b=>A (sw p q a) (sw p q b)) n i j=stM S A n (sw p q i) (sw p q j):=by
 refine S.le_anti _ _ (zrS S A hp hq hi hj) ?_;have h:=zrS S (fun a b=>A (sw p q a) (sw p q b)) hp hq (zgy hp hq hi) (zgy hp hq hj);simp only[zwQ] at h;exact h
theorem zmk (S:Sr α){A B:Nat→Nat→α}{n:Nat}(h:∀ i j,i<n→j<n→A i j=B i j):∀ k,k≤n→∀ i j,i<n→j<n→el S A k i j=el S B k i j
 | 0,_,i,j,hi,hj=>h i j hi hj
 | k+1,hk,i,j,hi,hj=>by
  have ih:=zmk S h k (by omega);unfold el;rw[ih i j hi hj,ih i k hi (by omega),ih k k (by omega) (by omega),ih k j (by omega) hj]
theorem zjW (S:Sr α){A B:Nat→Nat→α}{n:Nat}(h:∀ i j,i<n→j<n→A i j=B i j){i j:Nat}(hi:i<n)(hj:j<n):stM S A n i j=stM S B n i j:=by
 unfold stM;rw[zmk S h n (Nat.le_refl n) i j hi hj]
def mm (S:Sr α)(n:Nat)(a b:Nat→Nat→α)(i j:Nat):α:=sm S n (fun m=>S.mul (a i m) (b m j))
def pwM (S:Sr α)(n:Nat)(u:Nat→Nat→α):Nat→Nat→Nat→α
 | 0=>idm S
 | k+1=>mm S n (pwM S n u k) u
theorem zCA (S:Sr α)(n:Nat)(a b c:Nat→Nat→α)(i j:Nat):mm S n (mm S n a b) c i j=mm S n a (mm S n b c) i j:=by
 unfold mm;rw[zal S (g:=fun m=>sm S n (fun l=>S.mul (S.mul (a i l) (b l m)) (c m j))) (fun m _=>zjS S _ _ n),ziu S (fun m l=>S.mul (S.mul (a i l) (b l m)) (c m j)) n n];refine zal S (fun l _ => ?_);rw[zhe];exact zal S (fun m _=>S.mul_assoc _ _ _)
theorem zCB (S:Sr α){n:Nat}{a b c d:Nat→Nat→α}{i j:Nat}(h1:∀ m,m<n→a i m=c i m)(h2:∀ m,m<n→b m j=d m j):mm S n a b i j=mm S n c d i j :=
 zal S (fun m hm=>by rw[h1 m hm,h2 m hm])
theorem zrT (S:Sr α)(n:Nat)(u:Nat→Nat→α):∀ k i j,i<n→j<n→mm S n u (pwM S n u k) i j=pwM S n u (k+1) i j
 | 0,i,j,hi,hj=>by
  show sm S n (fun m=>S.mul (u i m) (idm S m j))=sm S n (fun m=>S.mul (idm S i m) (u m j));rw[zjT S _ hj,zhf S _ hi]
 | k+1,i,j,hi,hj=>by
  show mm S n u (mm S n (pwM S n u k) u) i j=mm S n (mm S n (pwM S n u k) u) u i j;rw[← zCA];exact zCB S (fun m hm=>zrT S n u k i m hi hm) (fun m _=>rfl)
theorem zrU (S:Sr α){n:Nat}{u:Nat→Nat→α}(hu:∀ i j,i<n→j<n→j≤i→u i j=S.zero):∀ k i j,i<n→j<n→j<i+k→pwM S n u k i j=S.zero
 | 0,i,j,hi,hj,h=>by show idm S i j=_;unfold idm;rw[if_neg (by omega)]
 | k+1,i,j,hi,hj,h=>zgN S (fun m hm=>by
  by_cases e:m<i+k
  ·rw[zrU S hu k i m hi hm e,S.zero_mul]
  ·rw[hu m j hm hj (by omega),S.mul_zero])
def pwS (S:Sr α)(n:Nat)(u:Nat→Nat→α)(k i j:Nat):α:=sm S k (fun l=>pwM S n u l i j)
theorem zzc (S:Sr α){n:Nat}{u:Nat→Nat→α}(hu:∀ i j,i<n→j<n→j≤i→u i j=S.zero){i j:Nat}(hi:i<n)(hj:j<n) :
  pwS S n u n i j=S.add (idm S i j) (sm S n (fun m=>S.mul (u i m) (pwS S n u n m j))):=by
 have e:sm S n (fun m=>S.mul (u i m) (pwS S n u n m j))=sm S n (fun l=>pwM S n u (l+1) i j):=by
  unfold pwS;rw[zal S (g:=fun m=>sm S n (fun l=>S.mul (u i m) (pwM S n u l m j))) (fun m _=>zhe S _ _ n),ziu S (fun m l=>S.mul (u i m) (pwM S n u l m j)) n n];exact zal S (fun l _=>zrT S n u l i j hi hj)
 rw[e]
 have shift:∀ k (f:Nat→α),S.add (sm S k f) (f k)=S.add (f 0) (sm S k (fun l=>f (l+1))):=fun k f=>by
  induction k with
  | zero=>show S.add S.zero (f 0)=S.add (f 0) S.zero;ac_rfl
  | succ k ih =>
   show S.add (S.add (sm S k f) (f k)) (f (k+1))=S.add (f 0) (S.add (sm S k (fun l=>f (l+1))) (f (k+1)));rw[ih];ac_rfl
 have h:=shift n (fun l=>pwM S n u l i j);rw[zrU S hu n i j hi hj (by omega),S.add_zero] at h;exact h
theorem zpX (S:Sr α){n:Nat}{u:Nat→Nat→α}(hu:∀ i j,i<n→j<n→j≤i→u i j=S.zero){X Y:Nat→α}{b:Nat→α}
  (hX:∀ i,i<n→X i=S.add (b i) (sm S n (fun m=>S.mul (u i m) (X m)))) (hY:∀ i,i<n→Y i=S.add (b i) (sm S n (fun m=>S.mul (u i m) (Y m)))):∀ d i,i<n→n≤i+d→X i=Y i
 | 0,i,hi,h=>by omega
 | d+1,i,hi,h=>by
  rw[hX i hi,hY i hi]
  congr 1
  refine zal S (fun m hm => ?_)
  by_cases e:m≤i
  ·rw[hu i m hi hm e,S.zero_mul,S.zero_mul]
  ·rw[zpX S hu hX hY d m hm (by omega)]
theorem zHH (S:Sr α){n:Nat}{u:Nat→Nat→α}(hu:∀ i j,i<n→j<n→j≤i→u i j=S.zero){i j:Nat}(hi:i<n)(hj:j<n):stM S u n i j=pwS S n u n i j :=
 zpX S hu (X:=fun i=>stM S u n i j) (Y:=fun i=>pwS S n u n i j) (b:=fun i=>idm S i j) (fun i hi=>zjV S u hj) (fun i hi=>zzc S hu hi hj) n i hi (by omega)
def zbB (S:Sr α)(A:Nat→Nat→α):List Nat→α
 | []=>S.one
 | [_]=>S.one
 | x::y::l=>S.mul (A x y) (zbB S A (y::l))
theorem zCC (S:Sr α)(A:Nat→Nat→α)(n i:Nat):S.le S.one (stM S A n i i):=by
 unfold stM idm;rw[if_pos rfl];exact S.le_add _ _
theorem zGN (S:Sr α)(A:Nat→Nat→α)(F:Nat→α)(lead:α)(s n:Nat) :
  S.mul lead (sm S n (fun j=>S.mul (stM S A n s j) (F j)))=sm S n (fun j=>S.mul (S.mul lead (stM S A n s j)) (F j)):=by
 rw[zhe];exact zal S (fun m _=>(S.mul_assoc _ _ _).symm)
variable {α:Type}
theorem Sr.zero_of_le (S:Sr α){a:α}(h:S.le a S.zero):a=S.zero:=S.le_anti _ _ h (S.zero_le a)
theorem Sr.zero_left (S:Sr α){a b:α}(h:S.add a b=S.zero):a=S.zero:=S.zero_of_le (h ▸ S.le_add a b)
theorem Sr.zero_right (S:Sr α){a b:α}(h:S.add a b=S.zero):b=S.zero:=S.zero_of_le (h ▸ S.le_add2 b a)
theorem zwS (S:Sr α){f:Nat→α}{n k:Nat}(h:sm S n f=S.zero)(hk:k<n):f k=S.zero:=S.zero_of_le (h ▸ zrE S f hk)
theorem zoB (S:Sr α)(f:Nat→α)(p:Nat→Bool):∀ k,sm S ((List.range k).filter p).length (fun x=>f (((List.range k).filter p).getD x 0))=sm S k (fun m=>if p m=true then f m else S.zero)
 | 0=>rfl
 | k+1=>by
  have ih:=zoB S f p k;show _=S.add (sm S k (fun m=>if p m=true then f m else S.zero)) (if p k=true then f k else S.zero);rw[← ih,List.range_succ,List.filter_append]
  by_cases hk:p k=true
  ·rw[if_pos hk]
   have e1:[k].filter p=[k]:=by simp[hk]
   rw[e1,List.length_append,List.length_singleton];show S.add (sm S ((List.range k).filter p).length (fun x=>f ((((List.range k).filter p)++[k]).getD x 0))) (f ((((List.range k).filter p)++[k]).getD ((List.range k).filter p).length 0))=_
   have e2:(((List.range k).filter p)++[k]).getD ((List.range k).filter p).length 0=k:=by
    rw[List.getD_eq_getElem?_getD,List.getElem?_append_right (Nat.le_refl _),Nat.sub_self];rfl
   rw[e2]
   congr 1
   refine zal S (fun m hm => ?_);rw[List.getD_eq_getElem?_getD,List.getD_eq_getElem?_getD,List.getElem?_append_left hm]
  ·rw[if_neg hk,S.add_zero]
   have e1:[k].filter p=[]:=by simp[hk]
   rw[e1,List.append_nil]
inductive Rch (S:Sr α) (A:Nat→Nat→α) (k:Nat):Nat→Nat→Prop
 | one {i m:Nat}:A i m≠S.zero→Rch S A k i m
 | more {i l m:Nat}:l<k→A i l≠S.zero→Rch S A k l m→Rch S A k i m
theorem Rch.mono {S:Sr α}{A:Nat→Nat→α}{k k' i m:Nat}(h:Rch S A k i m)(hk:k≤k'):Rch S A k' i m:=by
 induction h with
 | one h=>exact .one h
 | more hl h _ ih=>exact .more (by omega) h ih
theorem Rch.trans {S:Sr α}{A:Nat→Nat→α}{k i l m:Nat}(h:Rch S A k i l)(hl:l<k)(h2:Rch S A k l m):Rch S A k i m:=by
 induction h with
 | one h=>exact .more hl h h2
 | more hl' h _ ih=>exact .more hl' h (ih hl h2)
theorem zff (S:Sr α)(A:Nat→Nat→α):∀ k i m,el S A k i m≠S.zero→Rch S A k i m
 | 0,i,m,h => .one h
 | k+1,i,m,h=>by
  by_cases h1:el S A k i m=S.zero
  ·by_cases h2:el S A k i k=S.zero
   ·exact absurd (by unfold el;rw[h1,h2,S.zero_mul,S.zero_mul,S.add_zero]) h
   ·by_cases h3:el S A k k m=S.zero
    ·exact absurd (by unfold el;rw[h1,h3,S.mul_zero,S.add_zero]) h
    ·exact((zff S A k i k h2).mono (Nat.le_succ k)).trans (Nat.lt_succ_self k) ((zff S A k k m h3).mono (Nat.le_succ k))
  ·exact(zff S A k i m h1).mono (Nat.le_succ k)
theorem ziv (S:Sr α)(hm:∀ a b:α,a≠S.zero→b≠S.zero→S.mul a b≠S.zero)(A:Nat→Nat→α){k i m:Nat}(h:Rch S A k i m):el S A k i m≠S.zero:=by
 induction h with
 | one h=>exact fun e=>h (S.zero_left ((zbJ S A k _ _).symm.trans e))
 | more hl h _ ih=>exact fun e=>hm _ _ h ih (zwS S (S.zero_right ((zbJ S A k _ _).symm.trans e)) hl)
theorem zeI (S:Sr α)(A:Nat→Nat→α):∀ t x y,el S (fun x y=>el S A 1 (x+1) (y+1)) t x y=el S A (t+1) (x+1) (y+1)
 | 0,x,y=>rfl
 | t+1,x,y=>by
  show S.add (el S (fun x y=>el S A 1 (x+1) (y+1)) t x y) (S.mul (S.mul (el S (fun x y=>el S A 1 (x+1) (y+1)) t x t) (S.star (el S (fun x y=>el S A 1 (x+1) (y+1)) t t t))) (el S (fun x y=>el S A 1 (x+1) (y+1)) t t y))=_;rw[zeI S A t x y,zeI S A t x t,zeI S A t t t,zeI S A t t y]
  rfl
theorem zoC (S:Sr α)(A:Nat→Nat→α)(i j:Nat):∀ d k,S.le (el S A k i j) (el S A (k+d) i j)
 | 0,k=>S.le_refl _
 | d+1,k=>S.le_trans _ _ _ (zoC S A i j d k) (S.le_add _ _)
variable {α:Type}
theorem zzd (S:Sr α)(A:Nat→Nat→α)(σ τ:Nat→Nat):∀ t,(∀ m,m<t→σ m=m+1∧τ m=m+1)→∀ x y,el S (fun x y=>el S A 1 (σ x) (τ y)) t x y=el S A (t+1) (σ x) (τ y)
 | 0,_,x,y=>rfl
 | t+1,h,x,y=>by
  have ih:=zzd S A σ τ t (fun m hm=>h m (by omega));have ht:=h t (Nat.lt_succ_self t);show S.add (el S (fun x y=>el S A 1 (σ x) (τ y)) t x y) (S.mul (S.mul (el S (fun x y=>el S A 1 (σ x) (τ y)) t x t) (S.star (el S (fun x y=>el S A 1 (σ x) (τ y)) t t t))) (el S (fun x y=>el S A 1 (σ x) (τ y)) t t y))=_;rw[ih x y,ih x t,ih t t,ih t y,ht.1,ht.2]
  rfl
theorem zCD (S:Sr α)(A:Nat→Nat→α)(n j:Nat):el S A (n+1) 0 (j+1)=S.add (el S A 1 0 (j+1)) (sm S n (fun l=>S.mul (el S A 1 0 (l+1)) (el S A (n+1) (l+1) (j+1)))):=by
 have hm:=zzd S A (fun x=>if x<n then x+1 else 0) (fun y=>y+1) n (fun m hm=>⟨if_pos hm,rfl⟩);have hl:=zbJ S (fun x y=>el S A 1 ((fun x=>if x<n then x+1 else 0) x) ((fun y=>y+1) y)) n n j;rw[hm n j] at hl;simp only[Nat.lt_irrefl,if_false] at hl;rw[hl]
 congr 1
 refine zal S (fun m hmn => ?_);have:=hm m j;simp only[if_pos hmn] at this;rw[← this]
def xsol (S:Sr α)(A:Nat→Nat→α)(n:Nat)(F:Nat→α)(i:Nat):α:=sm S n (fun m=>S.mul (stM S A n i m) (F m))
theorem zvx (S:Sr α)(A:Nat→Nat→α)(n:Nat)(F:Nat→α){i:Nat}(hi:i<n):xsol S A n F i=S.add (F i) (sm S n (fun m=>S.mul (el S A n i m) (F m))):=by
 unfold xsol;rw[← zhf S F hi,← zde];refine zal S (fun m _ => ?_);unfold stM;rw[S.add_mul]
theorem zeM (S:Sr α)(A:Nat→Nat→α)(n:Nat)(F:Nat→α){i:Nat}(hi:i<n):xsol S A n F i=S.add (F i) (sm S n (fun m=>S.mul (A i m) (xsol S A n F m))):=by
 have e:sm S n (fun m=>S.mul (A i m) (xsol S A n F m))=sm S n (fun j=>sm S n (fun m=>S.mul (S.mul (A i m) (stM S A n m j)) (F j))):=by
  rw[← ziu];refine zal S (fun m _ => ?_);unfold xsol;rw[zhe];exact zal S (fun j _=>(S.mul_assoc _ _ _).symm)
 rw[e]
 conv=>rhs;lhs;rw[← zhf S F hi]
 rw[← zde];unfold xsol;refine zal S (fun j hj => ?_);rw[← zjS,← S.add_mul,← zjV S A hj]
theorem zef (S:Sr α)(A:Nat→Nat→α){n:Nat}(F Z:Nat→α)(h:∀ i,i<n→S.le (S.add (F i) (sm S n (fun m=>S.mul (A i m) (Z m)))) (Z i)){i:Nat}(hi:i<n):S.le (xsol S A n F i) (Z i):=by
 have hl:=zfy S A F Z h n (Nat.le_refl n) i hi;rw[zal S (g:=fun m=>S.mul (el S A n i m) (F m)) (fun m hm=>by rw[if_pos hm])] at hl;rw[zvx S A n F hi];exact hl
theorem ziO (S:Sr α){A B:Nat→Nat→α}{F G:Nat→α}{n:Nat}(h:∀ i j,i<n→j<n→A i j=B i j)(hf:∀ i,i<n→F i=G i){i:Nat}(hi:i<n):xsol S A n F i=xsol S B n G i :=
 zal S (fun m hm=>by rw[zjW S h hi hm,hf m hm])
def augM (A b:Nat→Nat→α)(n x y:Nat):α:=if y<n then A x y else b x (y - n)
theorem zoD (S:Sr α)(A b:Nat→Nat→α){n t:Nat}(ht:t≤n){j:Nat}(hj:j<n):∀ i,el S (augM A b n) t i j=el S A t i j:=by
 have:∀ t,t≤n→∀ i j,j<n→el S (augM A b n) t i j=el S A t i j:=by
  intro t
  induction t with
  | zero=>intro _ i j hj;show augM A b n i j=A i j;unfold augM;rw[if_pos hj]
  | succ t ih =>
   intro ht i j hj;unfold el;rw[ih (by omega) i j hj,ih (by omega) i t (by omega),ih (by omega) t t (by omega),ih (by omega) t j hj]
 exact fun i=>this t ht i j hj
theorem zus (S:Sr α)(A b:Nat→Nat→α)(n t:Nat)(ht:t≤n)(i J:Nat):el S (augM A b n) t i (n+J)=S.add (b i J) (sm S t (fun m=>S.mul (el S A t i m) (b m J))):=by
 rw[zdR];have e:∀ x,augM A b n x (n+J)=b x J:=fun x=>by unfold augM;rw[if_neg (by omega),Nat.add_sub_cancel_left]
 rw[e]
 congr 1
 refine zal S (fun m hm => ?_);rw[zoD S A b ht (by omega),e]
theorem zvy (S:Sr α)(A b:Nat→Nat→α){n i:Nat}(hi:i<n)(J:Nat):el S (augM A b n) n i (n+J)=xsol S A n (fun m=>b m J) i:=by
 rw[zus S A b n n (Nat.le_refl n),zvx S A n _ hi]
theorem zrV (S:Sr α)(A:Nat→Nat→α){n J:Nat}(i:Nat)(hJ:J<n):xsol S A n (fun m=>idm S m J) i=stM S A n i J:=zjT S _ hJ
theorem zvz (S:Sr α)(f:Nat→α){k d:Nat}(h:d<k):sm S k (fun e=>if d=e then f e else S.zero)=f d:=by
 rw[zex S _ h];unfold sx;simp only[if_true]
 rw[zgN S (fun m _=>by
  by_cases e:m=d
  ·rw[if_pos e]
  ·rw[if_neg e,if_neg (Ne.symm e)]),S.add_zero]
def mrg (S:Sr α)(n:Nat)(f:Nat→α)(κ:Nat→Nat)(d:Nat):α:=sm S n (fun j=>if κ j=d then f j else S.zero)
theorem zFt (S:Sr α){n k:Nat}(f y:Nat→α)(κ:Nat→Nat)(hk:∀ j,j<n→κ j<k):sm S k (fun d=>S.mul (mrg S n f κ d) (y d))=sm S n (fun j=>S.mul (f j) (y (κ j))):=by
 have e:sm S k (fun d=>S.mul (mrg S n f κ d) (y d))=sm S n (fun j=>sm S k (fun d=>S.mul (if κ j=d then f j else S.zero) (y d))):=by
  rw[← ziu];exact zal S (fun d _=>by unfold mrg;rw[zjS])
 rw[e];refine zal S (fun j hj => ?_);rw[← zvz S (fun d=>S.mul (f j) (y d)) (hk j hj)];refine zal S (fun d _ => ?_)
 by_cases h:κ j=d
 ·rw[if_pos h,if_pos h]
 ·rw[if_neg h,if_neg h,S.zero_mul]
theorem zut (S:Sr α)(A:Nat→Nat→α){n k:Nat}(F:Nat→α)(κ ρ:Nat→Nat)(hκ:∀ j,j<n→κ j<k)(hρ:∀ c,c<k→ρ c<n)(hκρ:∀ c,c<k→κ (ρ c)=c)
  (he:∀ i j,i<n→j<n→A (ρ (κ i)) j=A i j) {i:Nat} (hi:i<n) :
  xsol S A n F i=S.add (F i) (xsol S (fun c d=>mrg S n (A (ρ c)) κ d) k (fun c=>sm S n (fun j=>S.mul (A (ρ c) j) (F j))) (κ i)):=by
 generalize hA':(fun c d=>mrg S n (A (ρ c)) κ d)=A';generalize hb':(fun c=>sm S n (fun j=>S.mul (A (ρ c) j) (F j)))=b'
 have eA:∀ c (y:Nat→α),sm S k (fun d=>S.mul (A' c d) (y d))=sm S n (fun j=>S.mul (A (ρ c) j) (y (κ j))):=fun c y=>by
  rw[← hA'];exact zFt S _ y κ hκ
 have eb:∀ c,b' c=sm S n (fun j=>S.mul (A (ρ c) j) (F j)):=fun c=>by rw[← hb']
 have hy:∀ c,c<k→S.le (xsol S A' k b' c) (sm S n (fun j=>S.mul (A (ρ c) j) (xsol S A n F j))):=by
  intro c hc;refine zef S A' b' (fun c=>sm S n (fun j=>S.mul (A (ρ c) j) (xsol S A n F j))) (fun c hc => ?_) hc;rw[eA,eb,← zde];rw[zal S (g:=fun j=>S.mul (A (ρ c) j) (xsol S A n F j)) (fun j hj => ?_)]
  ·exact S.le_refl _
  ·rw[← S.mul_add]
   congr 1
   conv=>rhs;rw[zeM S A n F hj]
   congr 1
   exact zal S (fun m hm=>by rw[he j m hj hm])
 refine S.le_anti _ _ ?_ ?_
 ·refine zef S A F (fun i=>S.add (F i) (xsol S A' k b' (κ i))) (fun i hi => ?_) hi
  try dsimp only
  have hκi:=hκ i hi;rw[zeM S A' k b' hκi,eA,eb,← zde];rw[zal S (g:=fun j=>S.add (S.mul (A (ρ (κ i)) j) (F j)) (S.mul (A (ρ (κ i)) j) (xsol S A' k b' (κ j)))) (fun j hj => ?_)]
  ·exact S.le_refl _
  ·rw[he i j hi hj,S.mul_add]
 ·conv=>rhs;rw[zeM S A n F hi]
  refine S.add_mono _ _ _ _ (S.le_refl _) ?_;refine S.le_trans _ _ _ (hy (κ i) (hκ i hi)) ?_;rw[zal S (g:=fun j=>S.mul (A i j) (xsol S A n F j)) (fun j hj=>by rw[he i j hi hj])];exact S.le_refl _
theorem zze (S:Sr α)(A A':Nat→Nat→α){n k:Nat}(F F':Nat→α)(ρ:Nat→Nat)(hρ:∀ c,c<k→ρ c<n)
  (hs:∀ c,c<k→∀ X:Nat→α,(∀ j,j<n→(∀ d,d<k→ρ d≠j)→S.mul (A (ρ c) j) (X j)=S.zero)→sm S n (fun j=>S.mul (A (ρ c) j) (X j))=sm S k (fun d=>S.mul (A' c d) (X (ρ d))))
  (hF:∀ c,c<k→F' c=F (ρ c)) (hdead:∀ c,c<k→∀ j,j<n→(∀ d,d<k→ρ d≠j)→S.mul (A (ρ c) j) (xsol S A n F j)=S.zero) (hinj:∀ c d,c<k→d<k→ρ c=ρ d→c=d)
  {c:Nat} (hc:c<k):xsol S A' k F' c=xsol S A n F (ρ c):=by
 refine S.le_anti _ _ ?_ ?_
 ·refine zef S A' F' (fun c=>xsol S A n F (ρ c)) (fun c hc => ?_) hc
  try dsimp only
  rw[hF c hc,← hs c hc (xsol S A n F) (hdead c hc),← zeM S A n F (hρ c hc)];exact S.le_refl _
 ·have key:=zef S A F (fun j=>if h:∃ d,d<k∧ρ d=j then xsol S A' k F' h.choose else xsol S A n F j) (fun j hj => ?_) (hρ c hc)
  ·have h:∃ d,d<k∧ρ d=ρ c:=⟨c,hc,rfl⟩
   rw[dif_pos h] at key;have:=hinj _ _ h.choose_spec.1 hc h.choose_spec.2
   rwa [this] at key
  ·by_cases h:∃ d,d<k∧ρ d=j
   ·rw[dif_pos h]
    obtain⟨hd,e⟩:=h.choose_spec;generalize h.choose=d at *;subst e;rw[hs d hd _ (fun j hj hno => ?_)]
    ·rw[zal S (g:=fun e=>S.mul (A' d e) (xsol S A' k F' e)) (fun e he => ?_),← hF d hd,← zeM S A' k F' hd]
     ·exact S.le_refl _
     ·have h2:∃ d,d<k∧ρ d=ρ e:=⟨e,he,rfl⟩
      rw[dif_pos h2];have:=hinj _ _ h2.choose_spec.1 he h2.choose_spec.2;rw[this]
    ·rw[dif_neg (fun⟨d,hd,e⟩=>hno d hd e)]
     exact hdead d hd j hj hno
   ·rw[dif_neg h]
    conv=>rhs;rw[zeM S A n F hj]
    refine S.add_mono _ _ _ _ (S.le_refl _) (zgO S (fun m hm => ?_))
    by_cases h2:∃ d,d<k∧ρ d=m
    ·rw[dif_pos h2]
     obtain⟨hd,e⟩:=h2.choose_spec;generalize h2.choose=d at *;subst e;refine S.mul_mono _ _ _ ?_;refine zef S A' F' (fun c=>xsol S A n F (ρ c)) (fun c hc => ?_) hd
     try dsimp only
     rw[hF c hc,← hs c hc (xsol S A n F) (hdead c hc),← zeM S A n F (hρ c hc)];exact S.le_refl _
    ·rw[dif_neg h2]
     exact S.le_refl _
variable {α:Type}
def zaN (S:Sr α)(row f:Nat→α)(R:Nat→Nat→α)(n j:Nat):α:=S.add (row j) (sm S n (fun s=>S.mul (f s) (R s j)))
def zcN (S:Sr α)(Fit:α→Prop)(n m:Nat)(row f:Nat→α)(R:Nat→Nat→α):Prop :=
 ∀ t,t<n→∀ j,j<m→Fit (S.mul (f t) (R t j))∧Fit (zaN S row f R (t+1) j)
def fstR (S:Sr α)(A:Nat→Nat→α)(j:Nat):α:=S.mul (S.star (A 0 0)) (A 0 (j+1))
def putR (S:Sr α)(A:Nat→Nat→α)(i j:Nat):α:=zaN S (fun j=>A (i+1) (j+1)) (fun _=>A (i+1) 0) (fun _=>fstR S A) 1 j
def zdv (S:Sr α):Nat→(Nat→Nat→α)→Nat→Nat→α
 | 0,_,_,_=>S.zero
 | n+1,A,0,J=>zaN S (fun J=>fstR S A (n+J)) (fstR S A) (zdv S n (putR S A)) n J
 | n+1,A,i+1,J=>zdv S n (putR S A) i J
def zdS (S:Sr α)(Fit:α→Prop):Nat→Nat→(Nat→Nat→α)→Prop
 | 0,_,_=>True
 | n+1,m,A=>Fit (S.star (A 0 0))∧(∀ j,j<n+m→Fit (fstR S A j))∧(∀ i,i<n→zcN S Fit 1 (n+m) (fun j=>A (i+1) (j+1)) (fun _=>A (i+1) 0) (fun _=>fstR S A)) ∧
  zdS S Fit n m (putR S A)∧zcN S Fit n m (fun J=>fstR S A (n+J)) (fstR S A) (zdv S n (putR S A))
theorem zoE (S:Sr α)(A:Nat→Nat→α)(j:Nat):fstR S A j=el S A 1 0 (j+1):=(zjU S A 0 (j+1)).symm
theorem zFu (S:Sr α)(A:Nat→Nat→α)(i j:Nat):putR S A i j=el S A 1 (i+1) (j+1):=by
 unfold putR zaN fstR;show S.add (A (i+1) (j+1)) (S.add S.zero (S.mul (A (i+1) 0) (S.mul (S.star (A 0 0)) (A 0 (j+1)))))=S.add (A (i+1) (j+1)) (S.mul (S.mul (A (i+1) 0) (S.star (A 0 0))) (A 0 (j+1)));rw[S.zero_add,S.mul_assoc]
theorem zoF (S:Sr α)(A:Nat→Nat→α):putR S A=fun x y=>el S A 1 (x+1) (y+1):=funext fun i=>funext fun j=>zFu S A i j
theorem ziP (S:Sr α):∀ (n:Nat) (A:Nat→Nat→α) (i J:Nat),i<n→zdv S n A i J=el S A n i (n+J)
 | n+1,A,0,J,_=>by
  have e:n+1+J=(n+J)+1:=by omega
  rw[e,zCD];show zaN S (fun J=>fstR S A (n+J)) (fstR S A) (zdv S n (putR S A)) n J=_;unfold zaN
  try dsimp only
  rw[zoE]
  congr 1
  refine zal S (fun l hl => ?_);rw[zoE,ziP S n (putR S A) l J hl,zoF,zeI]
 | n+1,A,i+1,J,h=>by
  show zdv S n (putR S A) i J=_;rw[ziP S n (putR S A) i J (by omega),zoF,zeI]
  congr 1
  omega
theorem zeN (S:Sr α)(A:Nat→Nat→α)(t:Nat):∀ s x y,el S (fun x y=>el S A t (x+t) (y+t)) s x y=el S A (t+s) (x+t) (y+t)
 | 0,x,y=>rfl
 | s+1,x,y=>by
  show S.add (el S (fun x y=>el S A t (x+t) (y+t)) s x y) (S.mul (S.mul (el S (fun x y=>el S A t (x+t) (y+t)) s x s) (S.star (el S (fun x y=>el S A t (x+t) (y+t)) s s s))) (el S (fun x y=>el S A t (x+t) (y+t)) s s y))=_;rw[zeN S A t s x y,zeN S A t s x s,zeN S A t s s s,zeN S A t s s y,Nat.add_comm s t]
  rfl
structure zfz (S:Sr α)(Fit:α→Prop)(n m:Nat)(A:Nat→Nat→α):Prop where
 st:∀ t,t<n→Fit (S.star (el S A t t t))
 row:∀ t,t<n→∀ j,t<j→j<n+m→Fit (el S A (t+1) t j)
 pr:∀ t,t<n→∀ i,t<i→i<n→∀ j,t<j→j<n+m→Fit (S.mul (el S A t i t) (el S A (t+1) t j))
 en:∀ t,t<n→∀ i,t<i→i<n→∀ j,t<j→j<n+m→Fit (el S A (t+1) i j)
 bp:∀ t,t<n→∀ l,t+1+l<n→∀ J,J<m→Fit (S.mul (el S A (t+1) t (t+1+l)) (el S A n (t+1+l) (n+J)))
 bs:∀ t,t<n→∀ l,t+1+l<n→∀ J,J<m→Fit (S.add (el S A (t+1) t (n+J)) (sm S (l+1) (fun l=>S.mul (el S A (t+1) t (t+1+l)) (el S A n (t+1+l) (n+J)))))
theorem zfz.fits (S:Sr α){Fit:α→Prop}{n m:Nat}{A:Nat→Nat→α}(h:zfz S Fit n m A):∀ d t,t+d=n→zdS S Fit d m (fun x y=>el S A t (x+t) (y+t))
 | 0,_,_=>trivial
 | d+1,t,htd=>by
  have e1:∀ x y,el S (fun x y=>el S A t (x+t) (y+t)) 1 x y=el S A (t+1) (x+t) (y+t):=fun x y=>zeN S A t 1 x y;have efst:∀ j,fstR S (fun x y=>el S A t (x+t) (y+t)) j=el S A (t+1) t (j+1+t):=fun j=>by rw[zoE,e1,Nat.zero_add]
  have eput:putR S (fun x y=>el S A t (x+t) (y+t))=fun x y=>el S A (t+1) (x+(t+1)) (y+(t+1)):=by
   rw[zoF]
   funext x y
   rw[e1,Nat.add_assoc x 1 t,Nat.add_assoc y 1 t,Nat.add_comm 1 t]
  have erest:∀ l J,l<d→zdv S d (putR S (fun x y=>el S A t (x+t) (y+t))) l J=el S A n (t+1+l) (n+J):=fun l J hl=>by
   rw[ziP S d _ l J hl,eput,zeN,show t+1+d=n by omega,show l+(t+1)=t+1+l by omega,show d+J+(t+1)=n+J by omega]
  refine⟨?_,?_,?_,?_,?_⟩
  ·have:=h.st t (by omega)
   simpa using this
  ·intro j hj
   rw[efst];exact h.row t (by omega) _ (by omega) (by omega)
  ·intro i hi s hs j hj
   obtain rfl:s=0:=by omega
   constructor
   ·show Fit (S.mul (el S A t (i+1+t) (0+t)) (fstR S (fun x y=>el S A t (x+t) (y+t)) j))
    rw[efst,Nat.zero_add];exact h.pr t (by omega) _ (by omega) (by omega) _ (by omega) (by omega)
   ·show Fit (putR S (fun x y=>el S A t (x+t) (y+t)) i j)
    rw[eput];exact h.en t (by omega) _ (by omega) (by omega) _ (by omega) (by omega)
  ·rw[eput]
   exact zfz.fits S h d (t+1) (by omega)
  ·intro l hl J hJ
   constructor
   ·rw[efst,erest l J hl,show l+1+t=t+1+l by omega]
    exact h.bp t (by omega) l (by omega) J hJ
   ·unfold zaN
    try dsimp only
    rw[efst,show d+J+1+t=n+J by omega,zal S (g:=fun l=>S.mul (el S A (t+1) t (t+1+l)) (el S A n (t+1+l) (n+J))) (fun s hs=>by
     rw[efst,erest s J (by omega),show s+1+t=t+1+s by omega])]
    exact h.bs t (by omega) l (by omega) J hJ
theorem zfz.all (S:Sr α){Fit:α→Prop}{n m:Nat}{A:Nat→Nat→α}(h:zfz S Fit n m A):zdS S Fit n m A:=zfz.fits S h n 0 (by omega)
def scan (eq:Nat→Nat→Bool):Nat→List Nat × List Nat
 | 0=>([],[])
 | i+1=>match (scan eq i).1.findIdx? (fun j=>eq j i) with
  | some k=>((scan eq i).1,(scan eq i).2++[k])
  | none=>((scan eq i).1++[i],(scan eq i).2++[(scan eq i).1.length])
structure zzf (eq:Nat→Nat→Bool)(i:Nat)(r c:List Nat):Prop where
 len:c.length=i
 cl:∀ j,j<i→c.getD j 0<r.length∧eq (r.getD (c.getD j 0) 0) j=true
 rl:∀ x,x<r.length→r.getD x 0<i
 rc:∀ x,x<r.length→c.getD (r.getD x 0) 0=x
 le:r.length≤i
 up:r.Pairwise (· < ·)
theorem zbt {l m:List Nat}{j:Nat}(h:j<l.length):(l++m).getD j 0=l.getD j 0:=by
 rw[List.getD_eq_getElem?_getD,List.getD_eq_getElem?_getD,List.getElem?_append_left h]
theorem zcg {l:List Nat}{x:Nat}:(l++[x]).getD l.length 0=x:=by
 rw[List.getD_eq_getElem?_getD,List.getElem?_append_right (Nat.le_refl _),Nat.sub_self];rfl
theorem ziw {eq:Nat→Nat→Bool}(hr:∀ i,eq i i=true):∀ i,zzf eq i (scan eq i).1 (scan eq i).2
 | 0=>⟨rfl,fun j h=>absurd h (by omega),fun x h=>absurd h (by simp[scan]),fun x h=>absurd h (by simp[scan]),Nat.le_refl _,List.Pairwise.nil⟩
 | i+1=>by
  have ih:=ziw hr i;unfold scan
  split
  ·next k hk =>
   obtain⟨hk1,hk2,_⟩:=List.findIdx?_eq_some_iff_getElem.1 hk;have hkd:(scan eq i).1.getD k 0=(scan eq i).1[k]:=by rw[List.getD_eq_getElem?_getD,List.getElem?_eq_getElem hk1];rfl
   refine⟨by simp[ih.len],fun j hj => ?_,fun x hx=>Nat.lt_succ_of_lt (ih.rl x hx),fun x hx => ?_,Nat.le_succ_of_le ih.le,ih.up⟩
   ·try dsimp only
    by_cases e:j<i
    ·rw[zbt (by rw[ih.len];exact e)];exact ih.cl j e
    ·obtain rfl:j=i:=by omega
     have:((scan eq j).2++[k]).getD j 0=k:=by conv=>lhs;arg 2;rw[← ih.len]
                                              exact zcg
     rw[this];exact⟨hk1,by rw[hkd];exact hk2⟩
   ·dsimp only at hx ⊢
    rw[zbt (by rw[ih.len];exact ih.rl x hx)];exact ih.rc x hx
  ·next hk =>
   refine⟨by simp[ih.len],fun j hj => ?_,fun x hx => ?_,fun x hx => ?_,by simp;exact ih.le,?_⟩
   ·try dsimp only
    by_cases e:j<i
    ·rw[zbt (by rw[ih.len];exact e),zbt (ih.cl j e).1]
     exact⟨by simp;exact Nat.lt_succ_of_lt (ih.cl j e).1,(ih.cl j e).2⟩
    ·obtain rfl:j=i:=by omega
     have:((scan eq j).2++[(scan eq j).1.length]).getD j 0=(scan eq j).1.length:=by conv=>lhs;arg 2;rw[← ih.len]
                                                                                    exact zcg
     rw[this];exact⟨by simp,by rw[zcg];exact hr j⟩
   ·dsimp only at hx ⊢
    by_cases e:x<(scan eq i).1.length
    ·rw[zbt e];exact Nat.lt_succ_of_lt (ih.rl x e)
    ·obtain rfl:x=(scan eq i).1.length:=by simp at hx;omega
     rw[zcg];omega
   ·dsimp only at hx ⊢
    by_cases e:x<(scan eq i).1.length
    ·rw[zbt e,zbt (by rw[ih.len];exact ih.rl x e)];exact ih.rc x e
    ·obtain rfl:x=(scan eq i).1.length:=by simp at hx;omega
     rw[zcg]
     conv=>lhs;arg 2;rw[← ih.len]
     exact zcg
   ·try dsimp only
    refine List.pairwise_append.2 ⟨ih.up,List.pairwise_singleton _ _,fun a ha b hb => ?_⟩;obtain⟨x,hx,rfl⟩:=List.getElem_of_mem ha;have:=ih.rl x hx;rw[List.getD_eq_getElem?_getD,List.getElem?_eq_getElem hx] at this;simp at hb;subst hb;exact this
noncomputable def eqR (n:Nat)(A:Nat→Nat→α)(i j:Nat):Bool := @decide (∀ l,l<n→A i l=A j l) (Classical.propDecidable _)
theorem zfA {n:Nat}{A:Nat→Nat→α}{i j:Nat}:eqR n A i j=true↔∀ l,l<n→A i l=A j l:=by unfold eqR;exact @decide_eq_true_iff _ (Classical.propDecidable _)
noncomputable def repR (n:Nat)(A:Nat→Nat→α):List Nat:=(scan (eqR n A) n).1
noncomputable def clsR (n:Nat)(A:Nat→Nat→α):List Nat:=(scan (eqR n A) n).2
theorem zmZ (n:Nat)(A:Nat→Nat→α):zzf (eqR n A) n (repR n A) (clsR n A):=ziw (fun i=>zfA.2 (fun _ _=>rfl)) n
noncomputable def mrgA (S:Sr α)(n:Nat)(A:Nat→Nat→α)(c d:Nat):α:=mrg S n (A ((repR n A).getD c 0)) (fun j=>(clsR n A).getD j 0) d
noncomputable def mrgB (S:Sr α)(n:Nat)(A b:Nat→Nat→α)(c J:Nat):α:=zaN S (fun _=>S.zero) (A ((repR n A).getD c 0)) b n J
noncomputable def solveF (S:Sr α):Nat→Nat→(Nat→Nat→α)→(Nat→Nat→α)→Nat→Nat→α
 | 0,_,_,_,_,_=>S.zero
 | s+1,n,A,b,i,J=>if (repR n A).length=n then zdv S n (augM A b n) i J
  else S.add (b i J) (solveF S s (repR n A).length (mrgA S n A) (mrgB S n A b) ((clsR n A).getD i 0) J)
def zlm (S:Sr α)(Fit:α→Prop)(n:Nat)(f:Nat→α)(κ:Nat→Nat):Prop:=∀ t,t<n→Fit (sm S (t+1) (fun j=>if κ j=κ t then f j else S.zero))
noncomputable def SolveFits (S:Sr α)(Fit:α→Prop):Nat→Nat→Nat→(Nat→Nat→α)→(Nat→Nat→α)→Prop
 | 0,_,_,_,_=>True
 | s+1,n,m,A,b=>if (repR n A).length=n then zdS S Fit n m (augM A b n)
  else (∀ c,c<(repR n A).length→zlm S Fit n (A ((repR n A).getD c 0)) (fun j=>(clsR n A).getD j 0)) ∧
   (∀ c,c<(repR n A).length→zcN S Fit n m (fun _=>S.zero) (A ((repR n A).getD c 0)) b) ∧
   SolveFits S Fit s (repR n A).length m (mrgA S n A) (mrgB S n A b) ∧
   ∀ i,i<n→∀ J,J<m→Fit (S.add (b i J) (solveF S s (repR n A).length (mrgA S n A) (mrgB S n A b) ((clsR n A).getD i 0) J))
theorem zdq (S:Sr α):∀ (s n:Nat) (A b:Nat→Nat→α),n≤s→∀ i J,i<n→solveF S s n A b i J=xsol S A n (fun m=>b m J) i
 | 0,n,A,b,h,i,J,hi=>absurd hi (by omega)
 | s+1,n,A,b,h,i,J,hi=>by
  have hs:=zmZ n A;unfold solveF
  by_cases hk:(repR n A).length=n
  ·rw[if_pos hk,ziP S n _ i J hi,zvy S A b hi]
  ·have hlt:(repR n A).length<n:=by have:=hs.le;omega
   rw[if_neg hk,zdq S s _ _ _ (by omega) _ J (hs.cl i hi).1];rw[zut S A (k:=(repR n A).length) (fun m=>b m J) (fun j=>(clsR n A).getD j 0) (fun c=>(repR n A).getD c 0) (fun j hj=>(hs.cl j hj).1) hs.rl hs.rc (fun i j hi hj=>zfA.1 (hs.cl i hi).2 j hj) hi]
   congr 1
   refine ziO S (fun c d _ _=>rfl) (fun c _ => ?_) (hs.cl i hi).1;unfold mrgB zaN;rw[S.zero_add]
variable {P:Program} {ops:Array Oper} {Q:Exit→Act→World→Prop} {md:Region.Mode}
def zgz (P:Program)(ops:Array Oper)(Q:Exit→Act→World→Prop)(e:Nat):Exit→Act→World→Prop
 | .normal,a,w=>wpOp P ops Q e (fun a' w'=>Q .normal a' w') a w
 | x,a,w=>Q x a w
theorem zzg {e:Nat}{o:Oper}{a:Act}{K:Act→World→Prop}{r:Result Next}(h:o.upon P a K (zgz P ops Q e) r):o.upon P a K Q r:=by
 cases r with
 | ok n w' =>
  cases n <;> simp only[Oper.upon] at h ⊢
  case enter f args =>
   refine Calls.mono h fun x w'' he => ?_;cases x with
   | returned u=>exact he
   | panicked c=>exact he
   | outgrown=>exact he
  all_goals exact h
 | halt x w' =>
  cases x <;> simp only[Oper.upon] at h ⊢
  case panic u=>exact h
theorem zpY {e i:Nat}{a:Act}{w:World}{K:Act→World→Prop}(h:wpOp P ops (zgz P ops Q e) i K a w):wpOp P ops Q i K a w:=by
 unfold wpOp at *
 split
 ·rename_i ho;simpa [ho] using h
 ·rename_i o ho
  simp only[ho] at h
  split
  ·rename_i hw
   simp only[hw,if_true] at h;rcases h with h|⟨h1,h2⟩
   ·exact .inl (zzg h)
   ·exact .inr ⟨h1,h2⟩
  ·rename_i hw
   simp only[hw] at h;exact h
def zrW (md:Region.Mode)(ops:Array Oper)(e:Nat):Bool :=
 (List.range ops.size).all (fun i=>((ops[i]?).map (fun o=>o.after.all fun x => !Region.binds md x || decide (x.on<i))).getD false&&(i == e || ((ops[e]?).map (fun o=>o.after.any fun x=>Region.binds md x&&x.on == i)).getD false))&&decide (e<ops.size)
structure zjX (md:Region.Mode)(ops:Array Oper)(e:Nat):Prop where
 he:e<ops.size
 fwd:∀ (i:Nat) (o:Oper),ops[i]? = some o→∀ x∈o.after,Region.binds md x=true→x.on<i
 all:∀ (i:Nat),i<ops.size→i≠e→∃ o,ops[e]? = some o∧∃ x∈o.after,Region.binds md x=true∧x.on=i
theorem zuu {e:Nat}(h:zrW md ops e=true):zjX md ops e:=by
 unfold zrW at h;simp only[Bool.and_eq_true,List.all_eq_true,List.mem_range,decide_eq_true_eq] at h;obtain⟨h1,h2⟩:=h;refine⟨h2,fun i o ho x hx hb => ?_,fun i hi hne => ?_⟩
 ·have h3:=(h1 i (Array.getElem?_eq_some_iff.1 ho).1).1
  simp only[ho,Option.map_some,Option.getD_some,Array.all_eq_true_iff_forall_mem] at h3;have h4:=h3 x hx
  simpa [hb] using h4
 ·have h3:=(h1 i hi).2
  cases ho:ops[e]? with
  | none=>simp[ho,hne] at h3
  | some o =>
   simp only[ho,Option.map_some,Option.getD_some,Bool.or_eq_true,beq_iff_eq,hne,false_or] at h3;obtain⟨k,hk,hb⟩:=Array.any_eq_true.1 h3;simp only[Bool.and_eq_true,beq_iff_eq] at hb;exact⟨o,rfl,_,Array.getElem_mem hk,hb.1,hb.2⟩
theorem zjH {listed:Array Bool}{e:Nat}(hok:zjX md ops e)(hl:listed.size=ops.size)(h:∀ i,i≠e→i ∉ Region.ready md ops listed):∀ i,i<ops.size→i≠e→listed.getD i false=true:=by
 intro i
 induction i using Nat.strongRecOn with
 | ind i ih =>
  intro hi hne
  apply Classical.byContradiction
  intro hn
  have hn:listed.getD i true=false:=by
   have hi2:i<listed.size:=by omega
   simp[hi2] at hn ⊢;exact hn
  refine h i hne ?_;rw[mem_ready];refine⟨hn,ops[i],Array.getElem?_eq_getElem hi,fun x hx hb => ?_⟩;have hlt:=hok.fwd i _ (Array.getElem?_eq_getElem hi) x hx hb
  by_cases hxe:x.on=e
  ·obtain⟨oe,hoe,y,hy,hyb,hyi⟩:=hok.all i hi hne
   have:=hok.fwd e oe hoe y hy hyb
   omega
  ·exact ih x.on hlt (by omega) hxe
theorem zna {listed:Array Bool}{e:Nat}(hok:zjX md ops e)(hl:listed.size=ops.size)(he:listed.getD e true=false)(h:∀ i,i<ops.size→i≠e→listed.getD i false=true):e∈Region.ready md ops listed:=by
 rw[mem_ready];refine⟨he,ops[e]'hok.he,Array.getElem?_eq_getElem hok.he,fun x hx hb => ?_⟩;have hlt:=hok.fwd e _ (Array.getElem?_eq_getElem hok.he) x hx hb;exact h x.on (by have:=hok.he;omega) (by omega)
theorem zwT {listed:Array Bool}{e:Nat}(hok:zjX md ops e)(hl:listed.size=ops.size)(he:e∈Region.ready md ops listed):Region.ready md ops (listed.setIfInBounds e true)=[]:=by
 rw[List.eq_nil_iff_forall_not_mem];intro i hi;rw[mem_ready] at hi he;obtain⟨h1,o,ho,_⟩:=hi;obtain⟨h2,oe,hoe,h3⟩:=he;have hil:i<ops.size:=(Array.getElem?_eq_some_iff.1 ho).1
 by_cases hie:i=e
 ·subst hie
  have:i<listed.size:=by omega
  simp[this] at h1
 ·rw[getD_set_ne true (Ne.symm hie)] at h1
  obtain⟨o2,ho2,x,hx,hb,hxi⟩:=hok.all i hil hie;rw[hoe] at ho2;cases ho2;have h4:=h3 x hx hb;rw[hxi] at h4;have:i<listed.size:=by omega
  simp[this] at h1 h4;rw[h1] at h4;cases h4
theorem zwU {e:Nat}(hok:zjX md ops e):∀ (fuel:Nat) (listed:Array Bool) (a:Act) (w:World),listed.size=ops.size→listed.getD e true=false →
  wpAny P md ops (zgz P ops Q e) fuel (listed.setIfInBounds e true) a w→wpAny P md ops Q (fuel+1) listed a w:=by
 intro fuel
 have fin:∀ (n:Nat) (listed:Array Bool) (a:Act) (w:World),Region.ready md ops (listed.setIfInBounds e true)=[]→zgz P ops Q e .normal a w→wpOp P ops Q e (wpAny P md ops Q n (listed.setIfInBounds e true)) a w:=by
  intro n listed a w hr h;refine wpOp_mono (fun a' w' h' => ?_) h;cases n with
  | zero=>exact⟨hr,h'⟩
  | succ n=>exact⟨fun _=>h',by rw[hr];simp⟩
 induction fuel with
 | zero =>
  intro listed a w hl he h;have hall:=zjH hok hl (fun i hi hr=>by have:=ready_mono hr hi;rw[h.1] at this;cases this);have hre:=zna hok hl he hall;refine⟨fun h0=>(by rw[h0] at hre;cases hre),fun i hi => ?_⟩
  by_cases hie:i=e
  ·subst hie;exact fin 0 listed a w h.1 h.2
  ·have:=ready_mono hi hie
   rw[h.1] at this;cases this
 | succ fuel ih =>
  intro listed a w hl he h;refine⟨fun h0 => ?_,fun i hi => ?_⟩
  ·have hre:=zna hok hl he (zjH hok hl (fun i _ hr=>by rw[h0] at hr;cases hr))
   rw[h0] at hre;cases hre
  ·by_cases hie:i=e
   ·subst hie
    have hr:=zwT hok hl hi;exact fin (fuel+1) listed a w hr (h.1 hr)
   ·have h1:=zpY (h.2 i (ready_mono hi hie))
    refine wpOp_mono (fun a' w' h' => ?_) h1;refine ih (listed.setIfInBounds i true) a' w' (by simpa using hl) (by rw[getD_set_ne true hie];exact he) ?_;rw[Array.setIfInBounds_comm _ _ hie];exact h'
theorem zgA {e:Nat}{o:Oper}{a:Act}{w:World}(ho:ops[e]? = some o)
  (h:∀ K':Act→World→Prop,(∀ a w,Q .normal a w→K' a w)→if Region.wanted o (yielded ops a.tmps)=true then Oper.wp P o a w K' Q else K' (a.put o.dst undef) w):zgz P ops Q e .normal a w:=wpOp_step ho h
theorem zfB {id e n:Nat}{a:Act}{w:World}(S:World→Prop)(hm:P.follows .mixedOrders=true)(hok:zrW .any ops e=true)(hn:ops.size=n+1)
  (h:wpAnyH P .any ops (zgz P ops Q e) S n ((Array.replicate ops.size false).setIfInBounds e true) a w.drew):(Code.region id ops true).wp P Q a w:=by
 refine wp_region_any hm ?_;rw[hn];have hs:=zuu hok;have h1:=zwU hs n (Array.replicate ops.size false) a w.drew (by simp) (by have:=hs.he;simp[this]) (wpAny_of_held _ _ _ _ h);rw[hn] at h1;exact h1
variable {P:Program} {ops:Array Oper} {Q:Exit→Act→World→Prop} {md:Region.Mode}
def zoG (md:Region.Mode)(ops:Array Oper)(e:Nat):Bool :=
 (List.range ops.size).all (fun i=>((ops[i]?).map (fun o=>o.after.all fun x => !Region.binds md x || decide (x.on<i))).getD false&&(i == e || (List.range ops.size).any (fun j=>((ops[j]?).map (fun o=>o.after.any fun x=>Region.binds md x&&x.on == i)).getD false)))&&decide (e+1=ops.size)
structure zgP (md:Region.Mode)(ops:Array Oper)(e:Nat):Prop where
 he:e+1=ops.size
 fwd:∀ (i:Nat) (o:Oper),ops[i]? = some o→∀ x∈o.after,Region.binds md x=true→x.on<i
 all:∀ (i:Nat),i<ops.size→i≠e→∃ (j:Nat) (o:Oper),ops[j]? = some o∧∃ x∈o.after,Region.binds md x=true∧x.on=i
theorem zrX {e:Nat}(h:zoG md ops e=true):zgP md ops e:=by
 unfold zoG at h;simp only[Bool.and_eq_true,List.all_eq_true,List.mem_range,decide_eq_true_eq] at h;obtain⟨h1,h2⟩:=h;refine⟨h2,fun i o ho x hx hb => ?_,fun i hi hne => ?_⟩
 ·have h3:=(h1 i (Array.getElem?_eq_some_iff.1 ho).1).1
  simp only[ho,Option.map_some,Option.getD_some,Array.all_eq_true_iff_forall_mem] at h3;have h4:=h3 x hx
  simpa [hb] using h4
 ·have h3:=(h1 i hi).2
  simp only[Bool.or_eq_true,beq_iff_eq,hne,false_or,List.any_eq_true,List.mem_range] at h3;obtain⟨j,hj,h3⟩:=h3;cases ho:ops[j]? with
  | none=>simp[ho] at h3
  | some o =>
   simp only[ho,Option.map_some,Option.getD_some] at h3;obtain⟨k,hk,hb⟩:=Array.any_eq_true.1 h3;simp only[Bool.and_eq_true,beq_iff_eq] at hb;exact⟨j,o,ho,_,Array.getElem_mem hk,hb.1,hb.2⟩
def Closed (md:Region.Mode)(ops:Array Oper)(listed:Array Bool):Prop:=∀ (i:Nat) (o:Oper),ops[i]? = some o→listed.getD i false=true→∀ x∈o.after,Region.binds md x=true→listed.getD x.on false=true
theorem zrY (n:Nat):Closed md ops (Array.replicate n false):=by
 intro i o _ h;rw[Array.getD_eq_getD_getElem?,Array.getElem?_replicate] at h
 split at h <;> simp at h
theorem zjI {l:Array Bool}{i j:Nat}(h:l.getD j false=true):(l.setIfInBounds i true).getD j false=true:=by
 by_cases e:i=j
 ·subst e
  simp at h ⊢;obtain⟨h1,_⟩:=Array.getElem?_eq_some_iff.1 (show l[i]? = some true by cases hx:l[i]? with|none=>simp[hx] at h|some b=>simp[hx] at h;rw[h]);simp[h1]
 ·rw[getD_set_ne false e];exact h
theorem zuv {listed:Array Bool}{i:Nat}(hc:Closed md ops listed)(hi:i∈Region.ready md ops listed):Closed md ops (listed.setIfInBounds i true):=by
 intro k o ho hk x hx hb
 by_cases e:i=k
 ·subst e
  rw[mem_ready] at hi;obtain⟨_,o2,ho2,h3⟩:=hi;rw[ho] at ho2;cases ho2;exact zjI (h3 x hx hb)
 ·rw[getD_set_ne false e] at hk
  exact zjI (hc k o ho hk x hx hb)
theorem zzh {listed:Array Bool}{e:Nat}(hok:zgP md ops e)(hc:Closed md ops listed)(he:e∈Region.ready md ops listed):∀ d i,i+d=e→i<e→listed.getD i false=true:=by
 intro d
 induction d using Nat.strongRecOn with
 | ind d ih =>
  intro i hd hi;obtain⟨j,o,ho,x,hx,hb,hxi⟩:=hok.all i (by have:=hok.he;omega) (by omega);have hlt:=hok.fwd j o ho x hx hb;have hjl:j<ops.size:=(Array.getElem?_eq_some_iff.1 ho).1;have hje:j≤e:=by have:=hok.he;omega
  by_cases e2:j=e
  ·subst e2
   rw[mem_ready] at he;obtain⟨_,o2,ho2,h3⟩:=he;rw[ho] at ho2;cases ho2;rw[← hxi];exact h3 x hx hb
  ·have:=ih (e - j) (by omega) j (by omega) (by omega)
   rw[← hxi];exact hc j o ho this x hx hb
theorem zwV {listed:Array Bool}{e:Nat}(hok:zgP md ops e)(hc:Closed md ops listed)(hl:listed.size=ops.size)(he:e∈Region.ready md ops listed):Region.ready md ops (listed.setIfInBounds e true)=[]:=by
 have hall:=zzh hok hc he;rw[List.eq_nil_iff_forall_not_mem];intro i hi;rw[mem_ready] at hi;obtain⟨h1,o,ho,_⟩:=hi;have hil:i<ops.size:=(Array.getElem?_eq_some_iff.1 ho).1
 by_cases hie:i=e
 ·subst hie
  have:i<listed.size:=by omega
  simp[this] at h1
 ·rw[getD_set_ne true (Ne.symm hie)] at h1
  have h4:=hall (e - i) i (by have:=hok.he;omega) (by have:=hok.he;omega);have:i<listed.size:=by omega
  simp[this] at h1 h4;rw[h1] at h4;cases h4
theorem zhH {listed:Array Bool}{e:Nat}(hok:zgP md ops e)(hl:listed.size=ops.size)(h:∀ i,i≠e→i ∉ Region.ready md ops listed):∀ i,i<ops.size→i≠e→listed.getD i false=true:=by
 intro i
 induction i using Nat.strongRecOn with
 | ind i ih =>
  intro hi hne
  apply Classical.byContradiction
  intro hn
  have hn:listed.getD i true=false:=by
   have hi2:i<listed.size:=by omega
   simp[hi2] at hn ⊢;exact hn
  refine h i hne ?_;rw[mem_ready];refine⟨hn,ops[i],Array.getElem?_eq_getElem hi,fun x hx hb => ?_⟩;have hlt:=hok.fwd i _ (Array.getElem?_eq_getElem hi) x hx hb;exact ih x.on hlt (by omega) (by have:=hok.he;omega)
theorem zlQ {listed:Array Bool}{e:Nat}(hok:zgP md ops e)(he:listed.getD e true=false)(h:∀ i,i<ops.size→i≠e→listed.getD i false=true):e∈Region.ready md ops listed:=by
 rw[mem_ready];have hel:e<ops.size:=by have:=hok.he;omega
 refine⟨he,ops[e]'hel,Array.getElem?_eq_getElem hel,fun x hx hb => ?_⟩;have hlt:=hok.fwd e _ (Array.getElem?_eq_getElem hel) x hx hb;exact h x.on (by omega) (by omega)
theorem zuw {e:Nat}(hok:zgP md ops e):∀ (fuel:Nat) (listed:Array Bool) (a:Act) (w:World),listed.size=ops.size→listed.getD e true=false→Closed md ops listed →
  wpAny P md ops (zgz P ops Q e) fuel (listed.setIfInBounds e true) a w→wpAny P md ops Q (fuel+1) listed a w:=by
 intro fuel
 have fin:∀ (n:Nat) (listed:Array Bool) (a:Act) (w:World),Region.ready md ops (listed.setIfInBounds e true)=[]→zgz P ops Q e .normal a w→wpOp P ops Q e (wpAny P md ops Q n (listed.setIfInBounds e true)) a w:=by
  intro n listed a w hr h;refine wpOp_mono (fun a' w' h' => ?_) h;cases n with
  | zero=>exact⟨hr,h'⟩
  | succ n=>exact⟨fun _=>h',by rw[hr];simp⟩
 induction fuel with
 | zero =>
  intro listed a w hl he hc h;have hall:=zhH hok hl (fun i hi hr=>by have:=ready_mono hr hi;rw[h.1] at this;cases this);have hre:=zlQ hok he hall;refine⟨fun h0=>(by rw[h0] at hre;cases hre),fun i hi => ?_⟩
  by_cases hie:i=e
  ·subst hie;exact fin 0 listed a w h.1 h.2
  ·have:=ready_mono hi hie
   rw[h.1] at this;cases this
 | succ fuel ih =>
  intro listed a w hl he hc h;refine⟨fun h0 => ?_,fun i hi => ?_⟩
  ·have hre:=zlQ hok he (zhH hok hl (fun i _ hr=>by rw[h0] at hr;cases hr))
   rw[h0] at hre;cases hre
  ·by_cases hie:i=e
   ·subst hie
    have hr:=zwV hok hc hl hi;exact fin (fuel+1) listed a w hr (h.1 hr)
   ·have h1:=zpY (h.2 i (ready_mono hi hie))
    refine wpOp_mono (fun a' w' h' => ?_) h1;refine ih (listed.setIfInBounds i true) a' w' (by simpa using hl) (by rw[getD_set_ne true hie];exact he) (zuv hc hi) ?_;rw[Array.setIfInBounds_comm _ _ hie];exact h'
theorem znb {id e n:Nat}{a:Act}{w:World}(S:World→Prop)(hm:P.follows .mixedOrders=true)(hok:zoG .any ops e=true)(hn:ops.size=n+1)
  (h:wpAnyH P .any ops (zgz P ops Q e) S n ((Array.replicate ops.size false).setIfInBounds e true) a w.drew):(Code.region id ops true).wp P Q a w:=by
 refine wp_region_any hm ?_;rw[hn];have hs:=zrX hok;have h1:=zuw hs n (Array.replicate ops.size false) a w.drew (by simp) (by have:=hs.he;simp[this,show e<ops.size by omega]) (zrY _) (wpAny_of_held _ _ _ _ h);rw[hn] at h1;exact h1
end Go.Proofs.YtaogepcaoogpgaaGreatDoor
