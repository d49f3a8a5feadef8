/- WE12 WE17 WE89 WE90 WE94 WE96 -/
import Derived.Test.YtaogepcaoogpgaaGreatDoorKE13
import Derived.StillTailTactics
set_option linter.unusedVariables false
set_option linter.unusedSimpArgs false
set_option maxRecDepth 100000
set_option maxHeartbeats 16000000
namespace Go.Proofs.YtaogepcaoogpgaaGreatDoor
open Go.RowKit
open Go.Lib (nDigits decDigits)
def RVal (s:ByteArray)(b:Bool):Prop:=∀ w,Calls Tryz.prog 208 #[.string s] w fun e w'=>e = .returned (.bool b)∧w=w'
theorem zHf (neg:Bool)(num den:ByteArray)(w:World)(V:Hid (RVal num false)) :
  Calls Tryz.prog 188 #[.bool neg,.string num,.string den] w (zab (.tuple #[.string ⟨#[]⟩,.int .i64 1]) w):=by
 go_enter Tryz.func188,Tryz.ntmps188;go_wp2_with fail;refine(V.out _).mono ?_;rintro e w' ⟨rfl,rfl⟩;go_wp2
 go_ret2
 exact⟨rfl,zag _ _⟩
theorem zxq (m n:Nat)(w:World)(hm:nDigits m≤400)(hn:nDigits n≤400) :
  Calls Tryz.prog 139 #[.string (decS m),.string (decS n)] w (zab (.string (decS (m * n))) w):=by
 have d:=zcB hm hn;refine zuu _ _ _ w (zHd fun w => ?_);have:=zCS (decS m) (decS n) w (zaK m (by omega)) (zaK n (by omega));rw[zrM m n (by omega) (by omega) (by omega)] at this;exact this
theorem zAh (p q:Bool)(A B C:ByteArray)(w:World)(h:(p == q)=true)(AD:Hid (∀ w,Calls Tryz.prog 175 #[.string A,.string B] w (zab (.tuple #[.string C,.int .i64 0]) w))) :
  Calls Tryz.prog 138 #[.bool p,.string A,.bool q,.string B] w (zab (.tuple #[.bool p,.string C]) w):=by
 go_enter Tryz.func138,Tryz.ntmps138;go_wp2_with fail;refine(AD.out _).mono ?_;rintro e w1 ⟨rfl,hg⟩;have G1:=zHd hg;clear hg;go_wp2
 go_ret2
 exact⟨rfl,G1.out⟩
theorem zAi (p q:Bool)(A B C:ByteArray)(c:Int)(w:World)(h:(p == q)=false)(hc:0≤c)(CM:Hid (∀ w,Calls Tryz.prog 176 #[.string A,.string B] w (zli c w)))(SU:Hid (∀ w,Calls Tryz.prog 177 #[.string A,.string B] w (zab (.tuple #[.string C,.int .i64 0]) w))) :
  Calls Tryz.prog 138 #[.bool p,.string A,.bool q,.string B] w (zab (.tuple #[.bool p,.string C]) w):=by
 go_enter Tryz.func138,Tryz.ntmps138;go_wp2_with fail;refine(CM.out _).mono ?_;rintro e w1 ⟨rfl,hg⟩;have G1:=zHd hg;clear hg;go_wp2_with fail;refine(SU.out _).mono ?_;rintro e w2 ⟨rfl,hg⟩;have G2:=zHd (zaa G1.out hg);clear hg G1;go_wp2
 go_ret2
 exact⟨rfl,G2.out⟩
theorem zAj (p q:Bool)(A B C:ByteArray)(c:Int)(w:World)(h:(p == q)=false)(hc:¬ 0≤c)(CM:Hid (∀ w,Calls Tryz.prog 176 #[.string A,.string B] w (zli c w)))(SU:Hid (∀ w,Calls Tryz.prog 177 #[.string B,.string A] w (zab (.tuple #[.string C,.int .i64 0]) w))) :
  Calls Tryz.prog 138 #[.bool p,.string A,.bool q,.string B] w (zab (.tuple #[.bool q,.string C]) w):=by
 go_enter Tryz.func138,Tryz.ntmps138;go_wp2_with fail;refine(CM.out _).mono ?_;rintro e w1 ⟨rfl,hg⟩;have G1:=zHd hg;clear hg;go_wp2_with fail;refine(SU.out _).mono ?_;rintro e w2 ⟨rfl,hg⟩;have G2:=zHd (zaa G1.out hg);clear hg G1;go_wp2
 go_ret2
 exact⟨rfl,G2.out⟩
def sumR (p:Bool)(m:Nat)(q:Bool)(n:Nat):Bool × Nat:=if p == q then (p,m+n) else if m<n then (q,n - m) else (p,m - n)
theorem zFv (p:Bool)(m:Nat)(q:Bool)(n:Nat):sg (sumR p m q n).1 (sumR p m q n).2=sg p m+sg q n:=by
 unfold sumR
 by_cases h:p=q
 ·subst h;simp only[BEq.rfl,if_true];exact zvl p m n
 ·rw[if_neg (by simpa using h)]
  split
  ·rename_i hl;exact zvm p q m n h hl
  ·rename_i hl;exact zvn p q m n h hl
theorem zDl (p:Bool)(m:Nat)(q:Bool)(n:Nat)(w:World)(hm:nDigits m≤800)(hn:nDigits n≤800) :
  Calls Tryz.prog 138 #[.bool p,.string (decS m),.bool q,.string (decS n)] w (zab (.tuple #[.bool (sumR p m q n).1,.string (decS (sumR p m q n).2)]) w):=by
 unfold sumR;cases h:(p == q)
 ·simp only[Bool.false_eq_true,if_false]
  have cm:=fun w=>zCK (decS m) (decS n) w (zaK m (by omega)) (zaK n (by omega));rw[zle m n (by omega) (by omega)] at cm
  by_cases hl:m<n
  ·rw[if_pos hl]
   have su:=fun w=>zsf (decS n) (decS m) w (zaK n (by omega)) (zaK m (by omega));rw[zlf n m (by omega) (by omega) (by omega)] at su;exact zAj p q _ _ _ _ w h (by have:=(zdC m n).2 hl;omega) (zHd cm) (zHd su)
  ·rw[if_neg hl]
   have su:=fun w=>zsf (decS m) (decS n) w (zaK m (by omega)) (zaK n (by omega));rw[zlf m n (by omega) (by omega) (by omega)] at su;exact zAi p q _ _ _ _ w h (by have:=(zdC m n);omega) (zHd cm) (zHd su)
 ·simp only[if_true]
  have d:=zhR m n 800 hm hn;have ad:=fun w=>zCP (decS m) (decS n) w (zaK m (by omega)) (zaK n (by omega));rw[zrI _ _ (decS (m+n)) (zaM _ (by omega)) (zaM _ (by omega)) (zaM _ (by omega)) (by rw[zaD,zaD,zaD])] at ad;exact zAh p q _ _ _ w h (zHd ad)
def zfH (a:ByteArray)(p:Bool)(A B:ByteArray)(k:Bool):Prop:=∀ w,Calls Tryz.prog 137 #[.string a] w (zab (.tuple #[.bool p,.string A,.string B,.bool k]) w)
theorem zqd (a:ByteArray)(p:Bool)(A B:ByteArray)(k:Bool)(w:World)(R:Hid (zfH a p A B k)) :
  Calls Tryz.prog 88 #[.string a] w (zab (.bool k) w):=by
 go_enter Tryz.func88,Tryz.ntmps88;go_wp2_with fail;refine(R.out _).mono ?_;rintro e w1 ⟨rfl,hg⟩;have G1:=zHd hg;clear hg;go_wp2;go_ret;exact⟨rfl,G1.out⟩
theorem zAk (a b:ByteArray)(p q:Bool)(A B C D:ByteArray)(X Y c:ByteArray)(ng:Bool)(w:World)(R1:Hid (zfH a p A B true))(R2:Hid (zfH b q C D true))(T1:Hid (∀ w,Calls Tryz.prog 139 #[.string A,.string D] w (zab (.string X) w)))(T2:Hid (∀ w,Calls Tryz.prog 139 #[.string C,.string B] w (zab (.string Y) w)))(SM:Hid (∀ w,Calls Tryz.prog 138 #[.bool p,.string X,.bool (!q),.string Y] w (zab (.tuple #[.bool ng,.string c]) w)))(f:(c.toList == [48])=true) :
  Calls Tryz.prog 89 #[.string a,.string b] w (zab (.int .i64 0) w):=by
 go_enter Tryz.func89,Tryz.ntmps89;go_wp2_with fail;refine(R1.out _).mono ?_;rintro e w1 ⟨rfl,hg⟩;have G1:=zHd hg;clear hg;go_wp2_with fail;refine(R2.out _).mono ?_;rintro e w2 ⟨rfl,hg⟩;have G2:=zHd (zaa G1.out hg);clear hg G1;go_wp2_with fail;refine(T1.out _).mono ?_;rintro e w3 ⟨rfl,hg⟩;have G3:=zHd (zaa G2.out hg);clear hg G2;go_wp2_with fail;refine(T2.out _).mono ?_;rintro e w4 ⟨rfl,hg⟩;have G4:=zHd (zaa G3.out hg);clear hg G3;go_wp2_with fail;refine(SM.out _).mono ?_;rintro e w5 ⟨rfl,hg⟩;have G5:=zHd (zaa G4.out hg);clear hg G4;go_wp2;go_ret;exact⟨rfl,G5.out⟩
theorem zAl (a b:ByteArray)(p q:Bool)(A B C D:ByteArray)(X Y c:ByteArray)(ng:Bool)(w:World)(R1:Hid (zfH a p A B true))(R2:Hid (zfH b q C D true))(T1:Hid (∀ w,Calls Tryz.prog 139 #[.string A,.string D] w (zab (.string X) w)))(T2:Hid (∀ w,Calls Tryz.prog 139 #[.string C,.string B] w (zab (.string Y) w)))(SM:Hid (∀ w,Calls Tryz.prog 138 #[.bool p,.string X,.bool (!q),.string Y] w (zab (.tuple #[.bool ng,.string c]) w)))(f:(c.toList == [48])=false) :
  Calls Tryz.prog 89 #[.string a,.string b] w (zab (.int .i64 (if ng then -1 else 1)) w):=by
 cases ng
 all_goals
  go_enter Tryz.func89,Tryz.ntmps89;go_wp2_with fail;refine(R1.out _).mono ?_;rintro e w1 ⟨rfl,hg⟩;have G1:=zHd hg;clear hg;go_wp2_with fail;refine(R2.out _).mono ?_;rintro e w2 ⟨rfl,hg⟩;have G2:=zHd (zaa G1.out hg);clear hg G1;go_wp2_with fail;refine(T1.out _).mono ?_;rintro e w3 ⟨rfl,hg⟩;have G3:=zHd (zaa G2.out hg);clear hg G2;go_wp2_with fail;refine(T2.out _).mono ?_;rintro e w4 ⟨rfl,hg⟩;have G4:=zHd (zaa G3.out hg);clear hg G3;go_wp2_with fail;refine(SM.out _).mono ?_;rintro e w5 ⟨rfl,hg⟩;have G5:=zHd (zaa G4.out hg);clear hg G4;go_wp2;go_ret;exact⟨rfl,G5.out⟩
open Go.RowKit
open Go.Lib (nDigits decDigits)
theorem zeA {a:ByteArray}{x:Rat}(h:zax a x):zfH a (sgn x) (decS x.num.natAbs) (decS x.den) true:=fun w=>zxk h w
theorem zxr {a:ByteArray}(h:zcP a)(ha:a.size≤maxLen):zfH a false ⟨#[]⟩ ⟨#[]⟩ false:=fun w=>zAe h ha w
theorem zxs {a:ByteArray}{x:Rat}(h:zax a x)(w:World):Calls Tryz.prog 88 #[.string a] w (zab (.bool true) w):=zqd a _ _ _ _ w (zHd (zeA h))
theorem zAm {a:ByteArray}(h:zcP a)(ha:a.size≤maxLen)(w:World):Calls Tryz.prog 88 #[.string a] w (zab (.bool false) w):=zqd a _ _ _ _ w (zHd (zxr h ha))
theorem rtm (m n:Nat)(hm:nDigits m≤400)(hn:nDigits n≤400):Hid (∀ w,Calls Tryz.prog 139 #[.string (decS m),.string (decS n)] w (zab (.string (decS (m * n))) w)):=zHd fun w=>zxq m n w hm hn
theorem zGv (q:Bool)(n:Nat):sg (!q) n = - sg q n:=by cases q <;> simp[sg]
theorem zGw (x y:Rat):cmpQ x y=if (sumR (sgn x) (x.num.natAbs * y.den) (!sgn y) (y.num.natAbs * x.den)).2=0 then 0 else if (sumR (sgn x) (x.num.natAbs * y.den) (!sgn y) (y.num.natAbs * x.den)).1 then -1 else 1:=by
 have h:=zFv (sgn x) (x.num.natAbs * y.den) (!sgn y) (y.num.natAbs * x.den);rw[zGv,zld,zld,← zdf,← zdf] at h;generalize sumR (sgn x) (x.num.natAbs * y.den) (!sgn y) (y.num.natAbs * x.den)=r at *;obtain⟨ng,c⟩:=r;simp only at h ⊢;unfold cmpQ;simp only[Rat.lt_iff];generalize x.num * (y.den:Int)=u at *;generalize y.num * (x.den:Int)=v at *;unfold sg at h;cases ng <;> simp only[Bool.false_eq_true,if_false,if_true] at h ⊢
 all_goals
  split <;> (try split) <;> (try split) <;> omega
theorem zDm {a b:ByteArray}{x y:Rat}(ha:zax a x)(hb:zax b y)(w:World):Calls Tryz.prog 89 #[.string a,.string b] w (zab (.int .i64 (cmpQ x y)) w):=by
 have hx:=ha.short;have hy:=hb.short;have d1:=zcB hx.1 hy.2;have d2:=zcB hy.1 hx.2;have SM:=zHd fun w=>zDl (sgn x) (x.num.natAbs * y.den) (!sgn y) (y.num.natAbs * x.den) w d1 d2;have e:=zGw x y;have f:=(zero_str' (sumR (sgn x) (x.num.natAbs * y.den) (!sgn y) (y.num.natAbs * x.den)).2).1
 by_cases h0:(sumR (sgn x) (x.num.natAbs * y.den) (!sgn y) (y.num.natAbs * x.den)).2=0
 ·rw[if_pos h0] at e
  rw[e];exact zAk a b _ _ _ _ _ _ _ _ _ _ w (zHd (zeA ha)) (zHd (zeA hb)) (rtm _ _ hx.1 hy.2) (rtm _ _ hy.1 hx.2) SM (by rw[f];simpa using h0)
 ·rw[if_neg h0] at e
  rw[e];exact zAl a b _ _ _ _ _ _ _ _ _ _ w (zHd (zeA ha)) (zHd (zeA hb)) (rtm _ _ hx.1 hy.2) (rtm _ _ hy.1 hx.2) SM (by rw[f];simpa using h0)
open Go.RowKit
open Go.Lib (nDigits decDigits)
def RK (k:Int)(x:Bool):Prop:=∀ w,Calls Tryz.prog 45 #[.int .i64 k] w fun e w'=>e = .returned (.bool x)∧w=w'
theorem zGx (k:Int)(h1:1≤k)(h2:k≤3):RK k true:=fun w=>by
 go_enter Tryz.func45,Tryz.ntmps45;go_wp2;go_ret;exact⟨rfl,rfl⟩
theorem zGy (k:Int)(h1:¬ 1≤k):RK k false:=fun w=>by
 go_enter Tryz.func45,Tryz.ntmps45;go_wp2;go_ret;exact⟨rfl,rfl⟩
theorem zFw (k:Int)(h1:1≤k)(h2:¬ k≤3):RK k false:=fun w=>by
 go_enter Tryz.func45,Tryz.ntmps45;go_wp2;go_ret;exact⟨rfl,rfl⟩
theorem zpf {k:Int}(h:k=1∨k=2∨k=3):RK k true:=zGx k (by omega) (by omega)
theorem zvI {k:Int}(h:¬ (k=1∨k=2∨k=3)):RK k false:=by
 by_cases h1:1≤k
 ·exact zFw k h1 (by omega)
 ·exact zGy k h1
theorem zHg (k:Int):((k == 1)=true∧(k != 1)=false∧k=1)∨((k == 1)=false∧(k != 1)=true∧k≠1):=by
 by_cases h:k=1
 ·subst h;exact .inl ⟨rfl,rfl,rfl⟩
 ·exact .inr ⟨by simpa using h,by simpa using h,h⟩
def RatV (a:ByteArray)(x:Bool):Prop:=∀ w,Calls Tryz.prog 88 #[.string a] w (zab (.bool x) w)
def RatC (a b:ByteArray)(c:Int):Prop:=∀ w,Calls Tryz.prog 89 #[.string a,.string b] w (zab (.int .i64 c) w)
theorem zFx (k:Int)(a:ByteArray)(K:Hid (RK k false))(w:World):Calls Tryz.prog 46 #[.int .i64 k,.string a] w (zab (.bool false) w):=by
 go_enter Tryz.func46,Tryz.ntmps46;go_wp2_with fail;refine(K.out _).mono ?_;rintro e w' ⟨rfl,rfl⟩;go_wp2;go_ret;exact⟨rfl,zag _ _⟩
theorem zGz (k:Int)(a:ByteArray)(K:Hid (RK k true))(f1:(a.toList == [105,110,102])=true)(w:World):Calls Tryz.prog 46 #[.int .i64 k,.string a] w (zab (.bool true) w):=by
 go_enter Tryz.func46,Tryz.ntmps46;go_wp2_with fail;refine(K.out _).mono ?_;rintro e w' ⟨rfl,rfl⟩;go_wp2;go_ret;exact⟨rfl,zag _ _⟩
theorem zGB (k:Int)(a:ByteArray)(x:Bool)(K:Hid (RK k true))(f1:(a.toList == [105,110,102])=false)(f2:(a.toList == [45,105,110,102])=true)(k1:(k == 1)=x)(w:World):Calls Tryz.prog 46 #[.int .i64 k,.string a] w (zab (.bool x) w):=by
 go_enter Tryz.func46,Tryz.ntmps46;go_wp2_with fail;refine(K.out _).mono ?_;rintro e w' ⟨rfl,rfl⟩;go_wp2;go_ret;exact⟨rfl,zag _ _⟩
theorem zGC (k:Int)(a:ByteArray)(K:Hid (RK k true))(f1:(a.toList == [105,110,102])=false)(f2:(a.toList == [45,105,110,102])=false)(V:Hid (RatV a false))(w:World):Calls Tryz.prog 46 #[.int .i64 k,.string a] w (zab (.bool false) w):=by
 go_enter Tryz.func46,Tryz.ntmps46;go_wp2_with fail;refine(K.out _).mono ?_;rintro e w' ⟨rfl,rfl⟩;go_wp2_with fail;refine(V.out _).mono ?_;rintro e w1 ⟨rfl,hg⟩;have G1:=zHd (hg);clear hg;go_wp2;go_ret;exact⟨rfl,G1.out⟩
theorem zFy (k:Int)(a:ByteArray)(K:Hid (RK k true))(f1:(a.toList == [105,110,102])=false)(f2:(a.toList == [45,105,110,102])=false)(V:Hid (RatV a true))(k1:(k == 1)=true)(w:World):Calls Tryz.prog 46 #[.int .i64 k,.string a] w (zab (.bool true) w):=by
 go_enter Tryz.func46,Tryz.ntmps46;go_wp2_with fail;refine(K.out _).mono ?_;rintro e w' ⟨rfl,rfl⟩;go_wp2_with fail;refine(V.out _).mono ?_;rintro e w1 ⟨rfl,hg⟩;have G1:=zHd (hg);clear hg;go_wp2;go_ret;exact⟨rfl,G1.out⟩
theorem zGD (k:Int)(a:ByteArray)(c:Int)(K:Hid (RK k true))(f1:(a.toList == [105,110,102])=false)(f2:(a.toList == [45,105,110,102])=false)(V:Hid (RatV a true))(k1:(k == 1)=false)(C:Hid (RatC a ⟨#[48]⟩ c))(w:World):Calls Tryz.prog 46 #[.int .i64 k,.string a] w (zab (.bool (decide (0≤c))) w):=by
 go_enter Tryz.func46,Tryz.ntmps46;go_wp2_with fail;refine(K.out _).mono ?_;rintro e w' ⟨rfl,rfl⟩;go_wp2_with fail;refine(V.out _).mono ?_;rintro e w1 ⟨rfl,hg⟩;have G1:=zHd (hg);clear hg;go_wp2_with fail;refine(C.out _).mono ?_;rintro e w2 ⟨rfl,hg⟩;have G2:=zHd (zaa G1.out hg);clear hg G1;go_wp2;go_ret;exact⟨rfl,G2.out⟩
theorem zxt {a:ByteArray}(h:zfS a):(a.toList == [105,110,102])=false:=by rw[← ziO,zds];exact decide_eq_false (fun e=>h (.inl true) e)
theorem zxu {a:ByteArray}(h:zfS a):(a.toList == [45,105,110,102])=false:=by rw[← zmc,zds];exact decide_eq_false (fun e=>h (.inl false) e)
theorem zFz (k:Int)(hk:k=1∨k=2∨k=3)(x:Rat):hasE k (.inr x)=(decide (k=1) || decide (0≤x)):=by
 rcases hk with rfl|rfl|rfl <;> simp[hasE]
theorem zAn {k:Int}(hk:k=1∨k=2∨k=3){a:ByteArray}{v:Ext}(h:IsE a v):VB 46 k a (hasE k v):=fun w=>by
 have K:=zHd (zpf hk);have i:=zdh h;have j:=zlj h;rcases v with(_|_)|x
 ·refine zGB k a _ K i j ?_ w
  show(k == 1)=decide (k=1);rw[Bool.eq_iff_iff,beq_iff_eq,decide_eq_true_eq]
 ·have:=zGz k a K i w
  rw[show hasE k (.inl true)=true by rcases hk with rfl|rfl|rfl <;> rfl];exact this
 ·have V:=zHd (show RatV a true from fun w=>zxs h w)
  rw[zFz k hk];rcases zHg k with⟨k1,_,k2⟩|⟨k1,_,k2⟩
  ·rw[decide_eq_true k2]
   exact zFy k a K i j V k1 w
  ·rw[decide_eq_false k2,Bool.false_or]
   have C:=zHd (show RatC a ⟨#[48]⟩ (cmpQ x 0) from fun w=>zDm h ziK w);have z:0≤cmpQ x 0↔0≤x:=by rw[← Rat.not_lt,← zeL];omega
   rw[← decide_eq_decide.2 z];exact zGD k a _ K i j V k1 C w
theorem zGE {k:Int}{a:ByteArray}{v:Ext}(h:Val k a v):VB 46 k a true:=by
 have:=zAn h.kind h.e;rw[h.has] at this;exact this
theorem zHh {k:Int}{a:ByteArray}(h:zfQ k a)(ha:a.size≤maxLen):VB 46 k a false:=by
 by_cases hk:k=1∨k=2∨k=3
 ·rcases znm a with⟨v,hv⟩|hn
  ·have:=zAn hk hv
   rw[h v hv] at this;exact this
  ·exact fun w=>zGC k a (zHd (zpf hk)) (zxt hn) (zxu hn) (zHd fun w=>zAm hn.rat ha w) w
 ·exact fun w=>zFx k a (zHd (zvI hk)) w
theorem zAo {l m:List UInt8}(h:(l == m)=true):(l != m)=false:=by rw[bne,h];rfl
theorem zAp {l m:List UInt8}(h:(l == m)=false):(l != m)=true:=by rw[bne,h];rfl
open Go.RowKit
open Go.Lib (nDigits decDigits)
open Go.RowKit
section
variable {k:Int}
def solV (k:Int)(g o n c:Nat):Value := .agg #[.int .i64 k,.string (zaf k),.string (oneT k),.slice (some ⟨g,o,none⟩) n c]
def putF (hk:zad k)(A F:Nat→El k)(j:Nat):El k:=zaN (srE k hk) (fun j=>A (j+1)) (fun _=>A 0) (fun _=>F) 1 j
def zFA (hk:zad k)(m:Nat)(A F:Nat→El k):Prop:=zcL (srE k hk) FitE 1 m (fun j=>A (j+1)) (fun _=>A 0) (fun _=>F)
theorem zam.tail {w:World}{g o n:Nat}{L:Nat→Value}(h:zam w g o (n+1) L):zam w g (o+1) n (fun j=>L (j+1)) :=
 ⟨h.1,fun j hj=>by rw[Nat.add_assoc,Nat.add_comm 1 j];exact h.2 (j+1) (by omega)⟩
theorem zam.head {w:World}{g o n m:Nat}{L:Nat→Value}(h:zam w g o n L)(hm:m≤n):zam w g o m L:=⟨h.1,fun j hj=>h.2 j (by omega)⟩
theorem zpg (w:World)(u:Value)(T:TypeId):zam (w.alloc (.cells #[u] T)) w.heap.size 0 1 (fun _=>u):=by
 refine⟨by simp,fun j hj => ?_⟩;obtain rfl:j=0:=by omega
 exact zak w #[u] T rfl
theorem zuA (hk:zad k)(m g0 off c0 gs os cs:Nat)(A F:Nat→El k)(w:World)(hm0:1≤m)(hm:m≤10000)(hA:zam w g0 off (m+1) (txs A))(hc1:m+1≤c0)(hc2:c0≤maxLen)
  (hF:zam w gs os m (txs F)) (hs1:m≤cs) (hs2:cs≤maxLen) (hAf:∀ j,j<m+1→FitE (A j)) (hFf:∀ j,j<m→FitE (F j)) :
  Calls Tryz.prog 132 #[solV k gs os m cs,.slice (some ⟨g0,off,none⟩) (m+1) c0] w (zbn (zFA hk m A F) (fun v w'=>∃ g o c,v = .slice (some ⟨g,o,none⟩) m c∧m≤c∧c≤maxLen∧(g=g0∨w.heap.size≤g)∧zam w' g o m (txs (putF hk A F))) w):=by
 have hW:w.grownBy (w.alloc (.cells #[.int .i64 k,.string (zaf k),.string (oneT k),.slice (some ⟨gs,os,none⟩) m cs] 124)) none:=zGA _ _ none;have x0:=zak w #[.int .i64 k,.string (zaf k),.string (oneT k),.slice (some ⟨gs,os,none⟩) m cs] 124 (j:=0) rfl;have x1:=zak w #[.int .i64 k,.string (zaf k),.string (oneT k),.slice (some ⟨gs,os,none⟩) m cs] 124 (j:=1) rfl;have x2:=zak w #[.int .i64 k,.string (zaf k),.string (oneT k),.slice (some ⟨gs,os,none⟩) m cs] 124 (j:=2) rfl;have x3:=zak w #[.int .i64 k,.string (zaf k),.string (oneT k),.slice (some ⟨gs,os,none⟩) m cs] 124 (j:=3) rfl
 have hsum:=fun(Z:World) (hZ:w.grownBy Z none) (gz:Nat) (hz:zam Z gz 0 1 (fun _ => .slice (some ⟨gs,os,none⟩) m cs)) =>
  zmk hk 1 m g0 (off+1) (c0 - 1) (fun j=>A (j+1)) (fun _=>A 0) (fun _=>F) (.slice (some ⟨g0,off,none⟩) 1 c0) (.slice (some ⟨gz,0,none⟩) 1 1) (fun _ => .slice (some ⟨gs,os,none⟩) m cs) Z hm (by omega)
   ((hA.grown hZ).tail) (by omega) (by omega) (((hA.grown hZ).head (m:=1) (by omega)).row (by omega) hc2 |> fun h=>by
     obtain⟨Ad,cap,e,h1,h2,h3⟩:=h;refine⟨Ad,cap,e,h1,h2,fun j hj => ?_⟩;obtain rfl:j=0:=by omega
     exact h3 0 hj) (fun j hj=>hAf 0 (by omega)) (fun j hj=>hAf (j+1) (by omega)) (hz.row (Nat.le_refl _) (by unfold maxLen;omega)) (fun i hi=>(hF.grown hZ).row hs1 hs2) (fun i hi j hj=>hFf j hj)
 have HS:=zHd hsum;have HX:=zHd (zAI x0 (zAI x1 (zAI x2 (zAI x3 hW))));have i1:¬ (c0:Int)<1:=by omega
 have i2:(1:Int)≤(m:Int)+1:=by omega
 have i3:¬ c0=1:=by omega
 have i5:(1:Int)≤(c0:Int):=by omega
 have i6:1≤c0:=by omega
 have i7:(1:Int)≤((m+1:Nat):Int):=by omega
 have i8:((m+1:Nat):Int)≤(c0:Int):=by omega
 clear hsum x0 x1 x2 x3 hA hF hAf hFf hs1 hs2;unfold solV calV at *;go_enter Tryz.func132,Tryz.ntmps132;go_upto_region 1 with(fail)
 obtain⟨x0,x1,x2,x3,hW⟩:=HX.out;have hbs:w.heap.size<(w.alloc (.cells #[.int .i64 k,.string (zaf k),.string (oneT k),.slice (some ⟨gs,os,none⟩) m cs] 124)).heap.size:=by simp
 generalize w.alloc (.cells #[.int .i64 k,.string (zaf k),.string (oneT k),.slice (some ⟨gs,os,none⟩) m cs] 124)=W at *;have d0:W.drew.cell? ⟨w.heap.size,0,none⟩=some (.int .i64 k):=x0;have d1:W.drew.cell? ⟨w.heap.size,1,none⟩=some (.string (zaf k)):=x1;have d2:W.drew.cell? ⟨w.heap.size,2,none⟩=some (.string (oneT k)):=x2;have d3:W.drew.cell? ⟨w.heap.size,3,none⟩=some (.slice (some ⟨gs,os,none⟩) m cs):=x3;have hgz:w.grownBy ((W.alloc (.cells #[.slice (some ⟨gs,os,none⟩) m cs] 33)).drew) none:=zaa (zaa hW (zGA _ _ none)) (zae _ none);have hcall:=HS.out ((W.alloc (.cells #[.slice (some ⟨gs,os,none⟩) m cs] 33)).drew) hgz W.heap.size ((zpg W (.slice (some ⟨gs,os,none⟩) m cs) 33).grown (zae _ none));have hga:W.grownBy ((W.alloc (.cells #[.slice (some ⟨gs,os,none⟩) m cs] 33)).drew) none:=zaa (zGA _ _ none) (zae _ none);have z0:=hga.cell x0 (by simp);have z1:=hga.cell x1 (by simp);have z2:=hga.cell x2 (by simp);have z3:=hga.cell x3 (by simp);have HC:=zHd hcall;have HG:=zHd hgz;clear x0 x1 x2 x3 hW hcall hgz hga HS HX
 go_region_with (go_at_call 82;refine HC.out.mono ?_;rintro e w6 (⟨hp,v,rfl,⟨g,o,c,rfl,hc3,hc4,hgg,hrw⟩,hg6⟩|⟨hn,rfl,hg6⟩);rotate_left 1;(exact⟨rfl,.inr ⟨hn,rfl,zaa HG.out hg6⟩⟩);have HP6:=zHd (zAI hp (zAI hc3 (zAI hc4 (zAI hgg (zAI hrw hg6)))));clear hp hc3 hc4 hgg hrw hg6)
 all_goals
  go_wp2;go_ret;obtain⟨hp,hc3,hc4,hgg,hrw,hg6⟩:=HP6.out;refine .inl ⟨hp,_,rfl,⟨g,o,c,rfl,hc3,hc4,?_,hrw⟩,zaa HG.out hg6⟩;rcases hgg with h|h
  ·exact .inl h
  ·exact .inr (Nat.le_trans HG.out.size h)
end
open Go.RowKit
section
variable {k:Int}
def fstF (hk:zad k)(A:Nat→El k)(j:Nat):El k:=(srE k hk).mul ((srE k hk).star (A 0)) (A (j+1))
def zvJ (hk:zad k)(m:Nat)(A:Nat→El k):Prop:=FitE ((srE k hk).star (A 0))∧∀ j,j<m→FitE (fstF hk A j)
def solZ:Obj := .cells #[.int .i64 0,.string ⟨#[]⟩,.string ⟨#[]⟩,.slice none 0 0] 124
theorem zsN (hk:zad k)(m g0 off c0:Nat)(A:Nat→El k)(w:World)(hm0:1≤m)(hm:m≤10000)(hA:zam w g0 off (m+1) (txs A))(hc1:m+1≤c0)(hc2:c0≤maxLen)(hAf:∀ j,j<m+1→FitE (A j)) :
  Calls Tryz.prog 131 #[calV k,.slice (some ⟨g0,off,none⟩) (m+1) c0] w (zbn (zvJ hk m A) (fun v w'=>∃ g,v=solV k g 0 m m∧w.heap.size≤g∧zam w' g 0 m (txs (fstF hk A))) w):=by
 have hmf:∀ (fn:Fn) (first cap:Array Value) (w:World),(Instr.makeFunc fn first cap).run Tryz.prog w = .ok (.func fn first cap) w:=fun _ _ _ _=>rfl;have hst:=fun w'=>zAa hk (hAf 0 (by omega)) w'
 have hmap:=fun(hs:FitE ((srE k hk).star (A 0))) (w5:World) (h5:w.grownBy w5 none)=>zut 167 znC #[facV k (tx ((srE k hk).star (A 0)))] #[] m (txs (fun j=>A (j+1))) (fun j=>FitE (fstF hk A j)) (fun j=>tx (fstF hk A j)) (.slice (some ⟨g0,off+1,none⟩) m (c0 - 1)) w5 hm
  ((hA.grown h5).tail.row (by omega) (by omega)) (fun i hi w' _=>zkp hk hs (hAf (i+1) (by omega)) w')
 have hW:w.grownBy ((w.alloc (.cells #[.int .i64 k,.string (zaf k),.string (oneT k)] 64)).alloc solZ) none:=zaa (zGA _ _ none) (zGA _ _ none);have hW1:(w.alloc (.cells #[.int .i64 k,.string (zaf k),.string (oneT k)] 64)).grownBy ((w.alloc (.cells #[.int .i64 k,.string (zaf k),.string (oneT k)] 64)).alloc solZ) none:=zGA _ _ none;have x0:=hW1.cell (zak w #[.int .i64 k,.string (zaf k),.string (oneT k)] 64 (j:=0) rfl) (by simp);have x1:=hW1.cell (zak w #[.int .i64 k,.string (zaf k),.string (oneT k)] 64 (j:=1) rfl) (by simp);have x2:=hW1.cell (zak w #[.int .i64 k,.string (zaf k),.string (oneT k)] 64 (j:=2) rfl) (by simp)
 have xr:((w.alloc (.cells #[.int .i64 k,.string (zaf k),.string (oneT k)] 64)).alloc solZ).heap[w.heap.size+1]? = some solZ:=by
  have h:=zau (w.alloc (.cells #[.int .i64 k,.string (zaf k),.string (oneT k)] 64)) solZ;rw[show(w.alloc (.cells #[.int .i64 k,.string (zaf k),.string (oneT k)] 64)).heap.size=w.heap.size+1 by simp] at h;exact h
 have a0:w.cell? ⟨g0,off,none⟩=some (.string (tx (A 0))):=hA.2 0 (by omega);have xa:=hW.cell a0 (by simp);have i5:(1:Int)≤(c0:Int):=by omega
 have i6:1≤c0:=by omega
 have i7:(1:Int)≤((m+1:Nat):Int):=by omega
 have i8:((m+1:Nat):Int)≤(c0:Int):=by omega
 have i3:¬ c0=1:=by omega
 have i9:(0:Int)<((m+1:Nat):Int):=by omega
 have j1:(1:Int)≤(m:Int)+1:=by omega
 have j2:(m:Int)+1≤(c0:Int):=by omega
 have j3:(0:Int)≤(m:Int):=by omega
 have j4:m+1≤c0:=by omega
 have j5:1≤m+1:=by omega
 have j6:(0:Int)<(m:Int)+1:=by omega
 have hne1:¬ w.heap.size+1=g0:=by have:=hA.1;omega
 have hne2:¬ g0=w.heap.size+1:=by have:=hA.1;omega
 have HST:=zHd hst;have HM:=zHd hmap;have HX:=zHd (zAI x0 (zAI x1 (zAI x2 (zAI xr (zAI xa hW)))));clear hst hmap x0 x1 x2 xr xa hW hW1 a0 hA hAf;unfold calV at *;go_enter Tryz.func131,Tryz.ntmps131;go_upto_region 1 with(fail)
 obtain⟨x0,x1,x2,xr,xa,hW⟩:=HX.out;unfold solZ at x0 x1 x2 xr xa hW;generalize ((w.alloc (.cells #[.int .i64 k,.string (zaf k),.string (oneT k)] 64)).alloc (.cells #[.int .i64 0,.string ⟨#[]⟩,.string ⟨#[]⟩,.slice none 0 0] 124))=W at *;have d0:W.drew.cell? ⟨w.heap.size,0,none⟩=some (.int .i64 k):=x0;have d1:W.drew.cell? ⟨w.heap.size,1,none⟩=some (.string (zaf k)):=x1;have d2:W.drew.cell? ⟨w.heap.size,2,none⟩=some (.string (oneT k)):=x2;have da:W.drew.cell? ⟨g0,off,none⟩=some (.string (tx (A 0))):=xa;have hWd:w.grownBy W.drew none:=zaa hW (zae W none);have HG:=zHd hWd;have HXR:=zHd (show W.drew.heap[w.heap.size+1]? = _ from xr);clear x0 x1 x2 xr xa hW HX hWd
 go_region_held2 (fun W'=>W'.cell? ⟨w.heap.size,0,none⟩=some (.int .i64 k)∧W'.cell? ⟨w.heap.size,1,none⟩=some (.string (zaf k))∧W'.cell? ⟨w.heap.size,2,none⟩=some (.string (oneT k))∧W'.cell? ⟨g0,off,none⟩=some (.string (tx (A 0)))) (go_keep)
  (first
  | (go_at_call 166;refine(HST.out _).mono ?_;clear HST;rintro e w5 (⟨hp,rfl,hg5⟩|⟨hn,rfl,hg5⟩);rotate_left 1;(exact⟨rfl,.inr ⟨fun h=>hn h.1,rfl,zaa HG.out hg5⟩⟩);have s0:=hg5.cell d0 (by simp);have s1:=hg5.cell d1 (by simp);have s2:=hg5.cell d2 (by simp);have sa:=hg5.cell da (by simp);have H5:=zHd (zAI hp hg5);clear hg5 hp)
  | (go_at_call 165;refine(HM.out H5.out.1 w5 (zaa HG.out H5.out.2)).mono ?_;clear HM;rintro e w6 (⟨hp,v,rfl,⟨rfl,hr6⟩,hg6⟩|⟨hn,rfl,hg6⟩);rotate_left 1;(exact⟨rfl,.inr ⟨fun h=>hn h.2,rfl,zaa (zaa HG.out H5.out.2) hg6⟩⟩);have p0:=hg6.cell s0 (by simp);have p1:=hg6.cell s1 (by simp);have p2:=hg6.cell s2 (by simp);have pa:=hg6.cell sa (by simp);have hx6:=(hg6.block _ (by have:=(Array.getElem?_eq_some_iff.1 HXR.out).1;have:=H5.out.2.size;omega) (by simp)).trans ((H5.out.2.block _ (Array.getElem?_eq_some_iff.1 HXR.out).1 (by simp)).trans HXR.out);have q0:=cell_of_row w6 _ 0 _ _ (0,0) hx6;have q1:=cell_of_row w6 _ 1 _ _ (0,0) hx6;have q2:=cell_of_row w6 _ 2 _ _ (0,0) hx6;have q3:=cell_of_row w6 _ 3 _ _ (0,0) hx6;have z0:=frozen_of_row w6 _ 0 _ _ hx6;have z1:=frozen_of_row w6 _ 1 _ _ hx6;have z2:=frozen_of_row w6 _ 2 _ _ hx6;have z3:=frozen_of_row w6 _ 3 _ _ hx6;have H6:=zHd (zAI hp (zAI hr6 (zAI hg6 hx6)));clear hp hr6 hg6 hx6))
 all_goals
  go_wp2;obtain⟨hp,hr6,hg6,hx6⟩:=H6.out;have hgg:=zaa (zaa HG.out H5.out.2) hg6;refine bodyPost_ret (v:=solV k w5.heap.size 0 m m) ?_ rfl (.inl ⟨⟨H5.out.1,hp⟩,_,rfl,⟨w5.heap.size,rfl,Nat.le_trans HG.out.size H5.out.2.size,?_⟩,?_⟩)
  ·simp[results,Tryz.results131,go_sem,q0,q1,q2,q3,solV]
  ·have hne:w5.heap.size≠w.heap.size+1:=by have:=(Array.getElem?_eq_some_iff.1 HXR.out).1;have:=H5.out.2.size;omega
   exact(((hr6.grownB (zac _ _ _) hne).grownB (zac _ _ _) hne).grownB (zac _ _ _) hne).grownB (zac _ _ _) hne
  ·exact zai (zai (zai (zai hgg (zac _ _ _) (by show w.heap.size≤w.heap.size+1;omega)) (zac _ _ _) (by show w.heap.size≤w.heap.size+1;omega)) (zac _ _ _) (by show w.heap.size≤w.heap.size+1;omega)) (zac _ _ _) (by show w.heap.size≤w.heap.size+1;omega)
end
open Go.RowKit
section
variable {k:Int}
theorem zaq.other {T:TypeId}{z:Value}{n:Nat}{zs:List Value}{w wr:World}(h:zaq T z n zs w wr){g o:Nat}{u:Value}(hg:w.heap.size<g):zaq T z n zs w (wr.setCell ⟨g,o,none⟩ u) :=
 ⟨((zac wr ⟨g,o,none⟩ u).block _ (Array.getElem?_eq_some_iff.1 h.row).1 (by simp;omega)).trans h.row,zai h.gr (zac _ _ _) (by show w.heap.size≤g;omega),h.le⟩
theorem zDn (hk:zad k){w:World}{g n t:Nat}(h:w.heap[g]? = some (.cells (List.replicate n (.string (zaf k))).toArray 9 (0,0)))(ht:t<n) :
  zam (w.setCell ⟨g,t,none⟩ (.string (oneT k))) g 0 n (txs (idm (srE k hk) t)):=by
 have h2:=heap_setCell_same w g t _ _ (.string (oneT k)) h;refine⟨(Array.getElem?_eq_some_iff.1 h2).1,fun j hj => ?_⟩;rw[Nat.zero_add,cell_of_row _ g j _ _ (0,0) h2,List.setIfInBounds_toArray,List.getElem?_toArray,List.getElem?_set];unfold txs idm
 by_cases e:t=j
 ·subst e
  rw[if_pos rfl,if_pos (by simpa using hj),if_pos rfl,zny]
 ·rw[if_neg e,if_neg e,List.getElem?_replicate,if_pos hj,zdj]
def zja (hk:zad k)(H n:Nat)(zs:List Value)(wr:World):Prop :=
 ∀ i,i<zs.length→∃ gi,zs.getD i (.slice none 0 0) = .slice (some ⟨gi,0,none⟩) n n∧H<gi∧zam wr gi 0 n (txs (idm (srE k hk) i))
theorem zDo (hk:zad k)(n:Nat)(w:World)(hn:n≤10000) :
  Calls Tryz.prog 44 #[calV k,.int .i64 (n:Int)] w fun e w'=>∃ g zs,e = .returned (.slice (some ⟨g,0,none⟩) n n)∧w.heap.size≤g∧zs.length=n∧zam w' g 0 n (fun j=>zs.getD j (.slice none 0 0))∧zja hk g n zs w'∧w.grownBy w' none:=by
 obtain⟨i0,hi,hz0,hz1,hz2⟩:=info_parts zcF;have hz:=fun w'=>zeX k n w' hn;have HZ:=zHd hz;have HN:=zHd hn;clear hz hn;have n0:¬ (n:Int)<0:=by omega
 unfold calV at *;go_enter Tryz.func44,Tryz.ntmps44;have x0:=zak w #[.int .i64 k,.string (zaf k),.string (oneT k)] 64 (j:=0) rfl;have x1:=zak w #[.int .i64 k,.string (zaf k),.string (oneT k)] 64 (j:=1) rfl;have x2:=zak w #[.int .i64 k,.string (zaf k),.string (oneT k)] 64 (j:=2) rfl;have hsz:(w.alloc (.cells #[.int .i64 k,.string (zaf k),.string (oneT k)] 64)).heap.size=w.heap.size+1:=by simp
 go_wp2_with (at_make;refine wpList_make_full _ rfl _ _ 22 rfl (w.heap.size+1) 33 i0 (.slice none 0 0) 1 Tryz.underlying22 hi hz0 hz1 _ _ _ _ n rfl rfl ?c0 ?c1 ?c2 (by have:=HN.out;unfold maxLen;omega) (Nat.le_of_eq hsz.symm) ?_)
 case c0=>omega
 case c1=>omega
 case c2=>have:=HN.out;first|omega|(rw[hz2];omega)
 intro w1 hown hgr;have hW:w.grownBy (w.alloc (.cells #[.int .i64 k,.string (zaf k),.string (oneT k)] 64)) none:=zGA _ _ none;generalize w.alloc (.cells #[.int .i64 k,.string (zaf k),.string (oneT k)] 64)=W at *;have hfill:zaq 33 (.slice none 0 0) n [] W w1:=zaq.start (by rw[hsz];exact hown) hgr;have HFI:=zHd hfill;have HX:=zHd (zAI (show zca w1 w.heap.size k from⟨hgr.cell x0 (by simp),hgr.cell x1 (by simp),hgr.cell x2 (by simp)⟩) (zAI hsz hW));clear hown hgr x0 x1 x2 hfill hsz hW;go_wp2
 go_loopw [11] (fun iv wr=>∃ zs:List Value,iv = .int .i64 (zs.length:Int)∧zaq 33 (.slice none 0 0) n zs W wr∧zja hk W.heap.size n zs wr∧zca wr w.heap.size k) (fun iv _=>n - (intOf iv).toNat)
 case atStart=>exact⟨[],rfl,HFI.out,fun i hi=>absurd hi (by simp),HX.out.1⟩
 case round =>
  obtain⟨zs,rfl,hfill,hrows,hcal⟩:=hrel;obtain⟨t,hzt⟩:∃ t,zs.length=t:=⟨_,rfl⟩;have hle:=hfill.le
  by_cases ht:t<n
  ·have t1:decide (t<n)=true:=by simpa using ht
   have t1':decide ((t:Int)<(n:Int))=true:=by simpa using ht
   have hit:(t:Int)<(n:Int):=by omega
   have n1:IntKind.i64.wrap ((t:Int)+1)=(t:Int)+1:=by have:=HN.out;rw[IntKind.wrap_i64];omega
   obtain⟨y0,y1,y2⟩:=hcal;have HF:=zHd hfill;have HR:=zHd hrows;have HT:=zHd (zAI ht (zAI hzt hle));rw[hzt];clear hfill hrows ht hle hzt;go_wp2_with fail;refine(HZ.out _).mono ?_;rintro e w5 ⟨g,rfl,hgW,hrow,hg5⟩;obtain⟨ht,hzt,hle⟩:=HT.out;have hsz:=HX.out.2.1;have hWsz:W.heap.size<wr.heap.size:=(Array.getElem?_eq_some_iff.1 HF.out.row).1;have hf5:=HF.out.grown hg5;have q0:=hf5.cell (by rw[hzt];exact ht);have z0:=hf5.free t;rw[hzt,hsz] at q0;rw[hsz] at z0;have c2:=hg5.cell y2 (by simp);have c0:=hg5.cell y0 (by simp);have c1:=hg5.cell y1 (by simp);have hput:=hf5.put (by rw[hzt];exact ht) (.slice (some ⟨g,0,none⟩) n n);rw[hzt,hsz] at hput;have hgne:g≠w.heap.size+1:=by omega
   have hrow2:(w5.setCell ⟨w.heap.size+1,t,none⟩ (.slice (some ⟨g,0,none⟩) n n)).heap[g]? = some (.cells (List.replicate n (.string (zaf k))).toArray 9 (0,0)):=((zac w5 ⟨w.heap.size+1,t,none⟩ _).block g (Array.getElem?_eq_some_iff.1 hrow).1 (by simpa using hgne)).trans hrow;have HP:=zHd (zAI hput (zAI hrow2 (zAI hgW (zAI hg5 (zAI hWsz (zAI c0 (zAI c1 (zAI c2 hrow))))))));clear hput hrow2 hgW hg5 hWsz hf5 hrow y0 y1 y2 ht hzt hle;go_upto_region 6 with(fail)
   have a0:(w5.setCell ⟨w.heap.size+1,t,none⟩ (.slice (some ⟨g,0,none⟩) n n)).cell? ⟨w.heap.size+1,t,none⟩=some (.slice (some ⟨g,0,none⟩) n n):=by
    have hr:=HP.out.1.row;rw[hsz] at hr;rw[cell_of_row _ _ t _ _ (0,0) hr,List.getElem?_toArray,List.append_assoc,List.getElem?_append_right (by have:=HT.out.2.1;omega),HT.out.2.1,Nat.sub_self]
    rfl
   have b2:(w5.setCell ⟨w.heap.size+1,t,none⟩ (.slice (some ⟨g,0,none⟩) n n)).cell? ⟨w.heap.size,2,none⟩=some (.string (oneT k)):=zba (by omega) HP.out.2.2.2.2.2.2.2.1;have r0:=cell_of_row _ g t _ _ (0,0) HP.out.2.1;rw[List.getElem?_toArray,List.getElem?_replicate,if_pos HT.out.1] at r0;have f0:=frozen_of_row _ g t _ _ HP.out.2.1;have hgn:w.heap.size+1<g:=by have:=HP.out.2.2.1;have:=HP.out.2.2.2.2.1;omega
   have hCA:zca (w5.setCell ⟨w.heap.size+1,t,none⟩ (.slice (some ⟨g,0,none⟩) n n)) w.heap.size k:=⟨zba (by omega) HP.out.2.2.2.2.2.1,zba (by omega) HP.out.2.2.2.2.2.2.1,b2⟩
   have hU:zja hk W.heap.size n zs (w5.setCell ⟨w.heap.size+1,t,none⟩ (.slice (some ⟨g,0,none⟩) n n))∧∀ i,i<zs.length→∃ gi,zs.getD i (.slice none 0 0) = .slice (some ⟨gi,0,none⟩) n n∧gi<g:=by
    refine⟨fun i hi => ?_,fun i hi => ?_⟩
    ·obtain⟨gi,e1,e2,e3⟩:=HR.out i hi
     exact⟨gi,e1,e2,(e3.grown HP.out.2.2.2.1).grownB (zac _ _ _) (by show gi≠w.heap.size+1;omega)⟩
    ·obtain⟨gi,e1,e2,e3⟩:=HR.out i hi
     exact⟨gi,e1,by have:=e3.1;have:=HP.out.2.2.1;omega⟩
   have hput:=HP.out.1;have hrow2:=HP.out.2.1;generalize w5.setCell ⟨w.heap.size+1,t,none⟩ (.slice (some ⟨g,0,none⟩) n n)=V at *;have hne1:¬ w.heap.size=g:=by omega
   have hne2:¬ w.heap.size+1=g:=by omega
   have HV:=zHd (zAI hput (zAI hrow2 (zAI hgn (zAI hCA hU))));have d0:V.drew.cell? ⟨w.heap.size+1,t,none⟩=some (.slice (some ⟨g,0,none⟩) n n):=a0;have d2:V.drew.cell? ⟨w.heap.size,2,none⟩=some (.string (oneT k)):=b2;have dr:V.drew.cell? ⟨g,t,none⟩=some (.string (zaf k)):=r0;have df:V.drew.frozen? ⟨g,t,none⟩=false:=f0;have e0:=zba (w:=V.drew) (o:=t) (u := .string (oneT k)) hne2 d0;have e2:=zba (w:=V.drew) (o:=t) (u := .string (oneT k)) hne1 d2;clear hput hrow2 hgn hCA hU a0 b2 r0 f0 hgne
   go_region_held2 (fun W'=>W'.cell? ⟨w.heap.size+1,t,none⟩=some (.slice (some ⟨g,0,none⟩) n n)∧W'.cell? ⟨w.heap.size,2,none⟩=some (.string (oneT k))) (first|exact⟨d0,d2⟩|exact⟨e0,e2⟩|go_keep) (fail)
   all_goals
    go_wp2;obtain⟨hput,hrow2,hgn,hCA,hU1,hU2⟩:=HV.out;have hzt:=HT.out.2.1;have hsz2:W.heap.size=w.heap.size+1:=hsz;refine⟨⟨zs++[.slice (some ⟨g,0,none⟩) n n],by simp[hzt],(hput.grown (zae V none)).other (by omega),fun i hi => ?_,⟨zba hne1 hCA.1,zba hne1 hCA.2.1,zba hne1 hCA.2.2⟩⟩,by have:=HT.out.1;simp[intOf];omega⟩
    by_cases hil:i<zs.length
    ·obtain⟨gi,q1,q2,q3⟩:=hU1 i hil
     obtain⟨gj,p1,p2⟩:=hU2 i hil;rw[q1] at p1;have hgg:gi=gj:=by simpa using p1
     refine⟨gi,?_,q2,(q3.grown (zae V none)).grownB (zac _ _ _) (by show gi≠g;omega)⟩;rw[List.getD_eq_getElem?_getD,List.getElem?_append_left hil,← List.getD_eq_getElem?_getD];exact q1
    ·have hie:i=t:=by simp at hi;omega
     subst hie;refine⟨g,?_,by omega,zDn hk (w:=V.drew) hrow2 HT.out.1⟩;rw[List.getD_eq_getElem?_getD,List.getElem?_append_right (by omega),hzt,Nat.sub_self]
     rfl
  ·have hte:t=n:=by omega
   subst hte;have t1:decide (t<t)=false:=by simp
   have t1':decide ((t:Int)<(t:Int))=false:=by simp
   have HF:=zHd hfill;have HR:=zHd hrows;have HT:=zHd hzt;rw[hzt];clear hfill hrows ht hle hzt hcal;go_wp2;go_ret;have hsz:=HX.out.2.1;have hra:=HF.out.rowAt HT.out;rw[hsz] at hra;have hru:=HR.out;rw[hsz] at hru;exact⟨w.heap.size+1,zs,rfl,by omega,HT.out,hra,hru,zaa HX.out.2.2 HF.out.gr⟩
end
open Go.RowKit
theorem zxv (n t g:Nat)(L:Nat→Value)(a:ByteArray)(fv:Value)(w:World)(hn:t<n)(hf:RowR w fv n L)(h0:L t = .string a)(hi:w.cell? ⟨g,0,none⟩=some (.int .i64 (t:Int))) :
  Calls Tryz.prog 144 #[fv,.pointer (some ⟨g,0,none⟩)] w (zab (.string a) w):=by
 obtain⟨A,c,rfl,h1,h2,h3⟩:=hf;obtain⟨ad,rfl,hb,hc⟩:=h3 t hn;rw[h0] at hc;have i1:(t:Int)<(n:Int):=by omega
 have i2:¬ (n:Int)≤(t:Int):=by omega
 have i3:¬ (t:Int)<0:=by omega
 clear h3 hb;go_enter Tryz.func144,Tryz.ntmps144;go_wp2;go_ret;exact⟨rfl,World.grownBy.refl _ _⟩
theorem zqW:Enters 144:=enters_of Tryz.func144 (by kernel_rfl) rfl
def zsO (G:Nat→Nat→ByteArray)(H n:Nat)(zs:List Value)(wr:World):Prop :=
 ∀ t,t<zs.length→∃ g,zs.getD t (.slice none 0 0) = .slice (some ⟨g,0,none⟩) n n∧H<g∧zam wr g 0 n (fun i => .string (G i t))
theorem zph (n:Nat)(V:Nat→Value)(G:Nat→Nat→ByteArray)(lv:Value)(w:World)(hn:n≤10000)(hl:RowR w lv n V)(hrow:∀ i,i<n→RowR w (V i) n (fun j => .string (G i j))) :
  Calls Tryz.prog 99 #[lv] w (fun e w'=>∃ zs,e = .returned (.slice (some ⟨w.heap.size,0,none⟩) n n)∧zs.length=n∧zam w' w.heap.size 0 n (fun j=>zs.getD j (.slice none 0 0))∧zsO G w.heap.size n zs w'∧w.grownBy w' none):=by
 obtain⟨i0,hi,hz0,hz1,hz2⟩:=info_parts zcF
 have hm:∀ (t g:Nat) (w':World),t<n→w.grownBy w' none→w'.cell? ⟨g,0,none⟩=some (.int .i64 (t:Int))→Calls Tryz.prog 141 #[lv,.func (.func 144) #[] #[.pointer (some ⟨g,0,none⟩)]] w' (fun e w2=>e = .returned (.slice (some ⟨w'.heap.size,0,none⟩) n n)∧zam w2 w'.heap.size 0 n (fun i => .string (G i t))∧w'.grownBy w2 none):=by
  intro t g w' ht hg hc
  have h:=zjA 144 zqW #[] #[.pointer (some ⟨g,0,none⟩)] n V (fun _=>True) (fun i=>G i t) lv w' hn (hl.grown hg) (fun i hi w2 hg2=>by
   have h1:=zxv n t g _ (G i t) (V i) w2 ht (((hrow i hi).grown hg).grown hg2) rfl (hg2.cell hc (by simp));exact h1.mono (fun e w3 h3 => .inl ⟨trivial,h3⟩))
  refine h.mono (fun e w2 h2 => ?_);rcases h2 with⟨-,v,rfl,⟨rfl,hr⟩,hg2⟩|⟨hnp,-⟩
  ·exact⟨rfl,hr,hg2⟩
  ·exact absurd (fun _ _=>trivial) hnp
 obtain⟨A,c,rfl,hl1,hl2,-⟩:=hl;have HM:=zHd hm;have HN:=zHd hn;clear hm hn hrow hl1 hl2;have n0:¬ (n:Int)<0:=by omega
 go_enter Tryz.func99,Tryz.ntmps99;go_wp2_with (at_make;refine wpList_make_full _ rfl _ _ 22 rfl w.heap.size 33 i0 (.slice none 0 0) 1 Tryz.underlying22 hi hz0 hz1 _ _ _ _ n rfl rfl ?c0 ?c1 ?c2 (by have:=HN.out;unfold maxLen;omega) (Nat.le_refl _) ?_)
 case c0=>omega
 case c1=>omega
 case c2=>have:=HN.out;first|omega|(rw[hz2];omega)
 intro w1 hown hgr;have HFI:=zHd (zaq.start hown hgr);clear hown hgr;go_wp2
 go_loopw [10] (fun iv wr=>∃ zs:List Value,iv = .int .i64 (zs.length:Int)∧zaq 33 (.slice none 0 0) n zs w wr∧zsO G w.heap.size n zs wr) (fun iv _=>n - (intOf iv).toNat)
 case atStart=>exact⟨[],rfl,HFI.out,fun i hi=>absurd hi (by simp)⟩
 case round =>
  obtain⟨zs,rfl,hfill,hrows⟩:=hrel;obtain⟨t,hzt⟩:∃ t,zs.length=t:=⟨_,rfl⟩;have hle:=hfill.le
  by_cases ht:t<n
  ·have t1:decide (t<n)=true:=by simpa using ht
   have t1':decide ((t:Int)<(n:Int))=true:=by simpa using ht
   have hit:(t:Int)<(n:Int):=by omega
   have hit0:¬ (t:Int)<0:=by omega
   have n1:IntKind.i64.wrap ((t:Int)+1)=(t:Int)+1:=by have:=HN.out;rw[IntKind.wrap_i64];omega
   have hwr:w.heap.size<wr.heap.size:=(Array.getElem?_eq_some_iff.1 hfill.row).1;have HF:=zHd hfill;have HR:=zHd hrows;have HT:=zHd (zAI ht (zAI hzt (zAI hle hwr)));rw[hzt];clear hfill hrows ht hle hzt hwr;go_upto_region 5 with(fail)
   have c0:(wr.alloc (.cells #[.int .i64 (t:Int)] 3)).cell? ⟨wr.heap.size,0,none⟩=some (.int .i64 (t:Int)):=zak wr #[.int .i64 (t:Int)] 3 (j:=0) rfl;have hU:wr.grownBy (wr.alloc (.cells #[.int .i64 (t:Int)] 3)) none:=zGA _ _ none;generalize wr.alloc (.cells #[.int .i64 (t:Int)] 3)=U at *;have d0:U.drew.cell? ⟨wr.heap.size,0,none⟩=some (.int .i64 (t:Int)):=c0;have HG:=zHd (zaa hU (zae U none));have hne:¬ wr.heap.size=w.heap.size:=by have:=HT.out.2.2.2;omega
   clear hU
   go_region_held3 (fun W'=>W'.cell? ⟨wr.heap.size,0,none⟩=some (.int .i64 (t:Int))) (first|exact s1|go_keep)
    (first
     | (go_at_call 141;refine(HM.out t wr.heap.size _ HT.out.1 (zaa HF.out.gr HG.out) d0).mono ?_;rintro e w5 ⟨rfl,hr5,hg5⟩;have s0:=hg5.cell d0 (by simp);have s1:=zba (w:=w5) (o:=t) (u := .slice (some ⟨U.drew.heap.size,0,none⟩) n n) hne s0;have q0:=((HF.out.grown HG.out).grown hg5).cell (by rw[HT.out.2.1];exact HT.out.1);have z0:=((HF.out.grown HG.out).grown hg5).free t;rw[HT.out.2.1] at q0;have H5:=zHd (zAI hr5 hg5);clear hr5 hg5))
   all_goals
    go_wp2;have hsz:=HG.out.size;have hzt:=HT.out.2.1;have hws:=HT.out.2.2.2;have hgg:=zaa HG.out H5.out.2;have hput:=((HF.out.grown HG.out).grown H5.out.2).put (by rw[hzt];exact HT.out.1) (.slice (some ⟨U.drew.heap.size,0,none⟩) n n);rw[hzt] at hput;refine⟨⟨zs++[.slice (some ⟨U.drew.heap.size,0,none⟩) n n],by simp[hzt],hput,fun i hi => ?_⟩,by have:=HT.out.1;simp[intOf];omega⟩
    by_cases hil:i<zs.length
    ·obtain⟨gi,q1,q2,q3⟩:=HR.out i hil
     refine⟨gi,?_,q2,(q3.grown hgg).grownB (zac _ _ _) (by show gi≠w.heap.size;omega)⟩;rw[List.getD_eq_getElem?_getD,List.getElem?_append_left hil,← List.getD_eq_getElem?_getD];exact q1
    ·have hie:i=t:=by simp at hi;omega
     subst hie;refine⟨U.drew.heap.size,?_,by omega,H5.out.1.grownB (zac _ _ _) (by show U.drew.heap.size≠w.heap.size;omega)⟩;rw[List.getD_eq_getElem?_getD,List.getElem?_append_right (by omega),hzt,Nat.sub_self]
     rfl
  ·have hte:t=n:=by omega
   subst hte;have t1:decide (t<t)=false:=by simp
   have t1':decide ((t:Int)<(t:Int))=false:=by simp
   have HF:=zHd hfill;have HR:=zHd hrows;have HT:=zHd hzt;rw[hzt];clear hfill hrows ht hle hzt;go_wp2;go_ret;exact⟨zs,rfl,HT.out,HF.out.rowAt HT.out,HR.out,HF.out.gr⟩
end Go.Proofs.YtaogepcaoogpgaaGreatDoor
