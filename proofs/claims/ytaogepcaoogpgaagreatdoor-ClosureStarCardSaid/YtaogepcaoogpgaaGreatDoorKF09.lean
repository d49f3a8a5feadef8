/- Part. -/
import Derived.Test.YtaogepcaoogpgaaGreatDoorKF08
import Derived.Shelf.Spec.SlicesInsertGrow
set_option linter.unusedVariables false
set_option linter.unusedSimpArgs false
set_option maxRecDepth 100000
set_option maxHeartbeats 16000000
namespace Go.Proofs.YtaogepcaoogpgaaGreatDoor
open Go.RowKit
open Go.Lib (nDigits decDigits)
def RK (k:Int)(x:Bool):Prop:=∀ w,Calls Tryz.prog 45 #[.int .i64 k] w fun e w'=>e=.returned (.bool x)/\w=w'
theorem zKt (k:Int)(h1:1<=k)(h2:k<=3):RK k true:=fun w=>by
 go_enter Tryz.func45,Tryz.ntmps45;go_wp2;go_ret;exact⟨rfl,rfl⟩
theorem zKu (k:Int)(h1:¬ 1<=k):RK k false:=fun w=>by
 go_enter Tryz.func45,Tryz.ntmps45;go_wp2;go_ret;exact⟨rfl,rfl⟩
theorem zJk (k:Int)(h1:1<=k)(h2:¬ k<=3):RK k false:=fun w=>by
 go_enter Tryz.func45,Tryz.ntmps45;go_wp2;go_ret;exact⟨rfl,rfl⟩
theorem zhw {k:Int}(h:k=1∨k=2∨k=3):RK k true:=zKt k (by omega) (by omega)
theorem znB {k:Int}(h:¬ (k=1∨k=2∨k=3)):RK k false:=by
 by_cases h1:1<=k
 ·exact zJk k h1 (by omega)
 ·exact zKu k h1
theorem ztZ (k:Int):((k==1)=true/\(k != 1)=false/\k=1)∨((k==1)=false/\(k != 1)=true/\k≠1):=by
 by_cases h:k=1
 ·subst h;exact .inl ⟨rfl,rfl,rfl⟩
 ·exact .inr ⟨by simpa using h,by simpa using h,h⟩
def zAj (a:ByteArray)(x:Bool):Prop:=∀ w,Calls Tryz.prog 88 #[.string a] w (zab (.bool x) w)
def zGQ (a b:ByteArray)(c:Int):Prop:=∀ w,Calls Tryz.prog 89 #[.string a,.string b] w (zab (.int .i64 c) w)
theorem zJl (k:Int)(a:ByteArray)(K:Hid (RK k false))(w:World):Calls Tryz.prog 46 #[.int .i64 k,.string a] w (zab (.bool false) w):=by
 go_enter Tryz.func46,Tryz.ntmps46;go_wp2_with fail;refine(K.out _).mono ?_;rintro e w' ⟨rfl,rfl⟩;go_wp2;go_ret;exact⟨rfl,zaf _ _⟩
theorem zKv (k:Int)(a:ByteArray)(K:Hid (RK k true))(f1:(a.toList==[105,110,102])=true)(w:World):Calls Tryz.prog 46 #[.int .i64 k,.string a] w (zab (.bool true) w):=by
 go_enter Tryz.func46,Tryz.ntmps46;go_wp2_with fail;refine(K.out _).mono ?_;rintro e w' ⟨rfl,rfl⟩;go_wp2;go_ret;exact⟨rfl,zaf _ _⟩
theorem zKw (k:Int)(a:ByteArray)(x:Bool)(K:Hid (RK k true))(f1:(a.toList==[105,110,102])=false)(f2:(a.toList==[45,105,110,102])=true)(k1:(k==1)=x)(w:World):Calls Tryz.prog 46 #[.int .i64 k,.string a] w (zab (.bool x) w):=by
 go_enter Tryz.func46,Tryz.ntmps46;go_wp2_with fail;refine(K.out _).mono ?_;rintro e w' ⟨rfl,rfl⟩;go_wp2;go_ret;exact⟨rfl,zaf _ _⟩
theorem zKx (k:Int)(a:ByteArray)(K:Hid (RK k true))(f1:(a.toList==[105,110,102])=false)(f2:(a.toList==[45,105,110,102])=false)(V:Hid (zAj a false))(w:World):Calls Tryz.prog 46 #[.int .i64 k,.string a] w (zab (.bool false) w):=by
 go_enter Tryz.func46,Tryz.ntmps46;go_wp2_with fail;refine(K.out _).mono ?_;rintro e w' ⟨rfl,rfl⟩;go_wp2_with fail;refine(V.out _).mono ?_;rintro e w1 ⟨rfl,hg⟩;have G1:=zHd (hg);clear hg;go_wp2;go_ret;exact⟨rfl,G1.out⟩
theorem zJm (k:Int)(a:ByteArray)(K:Hid (RK k true))(f1:(a.toList==[105,110,102])=false)(f2:(a.toList==[45,105,110,102])=false)(V:Hid (zAj a true))(k1:(k==1)=true)(w:World):Calls Tryz.prog 46 #[.int .i64 k,.string a] w (zab (.bool true) w):=by
 go_enter Tryz.func46,Tryz.ntmps46;go_wp2_with fail;refine(K.out _).mono ?_;rintro e w' ⟨rfl,rfl⟩;go_wp2_with fail;refine(V.out _).mono ?_;rintro e w1 ⟨rfl,hg⟩;have G1:=zHd (hg);clear hg;go_wp2;go_ret;exact⟨rfl,G1.out⟩
theorem zKy (k:Int)(a:ByteArray)(c:Int)(K:Hid (RK k true))(f1:(a.toList==[105,110,102])=false)(f2:(a.toList==[45,105,110,102])=false)(V:Hid (zAj a true))(k1:(k==1)=false)(C:Hid (zGQ a ⟨#[48]⟩ c))(w:World):Calls Tryz.prog 46 #[.int .i64 k,.string a] w (zab (.bool (decide (0<=c))) w):=by
 go_enter Tryz.func46,Tryz.ntmps46;go_wp2_with fail;refine(K.out _).mono ?_;rintro e w' ⟨rfl,rfl⟩;go_wp2_with fail;refine(V.out _).mono ?_;rintro e w1 ⟨rfl,hg⟩;have G1:=zHd (hg);clear hg;go_wp2_with fail;refine(C.out _).mono ?_;rintro e w2 ⟨rfl,hg⟩;have G2:=zHd (zaa G1.out hg);clear hg G1;go_wp2;go_ret;exact⟨rfl,G2.out⟩
theorem zAk {a:ByteArray}(h:zhL a):(a.toList==[105,110,102])=false:=by rw[<- zkV,zek];exact zqcb (fun e=>h (.inl true) e)
theorem zAl {a:ByteArray}(h:zhL a):(a.toList==[45,105,110,102])=false:=by rw[<- zoq,zek];exact zqcb (fun e=>h (.inl false) e)
theorem zJn (k:Int)(hk:k=1∨k=2∨k=3)(x:Rat):zap k (.inr x)=(decide (k=1) || decide (0<=x)):=by
 rcases hk with rfl|rfl|rfl <;> simp[zap]
theorem zDw {k:Int}(hk:k=1∨k=2∨k=3){a:ByteArray}{v:Ext}(h:IsE a v):VB 46 k a (zap k v):=fun w=>by
 have K:=zHd (zhw hk);have i:=zck h;have j:=zfb h;rcases v with(_|_)|x
 ·refine zKw k a _ K i j ?_ w
  show(k==1)=decide (k=1);rw[Bool.eq_iff_iff,beq_iff_eq,zqca]
 ·have:=zKv k a K i w
  rw[show zap k (.inl true)=true by rcases hk with rfl|rfl|rfl <;> rfl];exact this
 ·have V:=zHd (show zAj a true from fun w=>zqb h w)
  rw[zJn k hk];rcases ztZ k with⟨k1,_,k2⟩|⟨k1,_,k2⟩
  ·rw[decide_eq_true k2]
   exact zJm k a K i j V k1 w
  ·rw[zqcb k2,Bool.false_or]
   have C:=zHd (show zGQ a ⟨#[48]⟩ (zcv x 0) from fun w=>zvi h zkO w);have z:0<=zcv x 0↔0<=x:=by rw[<- Rat.not_lt,<- zfo];omega
   rw[<- decide_eq_decide.2 z];exact zKy k a _ K i j V k1 C w
theorem zeY {k:Int}{a:ByteArray}{v:Ext}(h:Val k a v):VB 46 k a true:=by
 have:=zDw h.kind h.e;rw[h.has] at this;exact this
theorem zLb {k:Int}{a:ByteArray}(h:zpH k a)(ha:a.size<=maxLen):VB 46 k a false:=by
 by_cases hk:k=1∨k=2∨k=3
 ·rcases zpR a with⟨v,hv⟩|hn
  ·have:=zDw hk hv
   rw[h v hv] at this;exact this
  ·exact fun w=>zKx k a (zHd (zhw hk)) (zAk hn) (zAl hn) (zHd fun w=>zDh hn.rat ha w) w
 ·exact fun w=>zJl k a (zHd (znB hk)) w
theorem zDx {l m:List UInt8}(h:(l==m)=true):(l != m)=false:=by rw[bne,h];rfl
theorem zDy {l m:List UInt8}(h:(l==m)=false):(l != m)=true:=by rw[bne,h];rfl
theorem zAm (k:Int)(K:Hid (RK k false))(w:World):Calls Tryz.prog 47 #[.int .i64 k] w (zab (.string ⟨#[]⟩) w):=by
 go_enter Tryz.func47,Tryz.ntmps47;go_wp2_with fail;refine(K.out _).mono ?_;rintro e w' ⟨rfl,rfl⟩;go_wp2;go_ret;exact⟨rfl,zaf _ _⟩
theorem zAn (k:Int)(K:Hid (RK k true))(k1:(k==1)=true)(w:World):Calls Tryz.prog 47 #[.int .i64 k] w (zab (.string zcX) w):=by
 go_enter Tryz.func47,Tryz.ntmps47;go_wp2_with fail;refine(K.out _).mono ?_;rintro e w' ⟨rfl,rfl⟩;go_wp2;go_ret;exact⟨rfl,zaf _ _⟩
theorem zxq (k:Int)(K:Hid (RK k true))(k1:(k==1)=false)(w:World):Calls Tryz.prog 47 #[.int .i64 k] w (zab (.string zdu) w):=by
 go_enter Tryz.func47,Tryz.ntmps47;go_wp2_with fail;refine(K.out _).mono ?_;rintro e w' ⟨rfl,rfl⟩;go_wp2;go_ret;exact⟨rfl,zaf _ _⟩
theorem zdf (k:Int)(w:World):Calls Tryz.prog 47 #[.int .i64 k] w (zab (.string (zae k)) w):=by
 unfold zae
 by_cases hk:k=1∨k=2∨k=3
 ·rcases ztZ k with⟨k1,_,k2⟩|⟨k1,_,k2⟩
  ·rw[if_pos k2];exact zAn k (zHd (zhw hk)) k1 w
  ·rw[if_neg k2,if_pos (by rcases hk with h|h;exact absurd h k2;exact h)];exact zxq k (zHd (zhw hk)) k1 w
 ·rw[if_neg (fun h=>hk (.inl h)),if_neg (fun h=>hk (.inr h))]
  exact zAm k (zHd (znB hk)) w
theorem zDz (k:Int)(K:Hid (RK k false))(w:World):Calls Tryz.prog 92 #[.int .i64 k] w (zab (.string ⟨#[]⟩) w):=by
 go_enter Tryz.func92,Tryz.ntmps92;go_wp2_with fail;refine(K.out _).mono ?_;rintro e w' ⟨rfl,rfl⟩;go_wp2;go_ret;exact⟨rfl,zaf _ _⟩
theorem zDA (k:Int)(K:Hid (RK k true))(k1:(k==1)=true)(w:World):Calls Tryz.prog 92 #[.int .i64 k] w (zab (.string zdu) w):=by
 go_enter Tryz.func92,Tryz.ntmps92;go_wp2_with fail;refine(K.out _).mono ?_;rintro e w' ⟨rfl,rfl⟩;go_wp2;go_ret;exact⟨rfl,zaf _ _⟩
theorem zAo (k:Int)(K:Hid (RK k true))(k1:(k==1)=false)(w:World):Calls Tryz.prog 92 #[.int .i64 k] w (zab (.string zjR) w):=by
 go_enter Tryz.func92,Tryz.ntmps92;go_wp2_with fail;refine(K.out _).mono ?_;rintro e w' ⟨rfl,rfl⟩;go_wp2;go_ret;exact⟨rfl,zaf _ _⟩
theorem zoE (k:Int)(w:World):Calls Tryz.prog 92 #[.int .i64 k] w (zab (.string (zal k)) w):=by
 unfold zal
 by_cases hk:k=1∨k=2∨k=3
 ·rcases ztZ k with⟨k1,_,k2⟩|⟨k1,_,k2⟩
  ·rw[if_pos k2];exact zDA k (zHd (zhw hk)) k1 w
  ·rw[if_neg k2,if_pos (by rcases hk with h|h;exact absurd h k2;exact h)];exact zAo k (zHd (zhw hk)) k1 w
 ·rw[if_neg (fun h=>hk (.inl h)),if_neg (fun h=>hk (.inr h))]
  exact zDz k (zHd (znB hk)) w
theorem zJo (a b:ByteArray)(e1:(a.toList==b.toList)=true)(w:World):Calls Tryz.prog 179 #[.string a,.string b] w (zab (.int .i64 0) w):=by
 go_enter Tryz.func179,Tryz.ntmps179;go_wp2;go_ret;exact⟨rfl,zaf _ _⟩
theorem zDB (a b:ByteArray)(e1:(a.toList==b.toList)=false)(f:(a.toList==[45,105,110,102])=true)(w:World):Calls Tryz.prog 179 #[.string a,.string b] w (zab (.int .i64 (-1)) w):=by
 go_enter Tryz.func179,Tryz.ntmps179;go_wp2;go_ret;exact⟨rfl,zaf _ _⟩
theorem zGR (a b:ByteArray)(e1:(a.toList==b.toList)=false)(f:(a.toList==[45,105,110,102])=false)(g:(b.toList==[105,110,102])=true)(w:World):Calls Tryz.prog 179 #[.string a,.string b] w (zab (.int .i64 (-1)) w):=by
 go_enter Tryz.func179,Tryz.ntmps179;go_wp2;go_ret;exact⟨rfl,zaf _ _⟩
theorem zDC (a b:ByteArray)(e1:(a.toList==b.toList)=false)(f:(a.toList==[45,105,110,102])=false)(g:(b.toList==[105,110,102])=false)(h:(a.toList==[105,110,102])=true)(w:World):Calls Tryz.prog 179 #[.string a,.string b] w (zab (.int .i64 1) w):=by
 go_enter Tryz.func179,Tryz.ntmps179;go_wp2;go_ret;exact⟨rfl,zaf _ _⟩
theorem zGS (a b:ByteArray)(e1:(a.toList==b.toList)=false)(f:(a.toList==[45,105,110,102])=false)(g:(b.toList==[105,110,102])=false)(h:(a.toList==[105,110,102])=false)(i:(b.toList==[45,105,110,102])=true)(w:World):Calls Tryz.prog 179 #[.string a,.string b] w (zab (.int .i64 1) w):=by
 go_enter Tryz.func179,Tryz.ntmps179;go_wp2;go_ret;exact⟨rfl,zaf _ _⟩
theorem zKz (a b:ByteArray)(c:Int)(e1:(a.toList==b.toList)=false)(f:(a.toList==[45,105,110,102])=false)(g:(b.toList==[105,110,102])=false)(h:(a.toList==[105,110,102])=false)(i:(b.toList==[45,105,110,102])=false)(C:Hid (zGQ a b c))(w:World):Calls Tryz.prog 179 #[.string a,.string b] w (zab (.int .i64 c) w):=by
 go_enter Tryz.func179,Tryz.ntmps179;go_wp2_with fail;refine(C.out _).mono ?_;rintro e w1 ⟨rfl,hg⟩;have G1:=zHd (hg);clear hg;go_wp2;go_ret;exact⟨rfl,G1.out⟩
def zlj (a b:ByteArray)(c:Int):Prop:=∀ w,Calls Tryz.prog 179 #[.string a,.string b] w (zab (.int .i64 c) w)
theorem zmA {a b:ByteArray}{u v:Ext}(ha:IsE a u)(hb:IsE b v):zlj a b (zbs u v):=fun w=>by
 have e1:(a.toList==b.toList)=decide (u=v):=by rw[zek];exact zpQ ha hb
 by_cases h:u=v
 ·rw[decide_eq_true h] at e1
  rw[(zfp u v).2 h];exact zJo a b e1 w
 rw[zqcb h] at e1;have i:=zck ha;have j:=zfb ha;have m:=zck hb;have n:=zfb hb;rcases u with(_|_)|x <;> rcases v with(_|_)|y
 ·exact absurd rfl h
 ·exact zDB a b e1 j w
 ·exact zDB a b e1 j w
 ·exact zDC a b e1 j m i w
 ·exact absurd rfl h
 ·exact zDC a b e1 j m i w
 ·exact zGS a b e1 j m i n w
 ·exact zGR a b e1 j m w
 ·exact zKz a b _ e1 j m i n (zHd fun w=>zvi ha hb w) w
theorem zJp (k:Int)(a b:ByteArray)(c:Int)(X:Hid (VB 46 k a true))(Y:Hid (VB 46 k b true))(k1:(k==1)=true)(C:Hid (zlj a b c))(w:World):Calls Tryz.prog 148 #[.int .i64 k,.string a,.string b] w (zab (.int .i64 c) w):=by
 go_enter Tryz.func148,Tryz.ntmps148;go_wp2_with fail;refine(X.out _).mono ?_;rintro e w1 ⟨rfl,hg⟩;have G1:=zHd (hg);clear hg;go_wp2_with fail;refine(Y.out _).mono ?_;rintro e w2 ⟨rfl,hg⟩;have G2:=zHd (zaa G1.out hg);clear hg G1;go_wp2_with fail;refine(C.out _).mono ?_;rintro e w3 ⟨rfl,hg⟩;have G3:=zHd (zaa G2.out hg);clear hg G2;go_wp2;go_ret;exact⟨rfl,G3.out⟩
theorem zGT (k:Int)(a b:ByteArray)(c:Int)(X:Hid (VB 46 k a true))(Y:Hid (VB 46 k b true))(k1:(k==1)=false)(C:Hid (zlj b a c))(w:World):Calls Tryz.prog 148 #[.int .i64 k,.string a,.string b] w (zab (.int .i64 c) w):=by
 go_enter Tryz.func148,Tryz.ntmps148;go_wp2_with fail;refine(X.out _).mono ?_;rintro e w1 ⟨rfl,hg⟩;have G1:=zHd (hg);clear hg;go_wp2_with fail;refine(Y.out _).mono ?_;rintro e w2 ⟨rfl,hg⟩;have G2:=zHd (zaa G1.out hg);clear hg G1;go_wp2_with fail;refine(C.out _).mono ?_;rintro e w3 ⟨rfl,hg⟩;have G3:=zHd (zaa G2.out hg);clear hg G2;go_wp2;go_ret;exact⟨rfl,G3.out⟩
theorem zKA {k:Int}{a b:ByteArray}{u v:Ext}(ha:Val k a u)(hb:Val k b v):SOp 148 k a b (.int .i64 (zbT k u v)):=fun w=>by
 unfold zbT;rcases ztZ k with⟨k1,_,k2⟩|⟨k1,_,k2⟩
 ·rw[if_pos k2]
  exact zJp k a b _ (zHd (zeY ha)) (zHd (zeY hb)) k1 (zHd (zmA ha.e hb.e)) w
 ·rw[if_neg k2]
  exact zGT k a b _ (zHd (zeY ha)) (zHd (zeY hb)) k1 (zHd (zmA hb.e ha.e)) w
theorem zGU (k:Int)(a b:ByteArray)(c:Int)(X:Hid (VB 46 k a true))(Y:Hid (VB 46 k b true))(k1:(k==2)=false)(k2:(k != 2)=true)(B:Hid (SOp 148 k b a (.int .i64 c)))(h:c<0)(w:World):Calls Tryz.prog 104 #[.int .i64 k,.string a,.string b] w (zab (.tuple #[.string b,.int .i64 0]) w):=by
 go_enter Tryz.func104,Tryz.ntmps104;go_wp2_with fail;refine(X.out _).mono ?_;rintro e w1 ⟨rfl,hg⟩;have G1:=zHd (hg);clear hg;go_wp2_with fail;refine(Y.out _).mono ?_;rintro e w2 ⟨rfl,hg⟩;have G2:=zHd (zaa G1.out hg);clear hg G1;go_wp2_with fail;refine(B.out _).mono ?_;rintro e w3 ⟨rfl,hg⟩;have G3:=zHd (zaa G2.out hg);clear hg G2;go_wp2;go_ret2;exact⟨rfl,G3.out⟩
theorem zJq (k:Int)(a b:ByteArray)(c:Int)(X:Hid (VB 46 k a true))(Y:Hid (VB 46 k b true))(k1:(k==2)=false)(k2:(k != 2)=true)(B:Hid (SOp 148 k b a (.int .i64 c)))(h:¬ c<0)(w:World):Calls Tryz.prog 104 #[.int .i64 k,.string a,.string b] w (zab (.tuple #[.string a,.int .i64 0]) w):=by
 go_enter Tryz.func104,Tryz.ntmps104;go_wp2_with fail;refine(X.out _).mono ?_;rintro e w1 ⟨rfl,hg⟩;have G1:=zHd (hg);clear hg;go_wp2_with fail;refine(Y.out _).mono ?_;rintro e w2 ⟨rfl,hg⟩;have G2:=zHd (zaa G1.out hg);clear hg G1;go_wp2_with fail;refine(B.out _).mono ?_;rintro e w3 ⟨rfl,hg⟩;have G3:=zHd (zaa G2.out hg);clear hg G2;go_wp2;go_ret2;exact⟨rfl,G3.out⟩
theorem zJr (k:Int)(a b:ByteArray)(X:Hid (VB 46 k a true))(Y:Hid (VB 46 k b true))(k1:(k==2)=true)(k2:(k != 2)=false)(f:(a.toList==[105,110,102])=true)(w:World):Calls Tryz.prog 104 #[.int .i64 k,.string a,.string b] w (zab (.tuple #[.string zcX,.int .i64 0]) w):=by
 go_enter Tryz.func104,Tryz.ntmps104;go_wp2_with fail;refine(X.out _).mono ?_;rintro e w1 ⟨rfl,hg⟩;have G1:=zHd (hg);clear hg;go_wp2_with fail;refine(Y.out _).mono ?_;rintro e w2 ⟨rfl,hg⟩;have G2:=zHd (zaa G1.out hg);clear hg G1;go_wp2;go_ret2;exact⟨rfl,G2.out⟩
theorem zJs (k:Int)(a b:ByteArray)(X:Hid (VB 46 k a true))(Y:Hid (VB 46 k b true))(k1:(k==2)=true)(k2:(k != 2)=false)(f:(a.toList==[105,110,102])=false)(g:(b.toList==[105,110,102])=true)(w:World):Calls Tryz.prog 104 #[.int .i64 k,.string a,.string b] w (zab (.tuple #[.string zcX,.int .i64 0]) w):=by
 go_enter Tryz.func104,Tryz.ntmps104;go_wp2_with fail;refine(X.out _).mono ?_;rintro e w1 ⟨rfl,hg⟩;have G1:=zHd (hg);clear hg;go_wp2_with fail;refine(Y.out _).mono ?_;rintro e w2 ⟨rfl,hg⟩;have G2:=zHd (zaa G1.out hg);clear hg G1;go_wp2;go_ret2;exact⟨rfl,G2.out⟩
theorem zKB (k:Int)(a b S:ByteArray)(E:Int)(X:Hid (VB 46 k a true))(Y:Hid (VB 46 k b true))(k1:(k==2)=true)(k2:(k != 2)=false)(f:(a.toList==[105,110,102])=false)(g:(b.toList==[105,110,102])=false)(C:Hid (∀ w,Calls Tryz.prog 149 #[.string a,.string b] w (zab (.tuple #[.string S,.int .i64 E]) w)))(w:World):Calls Tryz.prog 104 #[.int .i64 k,.string a,.string b] w (zab (.tuple #[.string S,.int .i64 E]) w):=by
 go_enter Tryz.func104,Tryz.ntmps104;go_wp2_with fail;refine(X.out _).mono ?_;rintro e w1 ⟨rfl,hg⟩;have G1:=zHd (hg);clear hg;go_wp2_with fail;refine(Y.out _).mono ?_;rintro e w2 ⟨rfl,hg⟩;have G2:=zHd (zaa G1.out hg);clear hg G1;go_wp2_with fail;refine(C.out _).mono ?_;rintro e w3 ⟨rfl,hg⟩;have G3:=zHd (zaa G2.out hg);clear hg G2;go_wp2;go_ret2;exact⟨rfl,G3.out⟩
theorem zDD {k:Int}{a b:ByteArray}{u v:Ext}(ha:Val k a u)(hb:Val k b v):SOp 104 k a b (zbI (zcP k u v)):=fun w=>by
 have X:=zHd (zeY ha);have Y:=zHd (zeY hb);have B:=zHd (zKA hb ha)
 by_cases h2:k=2
 ·subst h2
  have i:=zck ha.e;have j:=zck hb.e;show Calls _ _ _ w (zab (zbI (zde u v)) w);rcases u with(_|_)|x
  ·cases ha.has
  ·exact zJr 2 a b X Y rfl rfl i w
  rcases v with(_|_)|y
  ·cases hb.has
  ·exact zJs 2 a b X Y rfl rfl i j w
  obtain⟨S,E,e⟩:=zbx (x+y);have C:=fun w=>zow ha.e hb.e w;show Calls _ _ _ w (zab (zcN (x+y)) w);rw[e] at C ⊢;exact zKB 2 a b S E X Y rfl rfl i j (zHd C) w
 ·have k1:(k==2)=false:=by simpa using h2
  have k2:(k != 2)=true:=by simpa using h2
  have main:zcP k u v=if zbT k v u<0 then v else u:=by
   rcases ha.kind with rfl|rfl|rfl
   ·rfl
   ·exact absurd rfl h2
   ·show zbN u v=if zbs u v<0 then v else u
    unfold zbN;have:=zeH u v
    by_cases q:zbs u v<0
    ·rw[if_pos q,if_pos (by omega)]
    ·rw[if_neg q,if_neg (by omega)]
  rw[main]
  by_cases q:zbT k v u<0
  ·rw[if_pos q,zgA hb.e]
   exact zGU k a b _ X Y k1 k2 B q w
  ·rw[if_neg q,zgA ha.e]
   exact zJq k a b _ X Y k1 k2 B q w
open Go.RowKit
open Go.Lib (nDigits decDigits)
theorem zmB (k:Int)(a b:ByteArray)(X:Hid (VB 46 k a true))(Y:Hid (VB 46 k b true))(O:Hid (∀ w,Calls Tryz.prog 47 #[.int .i64 k] w (zab (.string ⟨#[105,110,102]⟩) w)))(k1:(k==1)=true)(z1:(a.toList==[105,110,102])=true)(w:World):Calls Tryz.prog 106 #[.int .i64 k,.string a,.string b] w (zab (.tuple #[.string zcX,.int .i64 0]) w):=by
 go_enter Tryz.func106,Tryz.ntmps106;go_wp2_with fail;refine(X.out _).mono ?_;rintro e w1 ⟨rfl,hg⟩;have G1:=zHd (hg);clear hg;go_wp2_with fail;refine(Y.out _).mono ?_;rintro e w2 ⟨rfl,hg⟩;have G2:=zHd (zaa G1.out hg);clear hg G1;go_wp2_with fail;refine(O.out _).mono ?_;rintro e w3 ⟨rfl,hg⟩;have G3:=zHd (zaa G2.out hg);clear hg G2;go_wp2;go_ret2;exact⟨rfl,G3.out⟩
theorem zsN (k:Int)(a b:ByteArray)(X:Hid (VB 46 k a true))(Y:Hid (VB 46 k b true))(O:Hid (∀ w,Calls Tryz.prog 47 #[.int .i64 k] w (zab (.string ⟨#[105,110,102]⟩) w)))(k1:(k==1)=true)(z1:(a.toList==[105,110,102])=false)(z2:(b.toList==[105,110,102])=true)(w:World):Calls Tryz.prog 106 #[.int .i64 k,.string a,.string b] w (zab (.tuple #[.string zcX,.int .i64 0]) w):=by
 go_enter Tryz.func106,Tryz.ntmps106;go_wp2_with fail;refine(X.out _).mono ?_;rintro e w1 ⟨rfl,hg⟩;have G1:=zHd (hg);clear hg;go_wp2_with fail;refine(Y.out _).mono ?_;rintro e w2 ⟨rfl,hg⟩;have G2:=zHd (zaa G1.out hg);clear hg G1;go_wp2_with fail;refine(O.out _).mono ?_;rintro e w3 ⟨rfl,hg⟩;have G3:=zHd (zaa G2.out hg);clear hg G2;go_wp2;go_ret2;exact⟨rfl,G3.out⟩
theorem zsO (k:Int)(a b:ByteArray)(X:Hid (VB 46 k a true))(Y:Hid (VB 46 k b true))(O:Hid (∀ w,Calls Tryz.prog 47 #[.int .i64 k] w (zab (.string ⟨#[105,110,102]⟩) w)))(k1:(k==1)=true)(z1:(a.toList==[105,110,102])=false)(z2:(b.toList==[105,110,102])=false)(l1:(a.toList==[45,105,110,102])=true)(w:World):Calls Tryz.prog 106 #[.int .i64 k,.string a,.string b] w (zab (.tuple #[.string zgl,.int .i64 0]) w):=by
 go_enter Tryz.func106,Tryz.ntmps106;go_wp2_with fail;refine(X.out _).mono ?_;rintro e w1 ⟨rfl,hg⟩;have G1:=zHd (hg);clear hg;go_wp2_with fail;refine(Y.out _).mono ?_;rintro e w2 ⟨rfl,hg⟩;have G2:=zHd (zaa G1.out hg);clear hg G1;go_wp2_with fail;refine(O.out _).mono ?_;rintro e w3 ⟨rfl,hg⟩;have G3:=zHd (zaa G2.out hg);clear hg G2;go_wp2;go_ret2;exact⟨rfl,G3.out⟩
theorem zDE (k:Int)(a b:ByteArray)(X:Hid (VB 46 k a true))(Y:Hid (VB 46 k b true))(O:Hid (∀ w,Calls Tryz.prog 47 #[.int .i64 k] w (zab (.string ⟨#[105,110,102]⟩) w)))(k1:(k==1)=true)(z1:(a.toList==[105,110,102])=false)(z2:(b.toList==[105,110,102])=false)(l1:(a.toList==[45,105,110,102])=false)(l2:(b.toList==[45,105,110,102])=true)(w:World):Calls Tryz.prog 106 #[.int .i64 k,.string a,.string b] w (zab (.tuple #[.string zgl,.int .i64 0]) w):=by
 go_enter Tryz.func106,Tryz.ntmps106;go_wp2_with fail;refine(X.out _).mono ?_;rintro e w1 ⟨rfl,hg⟩;have G1:=zHd (hg);clear hg;go_wp2_with fail;refine(Y.out _).mono ?_;rintro e w2 ⟨rfl,hg⟩;have G2:=zHd (zaa G1.out hg);clear hg G1;go_wp2_with fail;refine(O.out _).mono ?_;rintro e w3 ⟨rfl,hg⟩;have G3:=zHd (zaa G2.out hg);clear hg G2;go_wp2;go_ret2;exact⟨rfl,G3.out⟩
theorem zGV (k:Int)(a b S:ByteArray)(E:Int)(X:Hid (VB 46 k a true))(Y:Hid (VB 46 k b true))(O:Hid (∀ w,Calls Tryz.prog 47 #[.int .i64 k] w (zab (.string ⟨#[105,110,102]⟩) w)))(k1:(k==1)=true)(z1:(a.toList==[105,110,102])=false)(z2:(b.toList==[105,110,102])=false)(l1:(a.toList==[45,105,110,102])=false)(l2:(b.toList==[45,105,110,102])=false)(C:Hid (∀ w,Calls Tryz.prog 149 #[.string a,.string b] w (zab (.tuple #[.string S,.int .i64 E]) w)))(w:World):Calls Tryz.prog 106 #[.int .i64 k,.string a,.string b] w (zab (.tuple #[.string S,.int .i64 E]) w):=by
 go_enter Tryz.func106,Tryz.ntmps106;go_wp2_with fail;refine(X.out _).mono ?_;rintro e w1 ⟨rfl,hg⟩;have G1:=zHd (hg);clear hg;go_wp2_with fail;refine(Y.out _).mono ?_;rintro e w2 ⟨rfl,hg⟩;have G2:=zHd (zaa G1.out hg);clear hg G1;go_wp2_with fail;refine(O.out _).mono ?_;rintro e w3 ⟨rfl,hg⟩;have G3:=zHd (zaa G2.out hg);clear hg G2;go_wp2_with fail;refine(C.out _).mono ?_;rintro e w4 ⟨rfl,hg⟩;have G4:=zHd (zaa G3.out hg);clear hg G3;go_wp2;go_ret2;exact⟨rfl,G4.out⟩
theorem zAp (k:Int)(a b:ByteArray)(X:Hid (VB 46 k a true))(Y:Hid (VB 46 k b true))(O:Hid (∀ w,Calls Tryz.prog 47 #[.int .i64 k] w (zab (.string ⟨#[48]⟩) w)))(k1:(k==1)=false)(z1:(a.toList==[48])=true)(w:World):Calls Tryz.prog 106 #[.int .i64 k,.string a,.string b] w (zab (.tuple #[.string zdu,.int .i64 0]) w):=by
 go_enter Tryz.func106,Tryz.ntmps106;go_wp2_with fail;refine(X.out _).mono ?_;rintro e w1 ⟨rfl,hg⟩;have G1:=zHd (hg);clear hg;go_wp2_with fail;refine(Y.out _).mono ?_;rintro e w2 ⟨rfl,hg⟩;have G2:=zHd (zaa G1.out hg);clear hg G1;go_wp2_with fail;refine(O.out _).mono ?_;rintro e w3 ⟨rfl,hg⟩;have G3:=zHd (zaa G2.out hg);clear hg G2;go_wp2;go_ret2;exact⟨rfl,G3.out⟩
theorem zAq (k:Int)(a b:ByteArray)(X:Hid (VB 46 k a true))(Y:Hid (VB 46 k b true))(O:Hid (∀ w,Calls Tryz.prog 47 #[.int .i64 k] w (zab (.string ⟨#[48]⟩) w)))(k1:(k==1)=false)(z1:(a.toList==[48])=false)(z2:(b.toList==[48])=true)(w:World):Calls Tryz.prog 106 #[.int .i64 k,.string a,.string b] w (zab (.tuple #[.string zdu,.int .i64 0]) w):=by
 go_enter Tryz.func106,Tryz.ntmps106;go_wp2_with fail;refine(X.out _).mono ?_;rintro e w1 ⟨rfl,hg⟩;have G1:=zHd (hg);clear hg;go_wp2_with fail;refine(Y.out _).mono ?_;rintro e w2 ⟨rfl,hg⟩;have G2:=zHd (zaa G1.out hg);clear hg G1;go_wp2_with fail;refine(O.out _).mono ?_;rintro e w3 ⟨rfl,hg⟩;have G3:=zHd (zaa G2.out hg);clear hg G2;go_wp2;go_ret2;exact⟨rfl,G3.out⟩
theorem zDF (k:Int)(a b:ByteArray)(X:Hid (VB 46 k a true))(Y:Hid (VB 46 k b true))(O:Hid (∀ w,Calls Tryz.prog 47 #[.int .i64 k] w (zab (.string ⟨#[48]⟩) w)))(k1:(k==1)=false)(z1:(a.toList==[48])=false)(z2:(b.toList==[48])=false)(i1:(a.toList==[105,110,102])=true)(w:World):Calls Tryz.prog 106 #[.int .i64 k,.string a,.string b] w (zab (.tuple #[.string zcX,.int .i64 0]) w):=by
 go_enter Tryz.func106,Tryz.ntmps106;go_wp2_with fail;refine(X.out _).mono ?_;rintro e w1 ⟨rfl,hg⟩;have G1:=zHd (hg);clear hg;go_wp2_with fail;refine(Y.out _).mono ?_;rintro e w2 ⟨rfl,hg⟩;have G2:=zHd (zaa G1.out hg);clear hg G1;go_wp2_with fail;refine(O.out _).mono ?_;rintro e w3 ⟨rfl,hg⟩;have G3:=zHd (zaa G2.out hg);clear hg G2;go_wp2;go_ret2;exact⟨rfl,G3.out⟩
theorem zDG (k:Int)(a b:ByteArray)(X:Hid (VB 46 k a true))(Y:Hid (VB 46 k b true))(O:Hid (∀ w,Calls Tryz.prog 47 #[.int .i64 k] w (zab (.string ⟨#[48]⟩) w)))(k1:(k==1)=false)(z1:(a.toList==[48])=false)(z2:(b.toList==[48])=false)(i1:(a.toList==[105,110,102])=false)(i2:(b.toList==[105,110,102])=true)(w:World):Calls Tryz.prog 106 #[.int .i64 k,.string a,.string b] w (zab (.tuple #[.string zcX,.int .i64 0]) w):=by
 go_enter Tryz.func106,Tryz.ntmps106;go_wp2_with fail;refine(X.out _).mono ?_;rintro e w1 ⟨rfl,hg⟩;have G1:=zHd (hg);clear hg;go_wp2_with fail;refine(Y.out _).mono ?_;rintro e w2 ⟨rfl,hg⟩;have G2:=zHd (zaa G1.out hg);clear hg G1;go_wp2_with fail;refine(O.out _).mono ?_;rintro e w3 ⟨rfl,hg⟩;have G3:=zHd (zaa G2.out hg);clear hg G2;go_wp2;go_ret2;exact⟨rfl,G3.out⟩
theorem zGW (k:Int)(a b S:ByteArray)(E:Int)(X:Hid (VB 46 k a true))(Y:Hid (VB 46 k b true))(O:Hid (∀ w,Calls Tryz.prog 47 #[.int .i64 k] w (zab (.string ⟨#[48]⟩) w)))(k1:(k==1)=false)(z1:(a.toList==[48])=false)(z2:(b.toList==[48])=false)(i1:(a.toList==[105,110,102])=false)(i2:(b.toList==[105,110,102])=false)(l1:(a.toList==[45,105,110,102])=false)(l2:(b.toList==[45,105,110,102])=false)(C:Hid (∀ w,Calls Tryz.prog 150 #[.string a,.string b] w (zab (.tuple #[.string S,.int .i64 E]) w)))(w:World):Calls Tryz.prog 106 #[.int .i64 k,.string a,.string b] w (zab (.tuple #[.string S,.int .i64 E]) w):=by
 go_enter Tryz.func106,Tryz.ntmps106;go_wp2_with fail;refine(X.out _).mono ?_;rintro e w1 ⟨rfl,hg⟩;have G1:=zHd (hg);clear hg;go_wp2_with fail;refine(Y.out _).mono ?_;rintro e w2 ⟨rfl,hg⟩;have G2:=zHd (zaa G1.out hg);clear hg G1;go_wp2_with fail;refine(O.out _).mono ?_;rintro e w3 ⟨rfl,hg⟩;have G3:=zHd (zaa G2.out hg);clear hg G2;go_wp2_with fail;refine(C.out _).mono ?_;rintro e w4 ⟨rfl,hg⟩;have G4:=zHd (zaa G3.out hg);clear hg G3;go_wp2;go_ret2;exact⟨rfl,G4.out⟩
theorem zsP {k:Int}(hk:k=2∨k=3){a b:ByteArray}{u v:Ext}(ha:Val k a u)(hb:Val k b v):SOp 106 k a b (zbI (zaK u v)):=fun w=>by
 have X:=zHd (zeY ha);have Y:=zHd (zeY hb)
 have O:Hid (∀ w,Calls Tryz.prog 47 #[.int .i64 k] w (zab (.string ⟨#[48]⟩) w)):=zHd fun w=>by
  have:=zdf k w;unfold zae at this;rw[if_neg (by omega),if_pos hk] at this;exact this
 have k1:(k==1)=false:=by
  have:k≠1:=by omega
  simpa using this
 have i:=zck ha.e;have j:=zck hb.e;have m:=zkW ha.e;have n:=zkW hb.e;have p:=zfb ha.e;have q:=zfb hb.e;have hu:zap 2 u=true:=by rcases hk with rfl|rfl;exact ha.has;rw[zcA];exact ha.has
 have hv:zap 2 v=true:=by rcases hk with rfl|rfl;exact hb.has;rw[zcA];exact hb.has
 unfold zaK
 by_cases zu:u=.inr 0
 ·rw[if_pos (.inl zu),zeroV]
  rw[(zeJ u).2 zu] at m;exact zAp k a b X Y O k1 m w
 have mu:isNil u=false:=by rw[<- Bool.not_eq_true,zeJ];exact zu
 rw[mu] at m
 by_cases zv:v=.inr 0
 ·rw[if_pos (.inr zv),zeroV]
  rw[(zeJ v).2 zv] at n;exact zAq k a b X Y O k1 m n w
 have mv:isNil v=false:=by rw[<- Bool.not_eq_true,zeJ];exact zv
 rw[mv] at n;rw[if_neg (fun h=>by rcases h with h|h;exact zu h;exact zv h)];rcases u with(_|_)|x
 ·cases hu
 ·exact zDF k a b X Y O k1 m n i w
 rcases v with(_|_)|y
 ·cases hv
 ·exact zDG k a b X Y O k1 m n i j w
 obtain⟨S,E,e⟩:=zbx (x*y);have C:=fun w=>zGE ha.e hb.e w;show Calls _ _ _ w (zab (zcN (x*y)) w);rw[e] at C ⊢;exact zGW k a b S E X Y O k1 m n i j p q (zHd C) w
theorem zDH {a b:ByteArray}{u v:Ext}(ha:Val 1 a u)(hb:Val 1 b v):SOp 106 1 a b (zbI (zci u v)):=fun w=>by
 have X:=zHd (zeY ha);have Y:=zHd (zeY hb);have O:Hid (∀ w,Calls Tryz.prog 47 #[.int .i64 1] w (zab (.string ⟨#[105,110,102]⟩) w)):=zHd fun w=>zdf 1 w;have i:=zck ha.e;have j:=zck hb.e;have p:=zfb ha.e;have q:=zfb hb.e;rcases u with(_|_)|x <;> rcases v with(_|_)|y
 ·exact zsO 1 a b X Y O rfl i j p w
 ·exact zsN 1 a b X Y O rfl i j w
 ·exact zsO 1 a b X Y O rfl i j p w
 ·exact zmB 1 a b X Y O rfl i w
 ·exact zmB 1 a b X Y O rfl i w
 ·exact zmB 1 a b X Y O rfl i w
 ·exact zDE 1 a b X Y O rfl i j p q w
 ·exact zsN 1 a b X Y O rfl i j w
 obtain⟨S,E,e⟩:=zbx (x+y);have C:=fun w=>zow ha.e hb.e w;show Calls _ _ _ w (zab (zcN (x+y)) w);rw[e] at C ⊢;exact zGV 1 a b S E X Y O rfl i j p q (zHd C) w
theorem zAr {k:Int}{a b:ByteArray}{u v:Ext}(ha:Val k a u)(hb:Val k b v):SOp 106 k a b (zbI (zbt k u v)):=by
 rcases ha.kind with rfl|rfl|rfl
 ·exact zDH ha hb
 ·exact zsP (.inl rfl) ha hb
 ·exact zsP (.inr rfl) ha hb
theorem zGX (k:Int)(a:ByteArray)(c:Int)(X:Hid (VB 46 k a true))(O:Hid (∀ w,Calls Tryz.prog 92 #[.int .i64 k] w (zab (.string ⟨#[48]⟩) w)))(k1:(k==1)=true)(C:Hid (zlj a ⟨#[48]⟩ c))(h:0<=c)(w:World):Calls Tryz.prog 140 #[.int .i64 k,.string a] w (zab (.tuple #[.string zdu,.int .i64 0]) w):=by
 go_enter Tryz.func140,Tryz.ntmps140;go_wp2_with fail;refine(X.out _).mono ?_;rintro e w1 ⟨rfl,hg⟩;have G1:=zHd (hg);clear hg;go_wp2_with fail;refine(O.out _).mono ?_;rintro e w2 ⟨rfl,hg⟩;have G2:=zHd (zaa G1.out hg);clear hg G1;go_wp2_with fail;refine(C.out _).mono ?_;rintro e w3 ⟨rfl,hg⟩;have G3:=zHd (zaa G2.out hg);clear hg G2;go_wp2;go_ret2;exact⟨rfl,G3.out⟩
theorem zGY (k:Int)(a:ByteArray)(c:Int)(X:Hid (VB 46 k a true))(O:Hid (∀ w,Calls Tryz.prog 92 #[.int .i64 k] w (zab (.string ⟨#[48]⟩) w)))(k1:(k==1)=true)(C:Hid (zlj a ⟨#[48]⟩ c))(h:¬ 0<=c)(w:World):Calls Tryz.prog 140 #[.int .i64 k,.string a] w (zab (.tuple #[.string zgl,.int .i64 0]) w):=by
 go_enter Tryz.func140,Tryz.ntmps140;go_wp2_with fail;refine(X.out _).mono ?_;rintro e w1 ⟨rfl,hg⟩;have G1:=zHd (hg);clear hg;go_wp2_with fail;refine(O.out _).mono ?_;rintro e w2 ⟨rfl,hg⟩;have G2:=zHd (zaa G1.out hg);clear hg G1;go_wp2_with fail;refine(C.out _).mono ?_;rintro e w3 ⟨rfl,hg⟩;have G3:=zHd (zaa G2.out hg);clear hg G2;go_wp2;go_ret2;exact⟨rfl,G3.out⟩
theorem zGZ (k:Int)(a:ByteArray)(c:Int)(X:Hid (VB 46 k a true))(O:Hid (∀ w,Calls Tryz.prog 92 #[.int .i64 k] w (zab (.string ⟨#[49]⟩) w)))(k1:(k==1)=false)(k3:(k==3)=true)(C:Hid (zlj a ⟨#[49]⟩ c))(h:c<=0)(w:World):Calls Tryz.prog 140 #[.int .i64 k,.string a] w (zab (.tuple #[.string zjR,.int .i64 0]) w):=by
 go_enter Tryz.func140,Tryz.ntmps140;go_wp2_with fail;refine(X.out _).mono ?_;rintro e w1 ⟨rfl,hg⟩;have G1:=zHd (hg);clear hg;go_wp2_with fail;refine(O.out _).mono ?_;rintro e w2 ⟨rfl,hg⟩;have G2:=zHd (zaa G1.out hg);clear hg G1;go_wp2_with fail;refine(C.out _).mono ?_;rintro e w3 ⟨rfl,hg⟩;have G3:=zHd (zaa G2.out hg);clear hg G2;go_wp2;go_ret2;exact⟨rfl,G3.out⟩
theorem zHa (k:Int)(a:ByteArray)(c:Int)(X:Hid (VB 46 k a true))(O:Hid (∀ w,Calls Tryz.prog 92 #[.int .i64 k] w (zab (.string ⟨#[49]⟩) w)))(k1:(k==1)=false)(k3:(k==3)=true)(C:Hid (zlj a ⟨#[49]⟩ c))(h:¬ c<=0)(w:World):Calls Tryz.prog 140 #[.int .i64 k,.string a] w (zab (.tuple #[.string zcX,.int .i64 0]) w):=by
 go_enter Tryz.func140,Tryz.ntmps140;go_wp2_with fail;refine(X.out _).mono ?_;rintro e w1 ⟨rfl,hg⟩;have G1:=zHd (hg);clear hg;go_wp2_with fail;refine(O.out _).mono ?_;rintro e w2 ⟨rfl,hg⟩;have G2:=zHd (zaa G1.out hg);clear hg G1;go_wp2_with fail;refine(C.out _).mono ?_;rintro e w3 ⟨rfl,hg⟩;have G3:=zHd (zaa G2.out hg);clear hg G2;go_wp2;go_ret2;exact⟨rfl,G3.out⟩
theorem zvx (k:Int)(a:ByteArray)(c:Int)(X:Hid (VB 46 k a true))(O:Hid (∀ w,Calls Tryz.prog 92 #[.int .i64 k] w (zab (.string ⟨#[49]⟩) w)))(k1:(k==1)=false)(k3:(k==3)=false)(C:Hid (zlj a ⟨#[49]⟩ c))(h:0<=c)(w:World):Calls Tryz.prog 140 #[.int .i64 k,.string a] w (zab (.tuple #[.string zcX,.int .i64 0]) w):=by
 go_enter Tryz.func140,Tryz.ntmps140;go_wp2_with fail;refine(X.out _).mono ?_;rintro e w1 ⟨rfl,hg⟩;have G1:=zHd (hg);clear hg;go_wp2_with fail;refine(O.out _).mono ?_;rintro e w2 ⟨rfl,hg⟩;have G2:=zHd (zaa G1.out hg);clear hg G1;go_wp2_with fail;refine(C.out _).mono ?_;rintro e w3 ⟨rfl,hg⟩;have G3:=zHd (zaa G2.out hg);clear hg G2;go_wp2;go_ret2;exact⟨rfl,G3.out⟩
theorem zHb (k:Int)(a D S:ByteArray)(c E:Int)(X:Hid (VB 46 k a true))(O:Hid (∀ w,Calls Tryz.prog 92 #[.int .i64 k] w (zab (.string ⟨#[49]⟩) w)))(k1:(k==1)=false)(k3:(k==3)=false)(C:Hid (zlj a ⟨#[49]⟩ c))(h:¬ 0<=c)(M:Hid (∀ w,Calls Tryz.prog 180 #[.string ⟨#[49]⟩,.string a] w (zab (.tuple #[.string D,.int .i64 0]) w)))(N:Hid (∀ w,Calls Tryz.prog 181 #[.string ⟨#[49]⟩,.string D] w (zab (.tuple #[.string S,.int .i64 E]) w)))(w:World):Calls Tryz.prog 140 #[.int .i64 k,.string a] w (zab (.tuple #[.string S,.int .i64 E]) w):=by
 go_enter Tryz.func140,Tryz.ntmps140;go_wp2_with fail;refine(X.out _).mono ?_;rintro e w1 ⟨rfl,hg⟩;have G1:=zHd (hg);clear hg;go_wp2_with fail;refine(O.out _).mono ?_;rintro e w2 ⟨rfl,hg⟩;have G2:=zHd (zaa G1.out hg);clear hg G1;go_wp2_with fail;refine(C.out _).mono ?_;rintro e w3 ⟨rfl,hg⟩;have G3:=zHd (zaa G2.out hg);clear hg G2;go_wp2_with fail;refine(M.out _).mono ?_;rintro e w4 ⟨rfl,hg⟩;have G4:=zHd (zaa G3.out hg);clear hg G3;go_wp2_with fail;refine(N.out _).mono ?_;rintro e w5 ⟨rfl,hg⟩;have G5:=zHd (zaa G4.out hg);clear hg G4;go_wp2;go_ret2;exact⟨rfl,G5.out⟩
theorem zvy {k:Int}(hk:k=2∨k=3):Hid (∀ w,Calls Tryz.prog 92 #[.int .i64 k] w (zab (.string ⟨#[49]⟩) w)):=zHd fun w=>by
 have:=zoE k w;unfold zal at this;rw[if_neg (by omega),if_pos hk] at this;exact this
theorem zDI {k:Int}{a:ByteArray}{u:Ext}(ha:Val k a u):zGI 140 k a (zbI (zdv k u)):=fun w=>by
 have X:=zHd (zeY ha);rcases ha.kind with rfl|rfl|rfl
 ·have C:=zHd (zmA ha.e znv)
  show Calls _ _ _ w (zab (zbI (if zbs u (.inr 0)<0 then .inl false else .inr 0)) w);have O:Hid (∀ w,Calls Tryz.prog 92 #[.int .i64 1] w (zab (.string ⟨#[48]⟩) w)):=zHd fun w=>zoE 1 w
  by_cases h:zbs u (.inr 0)<0
  ·rw[if_pos h]
   exact zGY 1 a _ X O rfl C (by omega) w
  ·rw[if_neg h,zeroV]
   exact zGX 1 a _ X O rfl C (by omega) w
 ·have C:=zHd (zmA ha.e zhp)
  have O:=zvy (k:=2) (.inl rfl);rcases zaA u ha.has with rfl|⟨x,rfl,hx⟩
  ·exact zvx 2 a _ X O rfl rfl C (by decide) w
  show Calls _ _ _ w (zab (zbI (if x<1 then .inr (1/(1-x)) else .inl true)) w)
  have z:0<=zbs (.inr x) (.inr 1)↔¬ x<1:=by
   show 0<=zcv x 1↔_;rw[<- zfo];omega
  by_cases h:x<1
  ·rw[if_pos h]
   have hs:=zpI hx (Rat.le_of_lt h) (show zbp x from zaw.short ha.e);have hR:zaw (zes (1-x)) (1-x):=⟨hs,rfl⟩;obtain⟨S,E,e⟩:=zbx (1/(1-x));show Calls _ _ _ w (zab (zcN (1/(1-x))) w);have M:=fun w=>zGH zhp ha.e w;have N:=fun w=>zGF zhp hR (zrf h) w;rw[zhj hR] at M;rw[e] at N ⊢;exact zHb 2 a _ S _ E X O rfl rfl C (fun q=>z.1 q h) (zHd M) (zHd N) w
  ·rw[if_neg h]
   exact zvx 2 a _ X O rfl rfl C (z.2 h) w
 ·have C:=zHd (zmA ha.e zhp)
  have O:=zvy (k:=3) (.inr rfl);show Calls _ _ _ w (zab (zbI (if 0<zbs u (.inr 1) then .inl true else .inr 1)) w)
  by_cases h:0<zbs u (.inr 1)
  ·rw[if_pos h]
   exact zHa 3 a _ X O rfl rfl C (by omega) w
  ·rw[if_neg h,oneV]
   exact zGZ 3 a _ X O rfl rfl C (by omega) w
open Go.RowKit
structure zaN where
 i:Int
 o:Int
 w:ByteArray
 t:Int
deriving DecidableEq
structure zai where
 fin:ByteArray
 arcs:List zaN
deriving DecidableEq
structure zak where
 kind:Int
 start:Int
 lead:ByteArray
 states:List zai
deriving DecidableEq
theorem flat_get {α β:Type}(f:α->List β)(n:Nat)(hn:∀ a,(f a).length=n):∀ (l:List α) (k j:Nat) (a:α),l[k]?=some a->j<n->(l.flatMap f)[k*n+j]?=(f a)[j]?
 | [],k,j,a,h,_=>by simp at h
 | x::l,0,j,a,h,hj=>by
  simp only[List.getElem?_cons_zero,Option.some.injEq] at h;subst h;rw[List.flatMap_cons,Nat.zero_mul,zqat,zqal (by rw[hn];exact hj)]
 | x::l,k+1,j,a,h,hj=>by
  rw[List.getElem?_cons_succ] at h;rw[List.flatMap_cons,zqaq (by rw[hn,Nat.succ_mul];omega),hn,show(k+1)*n+j-n=k*n+j by rw[Nat.succ_mul];omega];exact flat_get f n hn l k j a h hj
def zeB (a:zaN):List Value:=[.int .i64 a.i,.int .i64 a.o,.string a.w,.int .i64 a.t]
def stC (p:zai×Value):List Value:=[.string p.1.fin,p.2]
theorem zlk (a:zaN):(zeB a).length=4:=rfl
theorem zfR (p:zai×Value):(stC p).length=2:=rfl
def zdr (w:World)(v:Value)(l:List zaN):Prop:=∃ A cap,v=.slice A l.length cap/\Reads w w.heap.size 4 A l.length (l.flatMap zeB)
def zoF (w:World)(v:Value)(l:List zai):Prop:=∃ A cap us,v=.slice A l.length cap/\us.length=l.length/\Reads w w.heap.size 2 A l.length ((l.zip us).flatMap stC)/\∀ (k:Nat) (s:zai) (u:Value),l[k]?=some s->us[k]?=some u->zdr w u s.arcs
def zdo (w:World)(v:Value)(m:zak):Prop:=∃ u,v=.agg #[.int .i64 m.kind,.int .i64 m.start,.string m.lead,u]/\zoF w u m.states
theorem zdr.below {w w':World}{v:Value}{l:List zaN}(h:zdr w v l)(hb:Below w.heap.size w w'):zdr w' v l:=by
 obtain⟨A,cap,hv,hr⟩:=h;exact⟨A,cap,hv,(hr.below hb).more hb.size⟩
theorem zoF.below {w w':World}{v:Value}{l:List zai}(h:zoF w v l)(hb:Below w.heap.size w w'):zoF w' v l:=by
 obtain⟨A,cap,us,hv,hl,hr,ha⟩:=h;exact⟨A,cap,us,hv,hl,(hr.below hb).more hb.size,fun k s u hs hu=>(ha k s u hs hu).below hb⟩
theorem zdo.below {w w':World}{v:Value}{m:zak}(h:zdo w v m)(hb:Below w.heap.size w w'):zdo w' v m:=by
 obtain⟨u,hv,hs⟩:=h;exact⟨u,hv,hs.below hb⟩
theorem zdr.nil (w:World):zdr w (.slice none 0 0) []:=⟨none,0,rfl,Reads.none_⟩
theorem zDJ (ad:Addr)(n j:Nat)(hj:0<j):ad.add (n+j) = { block:=(ad.add n).block,off:=(ad.add n).off+j,spot:=none }:=by
 unfold Addr.add;rw[if_neg (by omega)]
 by_cases h:n=0
 ·simp[h]
 ·simp[h,Nat.add_assoc]
theorem ziA {w:World}{ad:Addr}{n j:Nat}{v:Value}(h:w.cell? (ad.add (n+j))=some v)(hj:0<j):w.cell? { block:=(ad.add n).block,off:=(ad.add n).off+j,spot:=none }=some v:=by
 rw[<- zDJ ad n j hj];exact h
structure zIh (w:World)(p:Addr)(a:zaN):Prop where
 c0:w.cell? p=some (.int .i64 a.i)
 c1:w.cell? { block:=p.block,off:=p.off+1,spot:=none }=some (.int .i64 a.o)
 c2:w.cell? { block:=p.block,off:=p.off+2,spot:=none }=some (.string a.w)
 c3:w.cell? { block:=p.block,off:=p.off+3,spot:=none }=some (.int .i64 a.t)
structure ziN (w:World)(p:Addr)(f:ByteArray)(u:Value):Prop where
 c0:w.cell? p=some (.string f)
 c1:w.cell? { block:=p.block,off:=p.off+1,spot:=none }=some u
theorem ziN.below {w w':World}{B:Nat}{p:Addr}{f:ByteArray}{u:Value}(h:ziN w p f u)(hb:Below B w w')(hp:p.block<B):ziN w' p f u :=
 ⟨(hb.cell hp).trans h.c0,(hb.cell (p:=⟨p.block,p.off+1,none⟩) hp).trans h.c1⟩
theorem zkw {w:World}{A:Option Addr}{l:List zaN}{k:Nat}(h:Reads w w.heap.size 4 A l.length (l.flatMap zeB))(hk:k<l.length) :
  ∃ ad a,A=some ad/\ad.block<w.heap.size/\l[k]?=some a/\zIh w (ad.add (k*4)) a:=by
 obtain⟨ad,hA,hb,hc⟩:=h.2 (by omega);have hx:l[k]?=some l[k]:=zqac hk;exact⟨ad,l[k],hA,hb,hx,hc _ _ (flat_get zeB 4 zlk l k 0 _ hx (by omega)),ziA (hc _ _ (flat_get zeB 4 zlk l k 1 _ hx (by omega))) (by omega),ziA (hc _ _ (flat_get zeB 4 zlk l k 2 _ hx (by omega))) (by omega),ziA (hc _ _ (flat_get zeB 4 zlk l k 3 _ hx (by omega))) (by omega)⟩
theorem zsQ {w:World}{A:Option Addr}{l:List zai}{us:List Value}{k:Nat}(h:Reads w w.heap.size 2 A l.length ((l.zip us).flatMap stC))(hl:us.length=l.length)(hk:k<l.length) :
  ∃ ad s u,A=some ad/\ad.block<w.heap.size/\l[k]?=some s/\us[k]?=some u/\ziN w (ad.add (k*2)) s.fin u:=by
 obtain⟨ad,hA,hb,hc⟩:=h.2 (by omega);have hx:l[k]?=some l[k]:=zqac hk;have hu:us[k]?=some (us[k]'(by omega)):=zqac (by omega);have hz:(l.zip us)[k]?=some (l[k],us[k]'(by omega)):=by rw[List.getElem?_zip_eq_some];exact⟨hx,hu⟩
 exact⟨ad,_,_,hA,hb,hx,hu,hc _ _ (flat_get stC 2 zfR _ k 0 _ hz (by omega)),ziA (hc _ _ (flat_get stC 2 zfR _ k 1 _ hz (by omega))) (by omega)⟩
def zav (w:World)(g:Nat)(m:zak)(u:Value):Prop:=w.heap[g]?=some (.cells #[.int .i64 m.kind,.int .i64 m.start,.string m.lead,u] 31 (0,0))
structure BoxC (w:World)(g:Nat)(m:zak)(u:Value):Prop where
 c0:w.cell? ⟨g,0,none⟩=some (.int .i64 m.kind)
 c1:w.cell? ⟨g,1,none⟩=some (.int .i64 m.start)
 c2:w.cell? ⟨g,2,none⟩=some (.string m.lead)
 c3:w.cell? ⟨g,3,none⟩=some u
theorem zav.cells {w:World}{g:Nat}{m:zak}{u:Value}(h:zav w g m u):BoxC w g m u :=
 ⟨by rw[zqbw w g 0 _ _ (0,0) h];rfl,by rw[zqbw w g 1 _ _ (0,0) h];rfl,by rw[zqbw w g 2 _ _ (0,0) h];rfl,by rw[zqbw w g 3 _ _ (0,0) h];rfl⟩
theorem zav.new (w:World)(m:zak)(u:Value):zav (w.alloc (.cells #[.int .i64 m.kind,.int .i64 m.start,.string m.lead,u] 31)) w.heap.size m u:=by
 show(w.heap.push _)[w.heap.size]?=_;rw[zqaz]
theorem zav.below {w w':World}{g B:Nat}{m:zak}{u:Value}(h:zav w g m u)(hb:Below B w w')(hg:g<B):zav w' g m u:=(hb.block g hg).trans h
theorem zav.lt {w:World}{g:Nat}{m:zak}{u:Value}(h:zav w g m u):g<w.heap.size:=(zqad.1 h).1
def zbu (l:List zai):Nat:=(l.map (fun s=>s.arcs.length)).sum
theorem zqj (l:List zai)(s:zai):zbu (l++[s])=zbu l+s.arcs.length:=by unfold zbu;simp
theorem zvz (l k:List zai):zbu (l++k)=zbu l+zbu k:=by unfold zbu;simp
theorem zAs (l:List zai){k:Nat}(hk:k<=l.length):zbu (l.take k)<=zbu l:=by
 have:=zvz (l.take k) (l.drop k);rw[List.take_append_drop] at this;omega
theorem zdL {α:Type}{L:List α}{k:Nat}{x:α}(h:L[k]?=some x):L.take (k+1)=L.take k++[x]:=by
 rw[List.take_add_one,h];rfl
open Go.RowKit
open Classical in
noncomputable def wgtB (k:Int)(a:ByteArray):Bool:=decide (∃ v,Wgt k a v)
theorem zoG {k:Int}{a:ByteArray}{v:Ext}(h:Wgt k a v):wgtB k a=true:=by unfold wgtB;simp;exact⟨v,h⟩
theorem zoH {k:Int}{a:ByteArray}(h:wgtB k a=true):∃ v,Wgt k a v:=by unfold wgtB at h;simpa using h
theorem zsR (k:Int):zgd k=true↔(k=1∨k=2∨k=3):=by unfold zgd;simp
noncomputable def arcB (k:Int)(n:Nat)(a:zaN):Bool:=decide (0<=a.i/\a.i<=500/\0<=a.o/\a.o<=500/\0<=a.t/\a.t<(n:Int))&&wgtB k a.w
noncomputable def finB (k:Int)(f:ByteArray):Bool:=decide (f.size=0) || wgtB k f
noncomputable def stB6 (k:Int)(n:Nat)(s:zai):Bool:=finB k s.fin&&s.arcs.all (arcB k n)
noncomputable def headB (m:zak):Bool:=zgd m.kind&&decide (1<=m.states.length/\m.states.length<=3000/\0<=m.start/\m.start<(m.states.length:Int))&&wgtB m.kind m.lead
noncomputable def validB (m:zak):Bool:=headB m&&decide (zbu m.states<=30000)&&m.states.all (stB6 m.kind m.states.length)
structure zhd (m:zak):Prop where
 n:m.states.length<=140737488355328
 lead:m.lead.size<=maxLen
 fin:∀ s∈m.states,s.fin.size<=maxLen
 arcs:∀ s∈m.states,s.arcs.length<=140737488355328
 w:∀ s∈m.states,∀ a∈s.arcs,a.w.size<=maxLen
theorem zhe {m:zak}(h:validB m=true){k:Nat}{s:zai}(hs:m.states[k]?=some s):stB6 m.kind m.states.length s=true:=by
 unfold validB at h;simp only[zqbb,List.all_eq_true] at h;exact h.2 s (zqak hs)
theorem zll {m:zak}(h:validB m=true):zbu m.states<=30000:=by
 unfold validB at h;simp only[zqbb,zqca] at h;exact h.1.2
theorem zeO {m:zak}(h:validB m=true):headB m=true:=by
 unfold validB at h;simp only[zqbb] at h;exact h.1.1
theorem zeP {m:zak}(h:headB m=true):zgd m.kind=true/\1<=m.states.length/\m.states.length<=3000/\0<=m.start/\m.start<(m.states.length:Int)/\wgtB m.kind m.lead=true:=by
 unfold headB at h;simp only[zqbb,zqca] at h;exact⟨h.1.1,h.1.2.1,h.1.2.2.1,h.1.2.2.2.1,h.1.2.2.2.2,h.2⟩
theorem zga {k:Int}{n:Nat}{s:zai}(h:stB6 k n s=true):finB k s.fin=true/\∀ a∈s.arcs,arcB k n a=true:=by
 unfold stB6 at h;simpa using h
theorem zia {k:Int}{n:Nat}{a:zaN}(h:arcB k n a=true):0<=a.i/\a.i<=500/\0<=a.o/\a.o<=500/\0<=a.t/\a.t<(n:Int)/\wgtB k a.w=true:=by
 unfold arcB at h;simp only[zqbb,zqca] at h;exact⟨h.1.1,h.1.2.1,h.1.2.2.1,h.1.2.2.2.1,h.1.2.2.2.2.1,h.1.2.2.2.2.2,h.2⟩
theorem zsS {l:List zai}{s:zai}(h:s∈l):s.arcs.length<=zbu l:=by
 obtain⟨k,hk⟩:=List.mem_iff_getElem?.1 h;have h1:=zAs l (show k+1<=l.length by have:=(zqae.1 hk).1;omega);rw[zdL hk,zqj] at h1;omega
theorem zbj {w w':World}(h:w.grownBy w' none):Below w.heap.size w w':=below_grown h (zqab _) (by simp)
theorem zdo.grown {w w':World}{v:Value}{m:zak}(h:zdo w v m)(hg:w.grownBy w' none):zdo w' v m:=h.below (zbj hg)
theorem zav.grown {w w':World}{g:Nat}{m:zak}{u:Value}(h:zav w g m u)(hg:w.grownBy w' none):zav w' g m u:=(hg.block g h.lt (by simp)).trans h
inductive RFrom (succ:Nat->List Nat) (S:Nat->Prop):Nat->Prop
 | start {x:Nat}:S x->RFrom succ S x
 | step {x y:Nat}:RFrom succ S x->y∈succ x->RFrom succ S y
def zaV (m:zak)(x:Nat):List Nat:=match m.states[x]? with
 | some s=>s.arcs.map (fun a=>a.t.toNat)
 | none=>[]
theorem zjI {m:zak}{x:Nat}{s:zai}(h:m.states[x]?=some s):zaV m x=s.arcs.map (fun a=>a.t.toNat):=by unfold zaV;rw[h]
open Go.RowKit Go.Maps
instance:LawfulBEq ByteArray where
 eq_of_beq {a b} h:=ByteArray.ext (eq_of_beq (α:=Array UInt8) h)
 rfl {a}:=beq_self_eq_true (α:=Array UInt8) a.data
theorem znC:Keyed Tryz.prog 9:=string_keyed Tryz.underlying9
theorem zHc (w:World):(zeroValue 3).run Tryz.prog w=.ok (.int .i64 0) w:=by kernel_rfl
theorem zDK (w:World):(zeroValue 4).run Tryz.prog w=.ok (.bool false) w:=by kernel_rfl
def zmC (s:ByteArray):Lit:=.string s.data.toList
theorem zoI {s t:ByteArray}(h:zmC s=zmC t):s=t:=by
 unfold zmC at h;injection h with h
 exact ByteArray.ext (Array.toList_inj.1 h)
theorem zoJ (s:ByteArray):WideAt.IsKeyLit (zmC s):=trivial
theorem znD {s:ByteArray}(h:s.size<=maxLen):keyOf Tryz.prog 9 (.string s)=some (zmC s):=WideMaps.keyOf_string_mk Tryz.underlying9 h
structure zLc (w:World)(b n:Nat)(f:ByteArray->Bool)(D:DataW Unit):Prop where
 owns:w.ownsMap Tryz.prog 9 (plainElem Tryz.prog 4) b n D
 at_:∀ s,D.atKey (zmC s) (.lit (.bool false))=.lit (.bool (f s))
def Marks (w:World)(b n:Nat)(f:ByteArray->Bool):Prop:=∃ D,zLc w b n f D
theorem Marks.made (w:World):Marks (w.alloc (.map #[] 0)) w.heap.size 0 (fun _=>false):=⟨.map [],⟨World.ownsMap_made w _ _ _,fun s=>rfl⟩⟩
theorem Marks.kept {w w':World}{b n:Nat}{f:ByteArray->Bool}{row:Option Nat}(h:Marks w b n f)(hg:w.grownBy w' row)(hne:some b≠row):Marks w' b n f:=by
 obtain⟨D,h1,h2⟩:=h;exact⟨D,h1.kept hg hne,h2⟩
theorem zLd:Tryz.prog.underlying 4=some .bool:=Tryz.underlying4
theorem ztI {v:Value}{x:DataW Unit}{ps:List MemPlace}(h:plainElem Tryz.prog 4 v=some (x,ps)):∃ c,v=.bool c/\x=.lit (.bool c):=by
 unfold plainElem at h;rw[zLd] at h;cases v <;> simp at h;exact⟨_,rfl,h.1.symm⟩
theorem Marks.look {w:World}{b n:Nat}{f:ByteArray->Bool}(h:Marks w b n f){s:ByteArray}(hs:s.size<=maxLen) :
  (Instr.lookup 92 (.map (some b)) (.string s) false).run Tryz.prog w=.ok (.bool (f s)) w:=by
 obtain⟨D,h1,h2⟩:=h;obtain⟨v,ps,hrun,hv⟩:=h1.lookup znC Tryz.underlying92 (zDK _) (plainElem_bool Tryz.underlying4 false) (znD hs);obtain⟨c,rfl,hc⟩:=ztI hv;rw[h2 s] at hc;simp only[DataW.lit.injEq,Lit.bool.injEq] at hc;rw[hrun,hc]
theorem Marks.store {w:World}{b n:Nat}{f:ByteArray->Bool}(h:Marks w b n f){s:ByteArray}(hs:s.size<=maxLen)(hn:n<maxLen) :
  ∃ w',(Instr.mapUpdate 92 (.map (some b)) (.string s) (.bool true)).run Tryz.prog w=.ok () w'/\Marks w' b (n+1) (fun t=>if t=s then true else f t)/\w.grownBy w' (some b):=by
 obtain⟨D,h1,h2⟩:=h;obtain⟨w',hrun,hown,hg⟩:=h1.update znC Tryz.underlying92 hn (znD hs) (plainElem_bool Tryz.underlying4 true);have hD:IsMap D:=h1.isMap;refine⟨w',hrun,⟨_,hown,fun t=>?_⟩,hg⟩
 by_cases ht:t=s
 ·subst ht
  rw[atKey_put_same hD (zoJ t),if_pos rfl]
 ·rw[atKey_put_other (fun e=>ht (zoI e)),h2 t,if_neg ht]
def zjX (L:List ByteArray)(s:ByteArray):Nat:=(L.findIdx? (fun t=>decide (t=s))).getD 0
structure NumD (w:World)(b:Nat)(L:List ByteArray)(D:DataW Unit):Prop where
 owns:w.ownsMap Tryz.prog 9 (plainElem Tryz.prog 3) b L.length D
 at_:∀ s,D.atKey (zmC s) (.lit (.int .i64 0))=.lit (.int .i64 (zjX L s:Int))
 has_:∀ s,Maps.has D (zmC s)=decide (s∈L)
def zfX (w:World)(b:Nat)(L:List ByteArray):Prop:=∃ D,NumD w b L D
theorem zfX.made (w:World):zfX (w.alloc (.map #[] 0)) w.heap.size []:=⟨.map [],⟨World.ownsMap_made w _ _ _,fun s=>rfl,fun s=>rfl⟩⟩
theorem zfX.kept {w w':World}{b:Nat}{L:List ByteArray}{row:Option Nat}(h:zfX w b L)(hg:w.grownBy w' row)(hne:some b≠row):zfX w' b L:=by
 obtain⟨D,h1,h2,h3⟩:=h;exact⟨D,h1.kept hg hne,h2,h3⟩
theorem zfX.lt {w:World}{b:Nat}{L:List ByteArray}(h:zfX w b L):b<w.heap.size:=by
 obtain⟨D,h1,h2,h3⟩:=h;exact h1.lt
theorem zfX.look_ok {w:World}{b:Nat}{L:List ByteArray}(h:zfX w b L){s:ByteArray}(hs:s.size<=maxLen) :
  (Instr.lookup 120 (.map (some b)) (.string s) true).run Tryz.prog w=.ok (.tuple #[.int .i64 (zjX L s:Int),.bool (decide (s∈L))]) w:=by
 obtain⟨D,h1,h2,h3⟩:=h;obtain⟨v,ps,hrun,hv⟩:=h1.look_ok znC Tryz.underlying120 (zHc _) (plainElem_int Tryz.underlying3 (by decide)) (znD hs);obtain⟨c,rfl,hc,_⟩:=plainElem_int_inv Tryz.underlying3 hv;rw[h2 s] at hc;simp only[Prod.mk.injEq,DataW.lit.injEq,Lit.int.injEq,true_and,and_true] at hc;rw[hrun,h3 s,hc.1]
theorem zHe {L:List ByteArray}{s:ByteArray}(h:s ∉ L):zjX (L++[s]) s=L.length:=by
 unfold zjX;rw[List.findIdx?_append,List.findIdx?_eq_none_iff.2 (fun x hx=>by simp;rintro rfl;exact h hx)];simp
theorem zAt {L:List ByteArray}{s t:ByteArray}(h:t≠s):zjX (L++[s]) t=zjX L t:=by
 unfold zjX;rw[List.findIdx?_append];have:[s].findIdx? (fun x=>decide (x=t))=none:=by simp[Ne.symm h]
 rw[this];simp
theorem zfX.store {w:World}{b:Nat}{L:List ByteArray}(h:zfX w b L){s:ByteArray}(hs:s.size<=maxLen)(hn:s ∉ L)(hl:L.length<maxLen) :
  ∃ w',(Instr.mapUpdate 120 (.map (some b)) (.string s) (.int .i64 ((L.length:Nat):Int))).run Tryz.prog w=.ok () w'/\zfX w' b (L++[s])/\w.grownBy w' (some b):=by
 obtain⟨D,h1,h2,h3⟩:=h
 have hw:(Lit.int .i64 ((L.length:Nat):Int)).wf=true:=by
  unfold maxLen at hl;exact WalkArith.wf_i64 (by omega)
 obtain⟨w',hrun,hown,hg⟩:=h1.update znC Tryz.underlying120 hl (znD hs) (plainElem_int Tryz.underlying3 hw);have hD:IsMap D:=h1.isMap;refine⟨w',hrun,⟨_,⟨by rw[zqag];exact hown,fun t=>?_,fun t=>?_⟩⟩,hg⟩
 ·by_cases ht:t=s
  ·subst ht
   rw[atKey_put_same hD (zoJ t),zHe hn]
  ·rw[atKey_put_other (fun e=>ht (zoI e)),h2 t,zAt ht]
 ·by_cases ht:t=s
  ·subst ht
   rw[has_put_same hD (zoJ t)];simp
  ·rw[has_put_other (fun e=>ht (zoI e)),h3 t];simp[ht]
def zcx (w:World)(v:Value)(n:Nat)(ln:Nat->Nat)(G:Nat->Nat->ByteArray):Prop :=
 ∃ rs:Nat->Value,zaG w v n rs/\∀ i,i<n->zaG w (rs i) (ln i) (fun j=>.string (G i j))
theorem zcx.grown {w w':World}{v:Value}{n:Nat}{ln:Nat->Nat}{G:Nat->Nat->ByteArray}(h:zcx w v n ln G)(hg:w.grownBy w' none):zcx w' v n ln G:=by
 obtain⟨rs,h1,h2⟩:=h;exact⟨rs,h1.grown hg,fun i hi=>(h2 i hi).grown hg⟩
def zjf (k:Int)(n:Nat)(ln:Nat->Nat)(G:Nat->Nat->ByteArray):Prop:=zad k/\(∀ i,i<n->ln i=n)/\∀ i j,i<n->j<n->∃ v,Val k (G i j) v
def zbV (P:Prop)(w:World)(e:Ending)(w':World):Prop:=∃ b:Bool,e=.returned (.bool b)/\(b=true↔P)/\w.grownBy w' none
theorem zbV.yes {P:Prop}{w w':World}(h:P)(hg:w.grownBy w' none):zbV P w (.returned (.bool true)) w':=⟨true,rfl,⟨fun _=>h,fun _=>rfl⟩,hg⟩
theorem zbV.no {P:Prop}{w w':World}(h:¬ P)(hg:w.grownBy w' none):zbV P w (.returned (.bool false)) w':=⟨false,rfl,⟨fun e=>by simp at e,fun e=>absurd e h⟩,hg⟩
theorem zHf {k:Int}(hk:zad k):Val k (zal k) (srE k hk).one.1:=⟨zrL hk,(srE k hk).one.2⟩
theorem zHg {k:Int}(hk:¬ zad k)(a:ByteArray):zpH k a:=fun v _=>by
 unfold zad at hk;have h1:¬ k=1:=fun h=>hk (.inl h);have h2:¬ k=2:=fun h=>hk (.inr (.inl h));have h3:¬ k=3:=fun h=>hk (.inr (.inr h));rcases v with(_|_)|x <;> simp[zap,zgd,h1,h2,h3]
theorem zDL (k:Int):(zal k).size<=maxLen:=by
 unfold zal maxLen;split
 ·decide
 ·split <;> decide
structure zvA (k:Int)(n:Nat)(G:Nat->Nat->ByteArray)(w:World)(b i j:Nat)(wr:World):Prop where
 gr:w.grownBy wr none
 hb:w.heap.size<=b
 map:∃ f,Marks wr b (i*n+j) f/\∀ s,f s=true->∃ v,Val k s v
 ok:∀ x y,(x<i/\y<n)∨(x=i/\y<j)->∃ v,Val k (G x y) v
theorem zvB (k:Int)(n:Nat)(ln:Nat->Nat)(G:Nat->Nat->ByteArray)(av:Value)(w:World)(hn:n<=10000)(ha:zcx w av n ln G)(hs:∀ i j,(G i j).size<=maxLen) :
  Calls Tryz.prog 39 #[.int .i64 k,av] w (zbV (zjf k n ln G) w):=by
 obtain⟨rs,⟨A,c,rfl,ha1,ha2,ha3⟩,hr⟩:=ha;have HA:=zHd ha3;have HR:=zHd hr;have HN:=zHd hn;have HS:=zHd hs
 have hend:∀ w':World,∃ b:Bool,(b=true↔zad k)/\Calls Tryz.prog 71 #[.int .i64 k,.string (zal k)] w' (zab (.bool b) w'):=fun w'=>by
  by_cases hk:zad k
  ·exact⟨true,by simp[hk],zqd (zHf hk) w'⟩
  ·exact⟨false,by simp[hk],zsJ (zHg hk _) (zDL k) w'⟩
 have hone:=fun w'=>zoz k w';have hmm:∀ w:World,(Instr.makeMap 92 none).run Tryz.prog w=.ok (.map (some w.heap.size)) (w.alloc (.map #[] 0)):=fun w=>run_makeMap _ w;have HE:=zHd hend;have HO:=zHd hone;clear ha1 ha2 ha3 hr hn hs hend hone;go_enter Tryz.func39,Tryz.ntmps39;go_wp2
 go_loopw [14] (fun iv wr=>∃ i:Nat,i<=n/\iv=.int .i64 (i:Int)/\w=wr/\∀ x,x<i->ln x=n) (fun iv _=>n-(intOf iv).toNat)
 case atStart=>exact⟨0,zqaw _,rfl,rfl,fun x hx=>absurd hx (by omega)⟩
 case round =>
  obtain⟨i,hi,rfl,rfl,hl⟩:=hrel
  by_cases hin:i<n
  ·obtain⟨ad,rfl,hb,hc⟩:=HA.out i hin
   obtain⟨Ai,ci,hre,_⟩:=HR.out i hin;rw[hre] at hc;have t1:decide (i<n)=true:=by simpa using hin
   have t1':decide ((i:Int)<(n:Int))=true:=by simpa using hin
   have hit:(i:Int)<(n:Int):=by omega
   have n1:IntKind.i64.wrap ((i:Int)+1)=(i:Int)+1:=by have:=HN.out;rw[zqah];omega
   by_cases he:ln i=n
   ·have t2:((ln i:Int)==(n:Int))=true:=by simp[he]
    have t3:((ln i:Int) != (n:Int))=false:=(by simp[he]);have HI:=zHd (zAI hin (zAI hl he));clear hi hl hb hre hin he;go_wp2;refine⟨⟨i+1,HI.out.1,by simp,by first|rfl|trivial,fun x hx=>?_⟩,by have:=HI.out.1;simp[intOf];omega⟩
    by_cases e:x<i
    ·exact HI.out.2.1 x e
    ·rw[show x=i by omega];exact HI.out.2.2
   ·have t2:((ln i:Int)==(n:Int))=false:=by simp;omega
    have t3:((ln i:Int) != (n:Int))=true:=(by simp[bne];omega);have HI:=zHd (zAI hin he);clear hi hl hb hre hin he;go_wp2;go_ret;exact zbV.no (fun h=>HI.out.2 (h.2.1 i HI.out.1)) (World.grownBy.refl _ _)
  ·obtain rfl:i=n:=by omega
   have t1:decide (i<i)=false:=by simp
   have t1':decide ((i:Int)<(i:Int))=false:=by simp
   have HL:=zHd hl;clear hi hin hl;go_wp2;have h0:zvA k i G w w.heap.size 0 0 (w.alloc (.map #[] 0)):=⟨zGA _ _ none,zqab _,⟨fun _=>false,by simpa using Marks.made w,fun s h=>by simp at h⟩,fun x y h=>by omega⟩;have H0:=zHd h0;clear h0
   go_loopw [27] (fun iv wr=>∃ x:Nat,x<=i/\iv=.int .i64 (x:Int)/\zvA k i G w w.heap.size x 0 wr) (fun iv _=>i-(intOf iv).toNat)
   case atStart=>exact⟨0,zqaw _,rfl,H0.out⟩
   case round =>
    obtain⟨x,hx,rfl,hinv⟩:=hrel
    by_cases hxi:x<i
    ·obtain⟨ad,rfl,hb,hc⟩:=HA.out x hxi
     obtain⟨Ai,ci,hre,hi1,hi2,hi3⟩:=HR.out x hxi;rw[hre] at hc;have hc2:wr.cell? (ad.add x)=some (.slice Ai (ln x) ci):=(zaD (ad:=ad.add x) (by rw[zau];exact hinv.gr.block ad.block hb (by simp))).trans hc;rw[HL.out x hxi] at hc2 hi3;have t1:decide (x<i)=true:=(by simpa using hxi);have t1':decide ((x:Int)<(i:Int))=true:=(by simpa using hxi);have hit:(x:Int)<(i:Int):=(by omega);have n1:IntKind.i64.wrap ((x:Int)+1)=(x:Int)+1:=(by have:=HN.out;rw[zqah];omega);have HI:=zHd (zAI hxi hinv);have H3:=zHd hi3;clear hx hb hc hre hi1 hi2 hi3 hxi hinv;go_wp2;generalize wr=wq at *
     go_loopw [33] (fun jv wr=>∃ y:Nat,y<=i/\jv=.int .i64 (y:Int)/\zvA k i G w w.heap.size x y wr) (fun jv _=>i-(intOf jv).toNat)
     case atStart=>exact⟨0,zqaw _,rfl,HI.out.2⟩
     case round =>
      obtain⟨y,hy,rfl,hinv⟩:=hrel
      by_cases hyi:y<i
      ·obtain⟨ay,rfl,hby,hcy⟩:=H3.out y hyi
       have hcy2:wr.cell? (ay.add y)=some (.string (G x y)):=(zaD (ad:=ay.add y) (by rw[zau];exact hinv.gr.block ay.block hby (by simp))).trans hcy;obtain⟨f,hm,hf⟩:=hinv.map;have hlook:=hm.look (HS.out x y);have u1:decide (y<i)=true:=(by simpa using hyi);have u1':decide ((y:Int)<(i:Int))=true:=(by simpa using hyi);have hiy:(y:Int)<(i:Int):=(by omega);have n2:IntKind.i64.wrap ((y:Int)+1)=(y:Int)+1:=by have:=HN.out;rw[zqah];omega
       have hnn:x*i+y<maxLen:=by
        have h1:=HI.out.1;have h2:=HN.out;have h3:x*i<=10000*10000:=Nat.mul_le_mul (by omega) h2;unfold maxLen;omega
       have HV:=zHd (zAI hyi hinv);have HM:=zHd (zAI hm (zAI hf hnn));clear hy hyi hinv hby hcy hm hf hnn;cases hfy:f (G x y)
       ·rw[hfy] at hlook
        rcases zCo k (G x y) with⟨v,hv⟩|hnv
        ·have hcall:=fun w'=>zqd hv w'
         have HC:=zHd hcall;have HVV:=zHd hv;clear hcall hv;go_wp2_with fail;refine(HC.out _).mono ?_;rintro e w5 ⟨rfl,hg5⟩;obtain⟨hm,hf,hnn⟩:=HM.out;obtain⟨w6,hst,hm6,hg6⟩:=(hm.kept hg5 (by simp)).store (HS.out x y) hnn;have H6:=zHd (zAI hm6 (zAI hg5 hg6));have HF:=zHd hf;clear hm hf hnn hm6 hg5 hg6;go_wp2;obtain⟨hm6,hg5,hg6⟩:=H6.out;refine⟨⟨y+1,HV.out.1,by simp,zaj (zaa HV.out.2.gr hg5) hg6 (zqab _),zqab _,⟨_,hm6,fun s hs=>?_⟩,fun a b hab=>?_⟩,by have:=HV.out.1;simp[intOf];omega⟩
         ·by_cases e:s=G x y
          ·exact⟨_,e▸HVV.out⟩
          ·simp[e] at hs;exact HF.out s hs
         ·by_cases e:a=x/\b=y
          ·rw[e.1,e.2];exact⟨_,HVV.out⟩
          ·exact HV.out.2.ok a b (by omega)
        ·have hcall:=fun w'=>zsJ hnv (HS.out x y) w'
         have HC:=zHd hcall;have HVV:=zHd hnv;clear hcall hnv;go_wp2_with fail;refine(HC.out _).mono ?_;rintro e w5 ⟨rfl,hg5⟩;have HG:=zHd hg5;clear hg5;go_wp2;go_ret;refine zbV.no (fun h=>?_) (zaa HV.out.2.gr HG.out);obtain⟨v,hv⟩:=h.2.2 x y HI.out.1 HV.out.1;have:=HVV.out v hv.e;rw[hv.has] at this;cases this
       ·rw[hfy] at hlook
        obtain⟨hm,hf,hnn⟩:=HM.out;obtain⟨w6,hst,hm6,hg6⟩:=hm.store (HS.out x y) hnn;have H6:=zHd (zAI hm6 (zAI hg6 (hf _ hfy)));have HF:=zHd hf;clear hm hf hnn hm6 hg6;go_wp2;obtain⟨hm6,hg6,hvv⟩:=H6.out;refine⟨⟨y+1,HV.out.1,by simp,zaj HV.out.2.gr hg6 (zqab _),zqab _,⟨_,hm6,fun s hs=>?_⟩,fun a b hab=>?_⟩,by have:=HV.out.1;simp[intOf];omega⟩
        ·by_cases e:s=G x y
         ·rw[e];exact hvv
         ·simp[e] at hs;exact HF.out s hs
        ·by_cases e:a=x/\b=y
         ·rw[e.1,e.2];exact hvv
         ·exact HV.out.2.ok a b (by omega)
      ·obtain rfl:y=i:=by omega
       have u1:decide (y<y)=false:=(by simp);have u1':decide ((y:Int)<(y:Int))=false:=(by simp);have HV:=zHd hinv;clear hy hyi hinv;go_wp2;have hx1:=HI.out.1;refine⟨⟨x+1,hx1,by simp,HV.out.gr,zqab _,?_,fun a b hab=>HV.out.ok a b (by omega)⟩,by simp[intOf];omega⟩;obtain⟨f,hm,hf⟩:=HV.out.map;exact⟨f,by rw[Nat.add_mul,Nat.one_mul,Nat.add_zero];exact hm,hf⟩
    ·obtain rfl:x=i:=by omega
     have t1:decide (x<x)=false:=(by simp);have t1':decide ((x:Int)<(x:Int))=false:=(by simp);have HI:=zHd hinv;clear hx hxi hinv;go_wp2_with fail;refine(HO.out _).mono ?_;rintro e w5 ⟨rfl,hg5⟩;obtain⟨b,hbk,hcall⟩:=HE.out w5;have HC:=zHd hcall;have HB:=zHd hbk;have HG:=zHd hg5;clear hcall hbk hg5;go_wp2_with fail;refine HC.out.mono ?_;rintro e w6 ⟨rfl,hg6⟩;have HG6:=zHd hg6;clear hg6;go_wp2;go_ret;refine⟨b,rfl,HB.out.trans ⟨fun h=>⟨h,HL.out,fun a b ha hb=>HI.out.ok a b (.inl ⟨ha,hb⟩)⟩,fun h=>h.1⟩,zaa (zaa HI.out.gr HG.out) HG6.out⟩
open Go.RowKit
structure zhf (w:World)(g n c:Nat)(zs:List Value):Prop where
 len:zs.length=n
 le:n<=c
 max:c<=maxLen
 row:∃ sp:List Value,n+sp.length=c/\w.heap[g]?=some (.cells (zs++sp).toArray 33 (0,0))
theorem zhf.lt {w:World}{g n c:Nat}{zs:List Value}(h:zhf w g n c zs):g<w.heap.size:=by
 obtain⟨sp,_,h⟩:=h.row;exact(zqad.1 h).1
theorem zhf.keep {w w':World}{g n c:Nat}{zs:List Value}(h:zhf w g n c zs)(hb:w'.heap[g]?=w.heap[g]?):zhf w' g n c zs:=by
 obtain⟨sp,h1,h2⟩:=h.row;exact⟨h.len,h.le,h.max,sp,h1,hb.trans h2⟩
theorem zhf.grown {w w':World}{g n c:Nat}{zs:List Value}(h:zhf w g n c zs)(hg:w.grownBy w' none):zhf w' g n c zs:=h.keep (hg.block g h.lt (by simp))
theorem zhf.rowAt {w:World}{g n c:Nat}{zs:List Value}(h:zhf w g n c zs):zaq w g 0 n (fun j=>zs.getD j (.slice none 0 0)):=by
 refine⟨h.lt,fun j hj=>?_⟩;obtain⟨sp,h1,h2⟩:=h.row;have hl:=h.len;rw[zqat,zqbw w g j _ _ (0,0) h2,zqap,zqal (by omega)];dsimp only;rw[zqaa,zqac (by omega)];rfl
def znE (n g:Nat)(u:Value)(zs:List Value)(w:World)(e:Ending)(w':World):Prop :=
 ∃ g' c',e=.returned (.slice (some ⟨g',0,none⟩) (n+1) c')/\zhf w' g' (n+1) c' (u::zs)/\((g'=g/\0<n/\w.grownBy w' (some g))∨(w.heap.size<=g'/\w.grownBy w' none))
theorem zsU:∃ i0:TypeInfo,Tryz.prog.info? 33=some i0/\i0.zero=some (.slice none 0 0)/\i0.size=1/\i0.bytes=24:=info_parts zeN
theorem zxr (vb:Nat)(u:Value)(w:World)(hv:w.cell? ⟨vb,0,none⟩=some u)(h1:u.oneCell'=true) :
  Calls Tryz.prog 133 #[.slice none 0 0,.int .i64 0,.slice (some ⟨vb,0,none⟩) 1 1] w (znE 0 0 u [] w):=by
 obtain⟨i0,hi0,hz0,hzs,hzb⟩:=zsU
 have hsrc:Src Tryz.prog i0.size 22 (.slice (some ⟨vb,0,none⟩) 1 1) 1 [u] w:=by
  rw[hzs]
  exact Src.ofSlice w Tryz.underlying22 ⟨vb,0,none⟩ 1 1 [u] rfl (fun j x hj=>by
   obtain⟨hj1,rfl⟩:=zqae.1 hj;obtain rfl:j=0:=by simpa using hj1
   exact hv) (fun x hx=>by rw[zqbk.1 hx];exact h1)
 have hold:(Builtin.firstCells i0.size 0 (.slice none 0 0)).run Tryz.prog w.drew=.ok ([]:List Value).toArray w.drew:=by
  rw[hzs];exact run_firstCells_none w.drew 1 0 0 0
 obtain⟨G,hG⟩:∃ G,G=grownCap w (0+1) 0 33:=⟨_,rfl⟩
 have hrun:∀ ty,(Builtin.append_ #[22,22] ty #[.slice none 0 0,.slice (some ⟨vb,0,none⟩) 1 1]).run Tryz.prog w=.ok (.slice (some ⟨w.heap.size,0,none⟩) (0+1) G) (w.drew.alloc (.cells (([]++[u]:List Value).toArray++Builtin.zeroCells (Value.slice none 0 0).cells (G-(0+1))) 33)):=fun ty=>by
  rw[hG];exact run_append_grow_src w 22 22 ty 33 i0 _ Tryz.underlying22 hi0 hz0 none 0 0 [] hold _ 1 [u] hsrc (by omega) (by omega) (by rw[hzb];exact growslice_fits (by omega) (by omega))
 have hGn:1<=G:=by rw[hG];exact grownCap_ge w _ _ _
 have hG63:G<=maxLen:=by
  rw[hG];exact grownCap_le_maxLen w (0+1) 0 33 (by unfold maxLen;omega)
 clear hG hsrc hold;have HG:=zHd (zAI hGn hG63);clear hGn hG63;go_enter Tryz.func133,Tryz.ntmps133;go_wp2_with (at_builtin;refine Lib.wpList_append_run _ rfl _ _ _ _ rfl _ _ rfl rfl _ _ (hrun _) ?_);go_ret;obtain⟨hGn,hG63⟩:=HG.out;refine⟨_,G,rfl,⟨rfl,hGn,hG63,List.replicate (G-1) (.slice none 0 0),by simp;omega,?_⟩,.inr ⟨zqab _,zaa (zag w none) (zGA _ _ none)⟩⟩;show(w.drew.alloc _).heap[w.drew.heap.size]?=_;rw[zaE];congr 2;apply Array.toList_inj.1;show((#[u]++Builtin.zeroCells #[Value.slice none 0 0] (G-1)):Array Value).toList=_;rw[Array.toList_append,zeA]
theorem zDM (w:World)(g off dLen dCap sLen sCap:Nat)(ad:Addr)(cur cs:List Value)(T:TypeId)(hg:w.heap[g]?=some (.cells cur.toArray T (0,0)))(hn:cs.length=Nat.min sLen dLen)
  (hsrc:∀ j v,cs[j]?=some v->w.cell? (ad.add j)=some v) (hfit:off+cs.length<=cur.length) (h1:∀ v∈cs,v.oneCell'=true) :
  ∃ w',(∀ ty,(Builtin.copy_ #[22,22] ty #[.slice (some ⟨g,off,none⟩) dLen dCap,.slice (some ad) sLen sCap]).run Tryz.prog w=.ok (goInt cs.length) w')/\w'.heap[g]?=some (.cells (splice cur off cs).toArray T (0,0))/\w.grownBy w' (some g):=by
 have hrun:=fun ty=>run_copy_row (P:=Tryz.prog) w 22 22 ty 33 g off dLen dCap ad sLen sCap cur.toArray T cs Tryz.underlying22 (by kernel_rfl) hg hn hsrc (by simpa using hfit) h1;refine⟨_,hrun,?_,⟨rfl,rfl,rfl,by simp,fun k _ hk=>setRow_other w g k _ (fun e=>hk (by rw[e]))⟩⟩;rw[setRow_heap w g _ _ T _ hg];simp[splice]
theorem zqk {w:World}{g:Nat}{cur:List Value}{T:TypeId}(h:w.heap[g]?=some (.cells cur.toArray T (0,0))){j:Nat}{v:Value}(hj:cur[j]?=some v):w.cell? ⟨g,j,none⟩=some v:=by
 rw[zqbw w g j _ _ (0,0) h,zqap,hj]
theorem zDN {w:World}{g:Nat}{cur:Array Value}{T:TypeId}(h:w.heap[g]?=some (.cells cur T (0,0))):w.shape? g=some (T,cur.size):=by unfold World.shape?;rw[h]
theorem zoa {w:World}{g k:Nat}{cur:Array Value}{T:TypeId}(h:w.heap[g]?=some (.cells cur T (0,0))):w.frozen? ⟨g,k,none⟩=false:=zqbx w g k _ _ h
theorem zvC (n c g vb:Nat)(zs:List Value)(u:Value)(TB:TypeId)(w:World)(hn0:0<n)(hn:n<=10000)(hc:n+1<=c)(hown:zhf w g n c zs)(hne:vb≠g)(hv:w.heap[vb]?=some (.cells #[u] TB (0,0)))(h1:u.oneCell'=true)(hz:∀ z∈zs,z.oneCell'=true) :
  Calls Tryz.prog 133 #[.slice (some ⟨g,0,none⟩) n c,.int .i64 0,.slice (some ⟨vb,0,none⟩) 1 1] w (znE n g u zs w):=by
 obtain⟨sp,hsp,hrow⟩:=hown.row;have hlen:=hown.len;have hmax:=hown.max
 obtain⟨s0,sp',rfl⟩:∃ s0 sp',sp=s0::sp':=by
  cases sp with
  | nil=>simp at hsp;omega
  | cons a b=>exact⟨a,b,rfl⟩
 have hvc:w.cell? ⟨vb,0,none⟩=some u:=zqbw w vb 0 _ _ (0,0) hv
 have hov:∀ lb cb,(callFunc 168 #[.slice (some ⟨vb,0,none⟩) 1 1,.slice (some ⟨g,1,none⟩) lb cb]).run Tryz.prog w=.ok (.value (.bool false)) w:=fun lb cb=>by
  rw[run_callFunc_extern Tryz.func168 (by kernel_rfl) (by kernel_rfl) (by kernel_rfl) (e:=Extern.SlicesOverlaps.overlaps #[22,22] #[4]) (by kernel_rfl),
   Lib.run_overlaps_apart w 22 4 33 Tryz.underlying22 1 Tryz.sizeOf33 ⟨vb,0,none⟩ ⟨g,1,none⟩ 1 1 lb cb hne TB 33 1 (zs++s0::sp').toArray.size (zDN hv) (zDN hrow) (by simp) (zoa hv) (zoa hv)]
  rfl
 have hrowd:w.drew.heap[g]?=some (.cells (zs++s0::sp').toArray 33 (0,0)):=hrow
 obtain⟨w1,hc1,hr1,hg1⟩:=zDM w.drew g 1 n (c-1) (n+1) c ⟨g,0,none⟩ (zs++s0::sp') zs 33 hrowd (by rw[hlen];exact(Nat.min_eq_right (by omega)).symm) (fun j v hj=>by
  rw[zcl,zqat];exact zqk hrowd (by rw[zqal (zqae.1 hj).1,hj])) (by simp;omega) hz
 have hspl:splice (zs++s0::sp') 1 zs=((zs++s0::sp').take 1)++zs++sp':=by
  unfold splice;rw[zqbj];congr 2;rw[List.drop_append,List.drop_eq_nil_of_le (by omega),show 1+zs.length-zs.length=1 by omega];rfl
 rw[hspl] at hr1;have hv1:w1.cell? ⟨vb,0,none⟩=some u:=hg1.cell (show w.drew.cell? _=_ from hvc) (by simpa using hne)
 obtain⟨w2,hc2,hr2,hg2⟩:=zDM w1 g 0 (n+1) c 1 1 ⟨vb,0,none⟩ _ [u] 33 hr1 (by show 1=Nat.min 1 (n+1);exact(Nat.min_eq_left (by omega)).symm) (fun j v hj=>by
  obtain⟨hj1,rfl⟩:=zqae.1 hj;obtain rfl:j=0:=by simpa using hj1
  rw[zcl];exact hv1) (by simp;omega) (fun x hx=>by rw[zqbk.1 hx];exact h1)
 have hspl2:splice (((zs++s0::sp').take 1)++zs++sp') 0 [u]=(u::zs)++sp':=by
  obtain⟨z0,zr,rfl⟩:∃ z0 zr,zs=z0::zr:=by
   cases zs with
   | nil=>simp at hlen;omega
   | cons a b=>exact⟨a,b,rfl⟩
  unfold splice;simp
 rw[hspl2] at hr2;have hnz:¬ (n:Int)=0:=by omega
 have hnz2:¬ n=0:=by omega
 have hi1:(n:Int)+1<=(c:Int):=by omega
 have hi2:¬ (c:Int)<(n:Int)+1:=by omega
 have hi3:¬ c=1:=by omega
 have hi4:(1:Int)<=(n:Int)+1:=by omega
 have hi5:(0:Int)<=(n:Int)+1:=by omega
 have hi6:¬ (n+1=1):=by omega
 have hi7:¬ (c=0):=by omega
 have hw2:IntKind.i64.wrap 1=1:=by decide
 have hw1:IntKind.i64.wrap ((n:Int)+1)=(n:Int)+1:=by rw[zqah];omega
 have HP:=zHd (zAI hr2 (zAI hg1 (zAI hg2 (zAI hsp (zAI hlen (zAI hc hmax))))));have HC1:=zHd hc1;have HC2:=zHd hc2;clear hspl hspl2 hr1 hr2 hg1 hg2 hrow hrowd hown hv hvc hv1 hsp hlen hmax hc1 hc2 hn0 hn hc hz;go_enter Tryz.func133,Tryz.ntmps133;have mixed:Tryz.prog.follows .mixedOrders=true:=by kernel_rfl
 go_wp2_with (simp only[hov])
 go_region_law_o (refine step_copy_runI rfl _ _ 22 22 rfl _ _ (by simp[Act.eval,Act.put]) (by simp[Act.eval,Act.put]) (HC1.out _) ?_)
 have hc2:=HC2.out 3;go_wp2;go_ret;obtain⟨hr2,hg1,hg2,hsp,hlen,hc,hmax⟩:=HP.out;exact⟨g,c,rfl,⟨by simp[hlen],hc,hmax,sp',by simp at hsp;omega,hr2⟩,.inl ⟨rfl,by omega,(zaa (zag w _) (zaa hg1 hg2))⟩⟩
theorem zDO (W:World)(g off dLen dCap sLen sCap:Nat)(ad:Addr)(cur cs:List Value)(hg:W.heap[g]?=some (.cells cur.toArray 33 (0,0)))(hn:cs.length=Nat.min sLen dLen)
  (hsrc:∀ j v,cs[j]?=some v->W.cell? (ad.add j)=some v) (hfit:off+cs.length<=cur.length) (h1:∀ v∈cs,v.oneCell'=true) :
  (∀ ty,(Builtin.copy_ #[22,22] ty #[.slice (some ⟨g,off,none⟩) dLen dCap,.slice (some ad) sLen sCap]).run Tryz.prog W=.ok (goInt cs.length) (W.setRow g (splice cur off cs).toArray)):=fun ty=>by
 have hrun:=run_copy_row (P:=Tryz.prog) W 22 22 ty 33 g off dLen dCap ad sLen sCap cur.toArray 33 cs Tryz.underlying22 (by kernel_rfl) hg hn hsrc (by simpa using hfit) h1;rw[hrun];simp[splice]
theorem zlK (W:World)(g:Nat)(row:Array Value):W.grownBy (W.setRow g row) (some g):=⟨rfl,rfl,rfl,by simp,fun k _ hk=>setRow_other W g k _ (fun e=>hk (by rw[e]))⟩
theorem zvD (n c g vb:Nat)(zs:List Value)(u:Value)(w:World)(hn0:0<n)(hn:n<=10000)(hc:c<n+1)(hown:zhf w g n c zs)(hv:w.cell? ⟨vb,0,none⟩=some u)(hvb:vb<w.heap.size)(h1:u.oneCell'=true)(hz:∀ z∈zs,z.oneCell'=true) :
  Calls Tryz.prog 133 #[.slice (some ⟨g,0,none⟩) n c,.int .i64 0,.slice (some ⟨vb,0,none⟩) 1 1] w (znE n g u zs w):=by
 obtain⟨i0,hi0,hz0,hzs,hzb⟩:=zsU;obtain⟨sp,hsp,hrow⟩:=hown.row;have hlen:=hown.len;have hle:=hown.le;have hlt:=hown.lt;obtain rfl:c=n:=by omega
 have hold:(Builtin.firstCells i0.size 0 (.slice (some ⟨g,0,none⟩) 0 c)).run Tryz.prog w.drew=.ok ([]:List Value).toArray w.drew:=by
  rw[hzs];exact run_firstCells_some w.drew 1 0 ⟨g,0,none⟩ 0 c [] rfl (fun j v hj=>by simp at hj)
 obtain⟨G,hG⟩:∃ G,G=grownCap w (c+1) c 33:=⟨_,rfl⟩;have hGn:c+1<=G:=by rw[hG];exact grownCap_ge w _ _ _
 have hG63:G<=maxLen:=by
  rw[hG];exact grownCap_le_maxLen w (c+1) c 33 (by unfold maxLen;omega)
 have hrz:∀ ty,(Builtin.append_ #[22,3] ty #[.slice (some ⟨g,0,none⟩) 0 c,.int .i64 ((c:Int)+1)]).run Tryz.prog w =
   .ok (.slice (some ⟨w.heap.size,0,none⟩) (c+1) G) (w.drew.alloc (.cells (List.replicate G (.slice none 0 0)).toArray 33)):=fun ty=>by
  have h:=Lib.run_append_grow_zeros w 22 3 ty 33 i0 _ .i64 .i64 Tryz.underlying22 Tryz.underlying3 hi0 hz0 (some ⟨g,0,none⟩) 0 c [] hold (c+1) (by omega) (by omega) (by omega) (by omega) (by rw[hzb];omega) (by rw[hzb,zqat];exact growslice_fits (by omega) (by omega));rw[zqat,<- hG] at h;rw[show(c:Int)+1=((c+1:Nat):Int) by omega,h];congr 3;apply Array.toList_inj.1;show((#[]++Builtin.zeroCells #[Value.slice none 0 0] (c+1)++Builtin.zeroCells #[Value.slice none 0 0] (G-(c+1))):Array Value).toList=_;rw[Array.toList_append,Array.toList_append,zeA,zeA];simp[hGn]
 have hrA:∀ W:World,W.heap=(w.drew.alloc (.cells (List.replicate G (.slice none 0 0)).toArray 33)).heap->W.heap[w.heap.size]?=some (.cells (List.replicate G (.slice none 0 0):List Value).toArray 33 (0,0)):=fun W hW=>by
  rw[hW];exact zaE w.drew _
 have hold2:∀ W:World,W.heap=(w.drew.alloc (.cells (List.replicate G (.slice none 0 0)).toArray 33)).heap->∀ b j,b<w.heap.size->W.cell? ⟨b,j,none⟩=w.cell? ⟨b,j,none⟩:=fun W hW b j hb=>by
  refine zaD (ad:=⟨b,j,none⟩) ?_;rw[hW];exact(zGA w.drew _ none).block b hb (by simp)
 have hcA:∀ W:World,W.heap=(w.drew.alloc (.cells (List.replicate G (.slice none 0 0)).toArray 33)).heap->∀ ty,(Builtin.copy_ #[22,22] ty #[.slice (some ⟨w.heap.size,0,none⟩) (c+1) G,.slice (some ⟨vb,0,none⟩) 1 1]).run Tryz.prog W=.ok (goInt 1) (W.setRow w.heap.size (u::List.replicate (G-1) (.slice none 0 0)).toArray):=fun W hW ty=>by
  have h:=zDO W w.heap.size 0 (c+1) G 1 1 ⟨vb,0,none⟩ (List.replicate G (.slice none 0 0)) [u] (hrA W hW) (by show 1=Nat.min 1 (c+1);exact(Nat.min_eq_left (by omega)).symm) (fun j v hj=>by
   obtain⟨hj1,rfl⟩:=zqae.1 hj;obtain rfl:j=0:=by simpa using hj1
   rw[zcl,hold2 W hW vb _ hvb];exact hv) (by simp;omega) (fun x hx=>by rw[zqbk.1 hx];exact h1) ty
  rw[h]
  have e:splice (List.replicate G (.slice none 0 0)) 0 [u]=u::List.replicate (G-1) (.slice none 0 0):=by
   unfold splice;simp
  rw[e];rfl
 have hcB:∀ W V:World,V.heap=(w.drew.alloc (.cells (List.replicate G (.slice none 0 0)).toArray 33)).heap->W.heap=(V.setRow w.heap.size (u::List.replicate (G-1) (.slice none 0 0)).toArray).heap->∀ ty,(Builtin.copy_ #[22,22] ty #[.slice (some ⟨w.heap.size,1,none⟩) c (G-1),.slice (some ⟨g,0,none⟩) c c]).run Tryz.prog W=.ok (goInt c) (W.setRow w.heap.size (u::(zs++List.replicate (G-(c+1)) (.slice none 0 0))).toArray):=fun W V hV hW ty=>by
  have hr:W.heap[w.heap.size]?=some (.cells (u::List.replicate (G-1) (.slice none 0 0)).toArray 33 (0,0)):=by
   rw[hW,setRow_heap V w.heap.size _ _ 33 _ (hrA V hV)]
  have h:=zDO W w.heap.size 1 c (G-1) c c ⟨g,0,none⟩ (u::List.replicate (G-1) (.slice none 0 0)) zs hr (by rw[hlen];exact(Nat.min_self c).symm) (fun j v hj=>by
   rw[zcl,zqat];have e1:W.cell? ⟨g,j,none⟩=V.cell? ⟨g,j,none⟩:=zaD (ad:=⟨g,j,none⟩) (by rw[hW];exact setRow_other V w.heap.size g _ (by show g≠w.heap.size;omega));rw[e1,hold2 V hV g j hlt];exact zqk hrow (by rw[zqal (zqae.1 hj).1,hj])) (by simp;omega) hz ty
  rw[h,hlen]
  have e:splice (u::List.replicate (G-1) (.slice none 0 0)) 1 zs=u::(zs++List.replicate (G-(c+1)) (.slice none 0 0)):=by
   unfold splice;simp[hlen];rw[show 1+c=c+1 by omega,List.drop_succ_cons,List.drop_replicate,show G-1-c=G-(c+1) by omega]
  rw[e]
 obtain⟨ROW,hROW⟩:∃ ROW:Array Value,ROW=(List.replicate G (.slice none 0 0):List Value).toArray:=⟨_,rfl⟩;rw[<- hROW] at hrz;have hnz:¬ (c:Int)=0:=by omega
 have hnz2:¬ c=0:=by omega
 have hi1:(c:Int)<(c:Int)+1:=by omega
 have hi2:(0:Int)<=(c:Int)+1:=by omega
 have hi4:(1:Int)<=(c:Int)+1:=by omega
 have hi5:¬ G=0:=by omega
 have hi6:¬ G=1:=by omega
 have hw2:IntKind.i64.wrap 1=1:=by decide
 have hi7:(1:Int)<=((c+1:Nat):Int):=by omega
 have mixed:Tryz.prog.follows .mixedOrders=true:=by kernel_rfl
 have hw1:IntKind.i64.wrap ((c:Int)+1)=(c:Int)+1:=by rw[zqah];omega
 have HP:=zHd (zAI hGn (zAI hG63 (zAI hlen hlt)));have HA:=zHd hcA;have HB:=zHd hcB;have HR:=zHd hrA;have HRW:=zHd hROW;clear hold hG hrA hold2 hcA hcB hROW hown hrow hle hlt hsp hz hv;go_enter Tryz.func133,Tryz.ntmps133;have hca1:=HA.out (w.drew.alloc (.cells ROW 33)) (by rw[HRW.out]) 3;have hca2:=HA.out ((w.alloc (.cells ROW 33)).drew) (by rw[HRW.out];rfl) 3
 go_wp2_with (first
  | (at_builtin;refine Lib.wpList_append_run _ rfl _ _ _ _ rfl _ _ rfl rfl _ _ (hrz _) ?_))
 have hcb1:=HB.out (((w.alloc (.cells ROW 33)).drew.setRow w.heap.size (u::List.replicate (G-1) (.slice none 0 0)).toArray).drew) (w.drew.alloc (.cells ROW 33)) (by rw[HRW.out]) rfl 3
 go_region_law_o (refine step_copy_runI rfl _ _ 22 22 rfl (.slice (some ⟨w.heap.size,1,none⟩) c (G-1)) (.slice (some ⟨g,0,none⟩) c c) (by simp[Act.eval,Act.put]) (by simp[Act.eval,Act.put]) hcb1 ?_)
 go_wp2;go_ret;obtain⟨hGn,hG63,hlen,hlt⟩:=HP.out;have hr:=HR.out (w.drew.alloc (.cells ROW 33)) (by rw[HRW.out]);refine⟨_,G,rfl,⟨by simp[hlen],hGn,hG63,List.replicate (G-(c+1)) (.slice none 0 0),by simp;omega,?_⟩,.inr ⟨zqab _,?_⟩⟩
 ·have hr2:((w.alloc (.cells ROW 33)).drew).heap[w.heap.size]?=some (.cells (List.replicate G (.slice none 0 0)).toArray 33 (0,0)):=hr
  have hr3:=setRow_heap ((w.alloc (.cells ROW 33)).drew) w.heap.size _ (u::List.replicate (G-1) (.slice none 0 0)).toArray 33 _ hr2;exact setRow_heap (((w.alloc (.cells ROW 33)).drew.setRow w.heap.size (u::List.replicate (G-1) (.slice none 0 0)).toArray).drew) w.heap.size _ _ 33 _ hr3
 ·refine zaj (zaa (zaj (zaa (zGA w _ none) (zag _ none)) (zlK _ _ _) (zqab _)) (zag _ none)) (zlK _ _ _) (zqab _)
open Go.RowKit
open Go.Lib (decDigits nDigits)
theorem zsV:∀ (xs ys:List (List UInt8)),xs.length=ys.length->(∀ x∈xs,(32:UInt8) ∉ x)->(∀ y∈ys,(32:UInt8) ∉ y)->Lib.join xs [32]=Lib.join ys [32]->xs=ys
 | [],[],_,_,_,_=>rfl
 | [],_::_,h,_,_,_=>by simp at h
 | _::_,[],h,_,_,_=>by simp at h
 | [x],[y],_,_,_,h=>by rw[Lib.join_one,Lib.join_one] at h;rw[h]
 | [x],_::_::_,h,_,_,_=>by simp at h
 | _::_::_,[y],h,_,_,_=>by simp at h
 | x::x2::xr,y::y2::yr,h,hx,hy,e=>by
  have e1:∀ (a b:List UInt8) (r:List (List UInt8)),Lib.join (a::b::r) [32]=a++32::Lib.join (b::r) [32]:=fun a b r=>by
   rw[Lib.join_cons,Lib.join_cons];unfold Lib.joinTail;simp
  rw[e1,e1] at e;have hxn:(32:UInt8) ∉ x:=hx x (by simp);have hyn:(32:UInt8) ∉ y:=hy y (by simp)
  have hsplit:∀ (a b p q:List UInt8),(32:UInt8) ∉ a->(32:UInt8) ∉ b->a++32::p=b++32::q->a=b/\p=q:=by
   intro a
   induction a with
   | nil =>
    intro b p q ha hb h;cases b with
    | nil=>simp at h;exact⟨rfl,h⟩
    | cons c r=>simp at h;exact absurd (by rw[<- h.1];simp) hb
   | cons c r ih =>
    intro b p q ha hb h;cases b with
    | nil=>simp at h;exact absurd (by rw[h.1];simp) ha
    | cons d s =>
     simp at h;obtain⟨h1,h2⟩:=ih s p q (fun hm=>ha (zqao _ hm)) (fun hm=>hb (zqao _ hm)) h.2;exact⟨by rw[h.1,h1],h2⟩
  obtain⟨h1,h2⟩:=hsplit x y _ _ hxn hyn e;rw[h1,zsV (x2::xr) (y2::yr) (by simpa using h) (fun a ha=>hx a (zqao _ ha)) (fun a ha=>hy a (zqao _ ha)) h2]
theorem zmD (n:Nat):(32:UInt8) ∉ decDigits n:=fun h=>by
 have:=List.all_eq_true.1 (ziD n) 32 h
 revert this
 decide
theorem zmE (v:Ext):(32:UInt8) ∉ (zri v).data.toList:=by
 rcases v with(_|_)|x
 ·decide
 ·decide
 ·show(32:UInt8) ∉ zgO x
  unfold zgO;intro h;rcases zqbo.1 h with h|h
  ·split at h
   ·revert h;decide
   ·cases h
  ·rcases zqbo.1 h with h|h
   ·exact zmD _ h
   ·split at h
    ·cases h
    ·rcases List.mem_cons.1 h with h|h
     ·revert h;decide
     ·exact zmD _ h
theorem zDP {v:Ext}(h:Fits v):(zri v).data.toList.length<=810:=by
 rcases v with(_|_)|x
 ·decide
 ·decide
 ·show(zgO x).length<=810
  obtain⟨h1,h2⟩:=h;unfold zgO;rw[zqag,zqag];have e1:(if x.num<0 then [45] else ([]:List UInt8)).length<=1:=by split <;> simp
  have e2:(if x.den=1 then ([]:List UInt8) else 47::decDigits x.den).length<=401:=by
   split
   ·simp
   ·rw[zqbu,Lib.decDigits_length];omega
  rw[Lib.decDigits_length];omega
theorem zDQ:∀ (xs:List (List UInt8)),(∀ x∈xs,x.length<=810)->(Lib.join xs [32]).length<=811*xs.length
 | [],_=>by simp[Lib.join_nil]
 | x::r,h=>by
  rw[Lib.join_cons,zqag];have h1:=h x (by simp)
  have h2:(Lib.joinTail [32] r).length<=811*r.length:=by
   have hr:∀ y∈r,y.length<=810:=fun y hy=>h y (zqao _ hy);clear h h1;unfold Lib.joinTail
   induction r with
   | nil=>simp
   | cons y s ih =>
    have:=ih (fun z hz=>hr z (zqao _ hz));have:=hr y (by simp);simp at *;omega
  rw[zqbu];omega
section
variable {k:Int}
def zcJ (m:Nat)(f:Nat->El k):ByteArray:=⟨(Lib.join (((List.range m).map (fun j=>tx (f j))).map (·.data.toList)) [32]).toArray⟩
theorem zHh {m:Nat}{f g:Nat->El k}(hf:∀ j,j<m->zam (f j))(hg:∀ j,j<m->zam (g j))(h:zcJ m f=zcJ m g):∀ j,j<m->f j=g j:=by
 unfold zcJ at h;have h1:=zqbz (fun b:ByteArray=>b.data.toList) h
 have h2:=zsV _ _ (by simp) (fun x hx=>by
  obtain⟨b,hb,rfl⟩:=zqbf.1 hx;obtain⟨j,_,rfl⟩:=zqbf.1 hb;exact zmE _) (fun x hx=>by
  obtain⟨b,hb,rfl⟩:=zqbf.1 hx;obtain⟨j,_,rfl⟩:=zqbf.1 hb;exact zmE _) h1
 intro j hj;have h3:=zqbz (fun l:List (List UInt8)=>l[j]?) h2;simp[hj] at h3;exact zfu (hf j hj) (hg j hj) (ByteArray.ext h3)
theorem zsW {m:Nat}{f:Nat->El k}(hf:∀ j,j<m->zam (f j)):(Lib.join (((List.range m).map (fun j=>tx (f j))).map (·.data.toList)) [32]).length<=811*m:=by
 have:=zDQ (((List.range m).map (fun j=>tx (f j))).map (·.data.toList)) (fun x hx=>by
  obtain⟨b,hb,rfl⟩:=zqbf.1 hx;obtain⟨j,hj,rfl⟩:=zqbf.1 hb;exact zDP (hf j (List.mem_range.1 hj)))
 simpa using this
theorem zvE {m:Nat}{A:Nat->Nat->El k}{i:Nat}{n:Nat}(hA:∀ i,i<n->∀ j,j<m->zam (A i j))(hi:i<n):∀ {R:List Nat},(∀ x∈R,x<n)->(R.map (fun x=>zcJ m (A x))).findIdx? (fun t=>decide (t=zcJ m (A i)))=R.findIdx? (fun x=>eqR m A x i):=by
 intro R hR;rw[List.findIdx?_map]
 induction R with
 | nil=>rfl
 | cons x r ih =>
  have hx:(fun t=>decide (t=zcJ m (A i))) (zcJ m (A x))=eqR m A x i:=by
   rw[Bool.eq_iff_iff];constructor
   ·intro h
    exact zhn.2 (zHh (hA x (hR x (by simp))) (hA i hi) (of_decide_eq_true h))
   ·intro h
    have:=zhn.1 h;refine decide_eq_true ?_;unfold zcJ;rw[show(List.range m).map (fun j=>tx (A x j))=(List.range m).map (fun j=>tx (A i j)) from List.map_congr_left (fun j hj=>by rw[this j (List.mem_range.1 hj)])]
  rw[List.findIdx?_cons,List.findIdx?_cons,ih (fun y hy=>hR y (zqao _ hy))];show(if (fun t=>decide (t=zcJ m (A i))) (zcJ m (A x))=true then _ else _)=_;rw[hx]
theorem zql (eq:Nat->Nat->Bool)(i:Nat):zaM eq (i+1)=match (zaM eq i).1.findIdx? (fun j=>eq j i) with
  | some k=>((zaM eq i).1,(zaM eq i).2++[k])
  | none=>((zaM eq i).1++[i],(zaM eq i).2++[(zaM eq i).1.length]):=rfl
theorem zAu {m:Nat}{A:Nat->Nat->El k}{i n:Nat}(hA:∀ i,i<n->∀ j,j<m->zam (A i j))(hi:i<n)(h:zcJ m (A i)∈(zaM (eqR m A) i).1.map (fun x=>zcJ m (A x))) :
  (zaM (eqR m A) (i+1)).1=(zaM (eqR m A) i).1/\(zaM (eqR m A) (i+1)).2=(zaM (eqR m A) i).2++[zjX ((zaM (eqR m A) i).1.map (fun x=>zcJ m (A x))) (zcJ m (A i))]:=by
 have hs:=zkj (eq:=eqR m A) (fun i=>zhn.2 (fun _ _=>rfl)) i
 have hR:∀ x∈(zaM (eqR m A) i).1,x<n:=fun x hx=>by
  obtain⟨j,hj,rfl⟩:=List.getElem_of_mem hx;have:=hs.rl j hj;rw[zqaa,zqac hj] at this;simp at this;omega
 have hf:=zvE hA hi hR;unfold zjX;rw[hf]
 have hne:(zaM (eqR m A) i).1.findIdx? (fun x=>eqR m A x i)≠none:=by
  rw[<- hf];intro hn;have:=List.findIdx?_eq_none_iff.1 hn _ h;simp at this
 obtain⟨q,hq⟩:=Option.ne_none_iff_exists'.1 hne;rw[zql,hq];exact⟨rfl,rfl⟩
theorem zHi {m:Nat}{A:Nat->Nat->El k}{i n:Nat}(hA:∀ i,i<n->∀ j,j<m->zam (A i j))(hi:i<n)(h:zcJ m (A i) ∉ (zaM (eqR m A) i).1.map (fun x=>zcJ m (A x))) :
  (zaM (eqR m A) (i+1)).1=(zaM (eqR m A) i).1++[i]/\(zaM (eqR m A) (i+1)).2=(zaM (eqR m A) i).2++[(zaM (eqR m A) i).1.length]:=by
 have hs:=zkj (eq:=eqR m A) (fun i=>zhn.2 (fun _ _=>rfl)) i
 have hR:∀ x∈(zaM (eqR m A) i).1,x<n:=fun x hx=>by
  obtain⟨j,hj,rfl⟩:=List.getElem_of_mem hx;have:=hs.rl j hj;rw[zqaa,zqac hj] at this;simp at this;omega
 have hf:=zvE hA hi hR
 have hne:(zaM (eqR m A) i).1.findIdx? (fun x=>eqR m A x i)=none:=by
  rw[<- hf];exact List.findIdx?_eq_none_iff.2 (fun x hx=>by simp;rintro rfl;exact h hx)
 rw[zql,hne];exact⟨rfl,rfl⟩
def zjY (w:World)(v:Value)(m:Nat)(f:Nat->El k):Prop:=∃ g o c,v=.slice (some ⟨g,o,none⟩) m c/\m<=c/\c<=maxLen/\zaq w g o m (txs f)
theorem zjY.grown {w w':World}{v:Value}{m:Nat}{f:Nat->El k}(h:zjY w v m f)(hg:w.grownBy w' none):zjY w' v m f:=by
 obtain⟨g,o,c,h1,h2,h3,h4⟩:=h;exact⟨g,o,c,h1,h2,h3,h4.grown hg⟩
theorem zjY.row {w:World}{v:Value}{m:Nat}{f:Nat->El k}(h:zjY w v m f):zaG w v m (txs f):=by
 obtain⟨g,o,c,rfl,h2,h3,h4⟩:=h;exact h4.row h2 h3
structure zfc (m n:Nat)(A:Nat->Nat->El k)(rs:Nat->Value)(w:World)(i:Nat)(rv cv:Value)(wr:World):Prop where
 le:i<=n
 gr:w.grownBy wr none
 nums:zfX wr w.heap.size ((zaM (eqR m A) i).1.map (fun x=>zcJ m (A x)))
 own1:wr.ownsRow (w.heap.size+1) 33 1 rv (zaM (eqR m A) i).1.length ((zaM (eqR m A) i).1.map rs)
 own2:wr.ownsRow (w.heap.size+1) 3 1 cv (zaM (eqR m A) i).2.length ((zaM (eqR m A) i).2.map (fun x=>.int .i64 ((x:Nat):Int)))
 dis:rv.ownBlock=none∨cv.ownBlock=none∨rv.ownBlock≠cv.ownBlock
theorem zDR:∃ i0:TypeInfo,Tryz.prog.info? 33=some i0/\i0.zero=some (.slice none 0 0)/\i0.size=1/\i0.bytes=24:=info_parts zeN
theorem zDS:(Tryz.prog.info? 3).map (fun i=>(i.zero,i.size,i.bytes))=some (some (.int .i64 0),1,8):=by kernel_rfl
theorem zsX {w:World}{B n:Nat}{T:TypeId}{v:Value}{xs:List Value}(h:w.ownsRow B T 1 v n xs)(z:Value):zaG w v n (fun j=>xs.getD j z):=by
 obtain⟨hl,⟨rfl,rfl⟩|⟨g,c,cur,rfl,hb,hg,h1,h2,hs,ht⟩⟩:=h
 ·exact⟨none,0,rfl,zqab _,by unfold maxLen;omega,fun j hj=>absurd hj (by omega)⟩
 ·refine⟨_,c,rfl,h1,h2,fun j hj=>⟨_,rfl,(zqad.1 hg).1,?_⟩⟩
  rw[zcl,zqat,zqbw w g j _ _ (0,0) hg,<- Array.getElem?_toList];dsimp only;rw[<- ht,zqaa,List.getElem?_take_of_lt (by omega),zqac (by simp;omega)];rfl
theorem zvF {w w':World}(h:Below w.heap.size w w'):w.grownBy w' none:=⟨h.os,h.tape,h.output,h.size,fun i hi _=>h.block i hi⟩
theorem zfc.start (m n:Nat)(A:Nat->Nat->El k)(rs:Nat->Value)(w:World):zfc m n A rs w 0 (.slice none 0 0) (.slice none 0 0) (w.alloc (.map #[] 0)) :=
 ⟨zqaw _,zGA _ _ none,zfX.made w,⟨rfl,.inl ⟨rfl,rfl⟩⟩,⟨rfl,.inl ⟨rfl,rfl⟩⟩,.inl rfl⟩
theorem zfc.near {m n:Nat}{A:Nat->Nat->El k}{rs:Nat->Value}{w:World}{i:Nat}{rv cv:Value}{wr w':World}(h:zfc m n A rs w i rv cv wr)(hg:wr.grownBy w' none):zfc m n A rs w i rv cv w' :=
 ⟨h.le,zaa h.gr hg,h.nums.kept hg (by simp),h.own1.kept hg (by cases rv.ownBlock <;> simp),h.own2.kept hg (by cases cv.ownBlock <;> simp),h.dis⟩
theorem zlm {w w1 w2:World}{B n:Nat}{T:TypeId}{v:Value}{xs:List Value}(h:w1.ownsRow B T 1 v n xs)(hB:w.heap.size<=B)(h1:w.grownBy w1 none)(h2:w1.grownBy w2 v.ownBlock):w.grownBy w2 none:=by
 rcases h.2 with⟨rfl,_⟩|⟨g,c,cur,rfl,hb,_⟩
 ·exact zaa h1 h2
 ·exact zaj h1 h2 (by show w.heap.size<=g;omega)
theorem zDT {a b:Option Nat}(h:a=none∨b=none∨a≠b):b=none∨b≠a:=by
 rcases h with h|h|h
 ·subst h
  cases b <;> simp
 ·exact .inl h
 ·exact .inr (Ne.symm h)
theorem zoK {W:World}{B:Nat}{T:TypeId}{n:Nat}{xs:List Value}{v x v':Value}{H:Nat}(h:v.ownBlock=none∨x.ownBlock=none∨v.ownBlock≠x.ownBlock)(hx:W.ownsRow B T 1 x n xs)(hH:W.heap.size<=H)
  (hat:v'.ownBlock=v.ownBlock∨v'.ownBlock=some H):v'.ownBlock=none∨x.ownBlock=none∨v'.ownBlock≠x.ownBlock:=by
 rcases hat with e1|e1
 ·rw[e1];exact h
 ·rw[e1]
  refine .inr ?_;cases hb:x.ownBlock with
  | none=>exact .inl rfl
  | some g =>
   refine .inr ?_;have:=(hx.lt g hb).2;simp;omega
theorem zfc.row {m n:Nat}{A:Nat->Nat->El k}{rs:Nat->Value}{w:World}{i:Nat}{rv cv:Value}{wr:World}(h:zfc m n A rs w i rv cv wr){w5 w6:World}{o:Obj}{rv':Value}
  (hst:zfX w5 w.heap.size ((zaM (eqR m A) i).1.map (fun x=>zcJ m (A x))++[zcJ m (A i)])) (hg5:wr.grownBy w5 (some w.heap.size))
  (hown:w6.ownsRow (w.heap.size+1) 33 1 rv' ((zaM (eqR m A) i).1.length+1) ((zaM (eqR m A) i).1.map rs++[rs i])) (hg6:(w5.alloc o).grownBy w6 rv.ownBlock) (hat:rv'.ownBlock=rv.ownBlock∨rv'.ownBlock=some (w5.alloc o).heap.size) :
  w.grownBy w6 none/\zfX w6 w.heap.size ((zaM (eqR m A) i).1.map (fun x=>zcJ m (A x))++[zcJ m (A i)]) /\
   w6.ownsRow (w.heap.size+1) 3 1 cv (zaM (eqR m A) i).2.length ((zaM (eqR m A) i).2.map (fun x=>.int .i64 ((x:Nat):Int)))/\(rv'.ownBlock=none∨cv.ownBlock=none∨rv'.ownBlock≠cv.ownBlock):=by
 have hne:∀ {T:TypeId} {v:Value} {n:Nat} {xs:List Value},wr.ownsRow (w.heap.size+1) T 1 v n xs->v.ownBlock=none∨v.ownBlock≠some w.heap.size:=fun {T v n xs} hv=>by
  cases hb:v.ownBlock with
  | none=>exact .inl rfl
  | some g=>have:=(hv.lt g hb).1;right;simp;omega
 have o1:=(h.own1.kept hg5 (hne h.own1)).alloc o;have o2:=(h.own2.kept hg5 (hne h.own2)).alloc o;have hgw:w.grownBy (w5.alloc o) none:=zaa (zaj h.gr hg5 (zqab _)) (zGA _ _ none);refine⟨zlm o1 (by omega) hgw hg6,(hst.kept (zGA _ o none) (by simp)).kept hg6 ?_,o2.kept hg6 (zDT h.dis),zoK h.dis o2 (zqab _) hat⟩;cases hb:rv.ownBlock with
 | none=>simp
 | some g=>have:=(h.own1.lt g hb).1;simp;omega
theorem zvG (n m:Nat)(A:Nat->Nat->El k)(rs:Nat->Value)(av:Value)(w:World)(hn:n<=10000)(hm:m<=10000)(ha:zaG w av n rs)(hr:∀ i,i<n->zjY w (rs i) m (A i))(hA:∀ i,i<n->∀ j,j<m->zam (A i j)) :
  Calls Tryz.prog 74 #[av] w fun e w'=>∃ rv cv,e=.returned (.tuple #[rv,cv])/\zfc m n A rs w n rv cv w':=by
 obtain⟨Ad,c,rfl,ha1,ha2,ha3⟩:=ha;obtain⟨i0,hi,hz0,hz1,hz2⟩:=zDR;obtain⟨i1,hj,hy0,hy1,hy2⟩:=info_parts zDS
 have hjoin:∀ i,i<n->∀ w',w.grownBy w' none->Calls Tryz.prog 130 #[rs i,.string ⟨#[32]⟩] w' fun e w2=>e=.returned (.string (zcJ m (A i)))/\w'.grownBy w2 none:=fun i hi w' hg=>by
  obtain⟨g,o,c,e,h1,h2,h3⟩:=(hr i hi).grown hg;rw[e]
  have h:=Tryz.sh_Join g o c ((List.range m).map (fun j=>tx (A i j))) ⟨#[32]⟩ w' (fun j x hx=>by
   obtain⟨hj1,rfl⟩:=zqae.1 hx;simp at hj1;rw[h3.2 j hj1];simp[txs]) h3.1 (by simp;omega) (by simpa using h1) (by
   have:=zsW (m:=m) (hA i hi);show(Lib.join _ [32]).length<=_;omega)
  rw[show((List.range m).map (fun j=>tx (A i j))).length=m by simp] at h;exact h.mono (fun e w2 ⟨h1,h2⟩=>⟨h1,zvF h2⟩)
 have hmm:∀ w:World,(Instr.makeMap 120 none).run Tryz.prog w=.ok (.map (some w.heap.size)) (w.alloc (.map #[] 0)):=fun w=>run_makeMap _ w;have HA:=zHd ha3;have HJ:=zHd hjoin;have HN:=zHd (zAI hn hm);have HF:=zHd hA
 have hre:∀ i,i<n->∃ g o c,rs i=.slice (some ⟨g,o,none⟩) m c:=fun i hi=>by
  obtain⟨g,o,c,e,_⟩:=hr i hi;exact⟨g,o,c,e⟩
 have HRE:=zHd hre;clear ha1 ha2 ha3 hr hA hn hm hjoin hre;go_enter Tryz.func74,Tryz.ntmps74;go_wp2
 go_loopw [2,3,13] (fun rv cv iv wr=>∃ i:Nat,iv=.int .i64 (i:Int)/\zfc m n A rs w i rv cv wr) (fun _ _ iv _=>n-(intOf iv).toNat)
 case atStart=>exact⟨0,rfl,zfc.start m n A rs w⟩
 case round =>
  obtain⟨i,rfl,hinv⟩:=hrel
  by_cases hin:i<n
  ·obtain⟨ad,rfl,hb,hc⟩:=HA.out i hin
   have hc2:wr.cell? (ad.add i)=some (rs i):=(zaD (ad:=ad.add i) (by rw[zau];exact hinv.gr.block ad.block hb (by simp))).trans hc;have t1:decide (i<n)=true:=by simpa using hin
   have t1':decide ((i:Int)<(n:Int))=true:=by simpa using hin
   have hit:(i:Int)<(n:Int):=by omega
   have n1:IntKind.i64.wrap ((i:Int)+1)=(i:Int)+1:=by have:=HN.out;rw[zqah];omega
   obtain⟨g3,o3,c3,hrs3⟩:=HRE.out i hin;have hcall:=HJ.out i hin wr hinv.gr;rw[hrs3] at hc2 hcall;have HI:=zHd (zAI hin hinv);have HCALL:=zHd hcall;have HRS:=zHd hrs3;clear hin hinv hb hc hcall hrs3;go_wp2_with fail;refine HCALL.out.mono ?_;rintro e w1 ⟨rfl,hg1⟩;have hinv1:=HI.out.2.near hg1
   have hsz:(zcJ m (A i)).size<=maxLen:=by
    have h1:=zsW (m:=m) (HF.out i HI.out.1);have h2:=HN.out;show(zcJ m (A i)).data.size<=maxLen;unfold zcJ maxLen;simp only[List.size_toArray];omega
   have hlook:=hinv1.nums.look_ok hsz;have hs:=zkj (eq:=eqR m A) (fun i=>zhn.2 (fun _ _=>rfl)) i
   by_cases hmem:zcJ m (A i)∈(zaM (eqR m A) i).1.map (fun x=>zcJ m (A x))
   ·obtain⟨q1,q2⟩:=zAu HF.out HI.out.1 hmem
    rw[decide_eq_true hmem] at hlook;obtain⟨z,hzz⟩:∃ z,z=zjX ((zaM (eqR m A) i).1.map (fun x=>zcJ m (A x))) (zcJ m (A i)):=⟨_,rfl⟩;rw[<- hzz] at hlook q2;have hown2:=hinv1.own2;have H1:=zHd (zAI hinv1 (zAI q1 q2));have HS:=zHd hs;clear hinv1 q1 q2 hg1 hmem hzz hs hsz;go_wp2_with (at_builtin;refine wpList_append_own_at _ rfl _ _ 51 rfl (w.heap.size+1) 3 i1 (.int .i64 0) 1 8 Tryz.underlying51 hj hy0 hy1 hy2 rfl (by decide) _ _ _ rfl (hown2.alloc _) ⟨w1.heap.size,0,none⟩ 1 1 [.int .i64 ((z:Nat):Int)] rfl rfl ?c1 ?c2 ?c3 ?c4 ?c5 ?_)
    case c1 =>
     intro j u hu;obtain⟨hj1,rfl⟩:=zqae.1 hu;obtain rfl:j=0:=by simpa using hj1
     exact zao _ _ _ rfl
    case c2=>intro u hu;rw[zqbk.1 hu];rfl
    case c3=>have:=HS.out.len;have:=HN.out;have:=HI.out.1;unfold maxLen;omega
    case c4=>have:=HS.out.len;have:=HN.out;have:=HI.out.1;omega
    case c5=>have:=H1.out.1.gr.size;have:=H1.out.1.nums.lt;simp;omega
    intro v' w5 hown' hgrow _ hat;have H5:=zHd (zAI hown' (zAI hgrow (zAI hown2 hat)));clear hown' hgrow hown2 hat;go_wp2;obtain⟨hinv1,q1,q2⟩:=H1.out;obtain⟨hown',hgrow,hown2,hat⟩:=H5.out;have hgw:w.grownBy w5 none:=zlm (hown2.alloc _) (by omega) (zaa hinv1.gr (zGA _ _ none)) hgrow;refine⟨⟨i+1,by simp,HI.out.1,hgw,?_,?_,?_,?_⟩,by have:=HI.out.1;simp[intOf];omega⟩
    ·rw[q1]
     refine(hinv1.nums.kept (zGA _ _ none) (by simp)).kept hgrow ?_;cases hb:u3.ownBlock with
     | none=>simp
     | some g=>have:=(hown2.lt g hb).1;simp;omega
    ·rw[q1]
     refine(hinv1.own1.alloc _).kept hgrow ?_;rcases hinv1.dis with h|h|h
     ·exact .inl h
     ·rw[h];cases u2.ownBlock <;> simp
     ·exact .inr h
    ·rw[q2,zqag,List.map_append];exact hown'
    ·rcases zoK (v:=u3) (x:=u2) (v':=v') (by rcases hinv1.dis with h|h|h;exact .inr (.inl h);exact .inl h;exact .inr (.inr (Ne.symm h))) (hinv1.own1.alloc (.cells #[.int .i64 ((z:Nat):Int)] 3)) (by simp) hat with h|h|h
     ·exact .inr (.inl h)
     ·exact .inl h
     ·exact .inr (.inr (Ne.symm h))
   ·obtain⟨q1,q2⟩:=zHi HF.out HI.out.1 hmem
    rw[zqcb hmem] at hlook;obtain⟨w2,hst,hm2,hg2⟩:=hinv1.nums.store hsz hmem (by rw[zqbn];have:=hs.le;have:=HI.out.1;have:=HN.out;unfold maxLen;omega);rw[zqbn] at hst;have hown1:=hinv1.own1
    have hne1:u2.ownBlock=none∨u2.ownBlock≠some w.heap.size:=by
     cases hb:u2.ownBlock with
     | none=>exact .inl rfl
     | some g=>have:=(hown1.lt g hb).1;right;simp;omega
    have hown1':=hown1.kept hg2 hne1
    obtain⟨A0,c0,hrl⟩:∃ A0 c0,u2=.slice A0 (zaM (eqR m A) i).1.length c0:=by
     rcases hown1.2 with⟨e,e2⟩|⟨g,c,cur,e,_⟩
     ·exact⟨_,_,by rw[e,e2]⟩
     ·exact⟨_,_,e⟩
    have hKn:(zaM (eqR m A) i).1.length<=10000:=(by have:=hs.le;have:=HI.out.1;have:=HN.out.1;omega);have hCn:(zaM (eqR m A) i).2.length<=10000:=(by have:=hs.len;have:=HI.out.1;have:=HN.out.1;omega);have hbase1:w.heap.size+1<=w2.heap.size:=(by have:=hm2.lt;omega);have hrowF:=fun(w6:World) (rv':Value) h1 h2 h3=>hinv1.row (w5:=w2) (w6:=w6) (o:=.cells #[.slice (some ⟨g3,o3,none⟩) m c3] 33) (rv':=rv') hm2 hg2 h1 h2 h3;rw[HRS.out] at hrowF;have H1:=zHd (zAI q1 q2);have HS:=zHd hs;have HRF:=zHd hrowF;have HK:=zHd (zAI hKn (zAI hCn hbase1));have HG12:=zHd hg2;obtain⟨K,hKe⟩:∃ K,K=(zaM (eqR m A) i).1.length:=⟨_,rfl⟩;have HKE:=zHd hKe;rw[<- hKe] at hst hrl hown1';subst hrl;clear hinv1 q1 q2 hg1 hmem hs hsz hm2 hg2 hown1 hne1 hrowF hKn hCn hbase1 hKe;go_wp2_with (at_builtin;refine wpList_append_own_at _ rfl _ _ 22 rfl (w.heap.size+1) 33 i0 (.slice none 0 0) 1 24 Tryz.underlying22 hi hz0 hz1 hz2 rfl (by decide) _ _ _ rfl (hown1'.alloc _) ⟨w2.heap.size,0,none⟩ 1 1 [.slice (some ⟨g3,o3,none⟩) m c3] rfl rfl ?c1 ?c2 ?c3 ?c4 ?c5 ?_)
    case c1 =>
     intro j u hu;obtain⟨hj1,rfl⟩:=zqae.1 hu;obtain rfl:j=0:=by simpa using hj1
     exact zao _ _ _ rfl
    case c2=>intro u hu;rw[zqbk.1 hu];rfl
    case c3=>have:=HK.out.1;have:=HKE.out;unfold maxLen;omega
    case c4=>have:=HK.out.1;have:=HKE.out;omega
    case c5=>have:=HK.out.2.2;simp;omega
    intro v' w5 hown' hgrow _ hat;rw[HKE.out] at hown';obtain⟨hgw,hnum,hown2,hdis⟩:=HRF.out w5 v' hown' hgrow (by simpa using hat);have hsz5:w.heap.size+1<=w5.heap.size:=(by have:=hnum.lt;omega);have H5:=zHd (zAI hown' (zAI hgw (zAI hnum hdis)));have H52:=zHd hown2;have HSZ:=zHd hsz5;clear hown' hgrow hown2 hat hgw hnum hdis hsz5 hown1';go_wp2_with (at_builtin;refine wpList_append_own_at _ rfl _ _ 51 rfl (w.heap.size+1) 3 i1 (.int .i64 0) 1 8 Tryz.underlying51 hj hy0 hy1 hy2 rfl (by decide) _ _ _ rfl (H52.out.alloc _) ⟨w5.heap.size,0,none⟩ 1 1 [.int .i64 ((K:Nat):Int)] rfl rfl ?d1 ?d2 ?d3 ?d4 ?d5 ?_)
    case d1 =>
     intro j u hu;obtain⟨hj1,rfl⟩:=zqae.1 hu;obtain rfl:j=0:=by simpa using hj1
     exact zao _ _ _ rfl
    case d2=>intro u hu;rw[zqbk.1 hu];rfl
    case d3=>have:=HK.out.2.1;unfold maxLen;omega
    case d4=>have:=HK.out.2.1;omega
    case d5=>have:=HSZ.out;simp;omega
    intro v2 w6 hown6 hgrow6 _ hat6;have H6:=zHd (zAI hown6 (zAI hgrow6 hat6));clear hown6 hgrow6 hat6;go_wp2;obtain⟨q1,q2⟩:=H1.out;obtain⟨hown1,hgw,hnum,hdis⟩:=H5.out;obtain⟨hown6,hgrow6,hat6⟩:=H6.out;have hgw6:w.grownBy w6 none:=zlm (H52.out.alloc _) (by omega) (zaa hgw (zGA _ _ none)) hgrow6;refine⟨⟨i+1,by simp,HI.out.1,hgw6,?_,?_,?_,?_⟩,by have:=HI.out.1;simp[intOf];omega⟩
    ·rw[q1,List.map_append]
     refine(hnum.kept (zGA _ _ none) (by simp)).kept hgrow6 ?_;cases hb:u3.ownBlock with
     | none=>simp
     | some g=>have:=(H52.out.lt g hb).1;simp;omega
    ·rw[q1,zqag,List.map_append]
     show w6.ownsRow _ _ 1 v' _ (_++[rs i]);rw[HRS.out];refine(hown1.alloc _).kept hgrow6 ?_;rcases hdis with h|h|h
     ·exact .inl h
     ·rw[h];cases v'.ownBlock <;> simp
     ·exact .inr h
    ·rw[q2,zqag,List.map_append,<- HKE.out];exact hown6
    ·rcases zoK (v:=u3) (x:=v') (v':=v2) (by rcases hdis with h|h|h;exact .inr (.inl h);exact .inl h;exact .inr (.inr (Ne.symm h))) (hown1.alloc (.cells #[.int .i64 ((K:Nat):Int)] 3)) (by simp) hat6 with h|h|h
     ·exact .inr (.inl h)
     ·exact .inl h
     ·exact .inr (.inr (Ne.symm h))
  ·have hle:=hinv.le
   obtain rfl:i=n:=by omega
   have t1:decide (i<i)=false:=by simp
   have t1':decide ((i:Int)<(i:Int))=false:=by simp
   have HI:=zHd hinv;clear hinv hin hle;go_wp2;exact zqby (v:=.tuple #[u2,u3]) (by simp[results,Tryz.results74,go_sem]) rfl ⟨_,_,rfl,HI.out⟩
end
open Go.RowKit
section
variable {k:Int}
def zrQ (hk:zad k)(A:Nat->El k)(j:Nat):El k:=(srE k hk).mul ((srE k hk).star (A 0)) (A (j+1))
def zyy (hk:zad k)(m:Nat)(A:Nat->El k):Prop:=zam ((srE k hk).star (A 0))/\∀ j,j<m->zam (zrQ hk A j)
def zrR:Obj:=.cells #[.int .i64 0,.string ⟨#[]⟩,.string ⟨#[]⟩,.slice none 0 0] 124
theorem zvH (hk:zad k)(m g0 off c0:Nat)(A:Nat->El k)(w:World)(hm0:1<=m)(hm:m<=10000)(hA:zaq w g0 off (m+1) (txs A))(hc1:m+1<=c0)(hc2:c0<=maxLen)(hAf:∀ j,j<m+1->zam (A j)) :
  Calls Tryz.prog 131 #[zbi k,.slice (some ⟨g0,off,none⟩) (m+1) c0] w (zbO (zyy hk m A) (fun v w'=>∃ g,v=zjW k g 0 m m/\w.heap.size<=g/\zaq w' g 0 m (txs (zrQ hk A))) w):=by
 have hmf := @zMF Tryz.prog;have hst:=fun w'=>zDt hk (hAf 0 (by omega)) w'
 have hmap:=fun(hs:zam ((srE k hk).star (A 0))) (w5:World) (h5:w.grownBy w5 none)=>zxi 167 zqi #[zoA k (tx ((srE k hk).star (A 0)))] #[] m (txs (fun j=>A (j+1))) (fun j=>zam (zrQ hk A j)) (fun j=>tx (zrQ hk A j)) (.slice (some ⟨g0,off+1,none⟩) m (c0-1)) w5 hm
  ((hA.grown h5).tail.row (by omega) (by omega)) (fun i hi w' _=>zmy hk hs (hAf (i+1) (by omega)) w')
 have hW:w.grownBy ((w.alloc (.cells #[.int .i64 k,.string (zae k),.string (zal k)] 64)).alloc zrR) none:=zaa (zGA _ _ none) (zGA _ _ none);have hW1:(w.alloc (.cells #[.int .i64 k,.string (zae k),.string (zal k)] 64)).grownBy ((w.alloc (.cells #[.int .i64 k,.string (zae k),.string (zal k)] 64)).alloc zrR) none:=zGA _ _ none;have x0:=hW1.cell (zao w #[.int .i64 k,.string (zae k),.string (zal k)] 64 (j:=0) rfl) (by simp);have x1:=hW1.cell (zao w #[.int .i64 k,.string (zae k),.string (zal k)] 64 (j:=1) rfl) (by simp);have x2:=hW1.cell (zao w #[.int .i64 k,.string (zae k),.string (zal k)] 64 (j:=2) rfl) (by simp)
 have xr:((w.alloc (.cells #[.int .i64 k,.string (zae k),.string (zal k)] 64)).alloc zrR).heap[w.heap.size+1]?=some zrR:=by
  have h:=zaE (w.alloc (.cells #[.int .i64 k,.string (zae k),.string (zal k)] 64)) zrR;rw[show(w.alloc (.cells #[.int .i64 k,.string (zae k),.string (zal k)] 64)).heap.size=w.heap.size+1 by simp] at h;exact h
 have a0:w.cell? ⟨g0,off,none⟩=some (.string (tx (A 0))):=hA.2 0 (by omega);have xa:=hW.cell a0 (by simp);have i5:(1:Int)<=(c0:Int):=by omega
 have i6:1<=c0:=by omega
 have i7:(1:Int)<=((m+1:Nat):Int):=by omega
 have i8:((m+1:Nat):Int)<=(c0:Int):=by omega
 have i3:¬ c0=1:=by omega
 have i9:(0:Int)<((m+1:Nat):Int):=by omega
 have j1:(1:Int)<=(m:Int)+1:=by omega
 have j2:(m:Int)+1<=(c0:Int):=by omega
 have j3:(0:Int)<=(m:Int):=by omega
 have j4:m+1<=c0:=by omega
 have j5:1<=m+1:=by omega
 have j6:(0:Int)<(m:Int)+1:=by omega
 have hne1:¬ w.heap.size+1=g0:=by have:=hA.1;omega
 have hne2:¬ g0=w.heap.size+1:=by have:=hA.1;omega
 have HST:=zHd hst;have HM:=zHd hmap;have HX:=zHd (zAI x0 (zAI x1 (zAI x2 (zAI xr (zAI xa hW)))));clear hst hmap x0 x1 x2 xr xa hW hW1 a0 hA hAf;unfold zbi at *;go_enter Tryz.func131,Tryz.ntmps131;go_upto_region 1 with(fail);obtain⟨x0,x1,x2,xr,xa,hW⟩:=HX.out;unfold zrR at x0 x1 x2 xr xa hW;generalize ((w.alloc (.cells #[.int .i64 k,.string (zae k),.string (zal k)] 64)).alloc (.cells #[.int .i64 0,.string ⟨#[]⟩,.string ⟨#[]⟩,.slice none 0 0] 124))=W at *;have d0:W.drew.cell? ⟨w.heap.size,0,none⟩=some (.int .i64 k):=x0;have d1:W.drew.cell? ⟨w.heap.size,1,none⟩=some (.string (zae k)):=x1;have d2:W.drew.cell? ⟨w.heap.size,2,none⟩=some (.string (zal k)):=x2;have da:W.drew.cell? ⟨g0,off,none⟩=some (.string (tx (A 0))):=xa;have hWd:w.grownBy W.drew none:=zaa hW (zag W none);have HG:=zHd hWd;have HXR:=zHd (show W.drew.heap[w.heap.size+1]?=_ from xr);clear x0 x1 x2 xr xa hW HX hWd
 go_region_held2 (fun W'=>W'.cell? ⟨w.heap.size,0,none⟩=some (.int .i64 k)/\W'.cell? ⟨w.heap.size,1,none⟩=some (.string (zae k))/\W'.cell? ⟨w.heap.size,2,none⟩=some (.string (zal k))/\W'.cell? ⟨g0,off,none⟩=some (.string (tx (A 0)))) (go_keep)
  (first
  | (go_at_call 166;refine(HST.out _).mono ?_;clear HST;rintro e w5 (⟨hp,rfl,hg5⟩|⟨hn,rfl,hg5⟩);rotate_left 1;(exact⟨rfl,.inr ⟨fun h=>hn h.1,rfl,zaa HG.out hg5⟩⟩);have s0:=hg5.cell d0 (by simp);have s1:=hg5.cell d1 (by simp);have s2:=hg5.cell d2 (by simp);have sa:=hg5.cell da (by simp);have H5:=zHd (zAI hp hg5);clear hg5 hp)
  | (go_at_call 165;refine(HM.out H5.out.1 w5 (zaa HG.out H5.out.2)).mono ?_;clear HM;rintro e w6 (⟨hp,v,rfl,⟨rfl,hr6⟩,hg6⟩|⟨hn,rfl,hg6⟩);rotate_left 1;(exact⟨rfl,.inr ⟨fun h=>hn h.2,rfl,zaa (zaa HG.out H5.out.2) hg6⟩⟩);have p0:=hg6.cell s0 (by simp);have p1:=hg6.cell s1 (by simp);have p2:=hg6.cell s2 (by simp);have pa:=hg6.cell sa (by simp);have hx6:=(hg6.block _ (by have:=(zqad.1 HXR.out).1;have:=H5.out.2.size;omega) (by simp)).trans ((H5.out.2.block _ (zqad.1 HXR.out).1 (by simp)).trans HXR.out);have q0:=zqbw w6 _ 0 _ _ (0,0) hx6;have q1:=zqbw w6 _ 1 _ _ (0,0) hx6;have q2:=zqbw w6 _ 2 _ _ (0,0) hx6;have q3:=zqbw w6 _ 3 _ _ (0,0) hx6;have z0:=zqbx w6 _ 0 _ _ hx6;have z1:=zqbx w6 _ 1 _ _ hx6;have z2:=zqbx w6 _ 2 _ _ hx6;have z3:=zqbx w6 _ 3 _ _ hx6;have H6:=zHd (zAI hp (zAI hr6 (zAI hg6 hx6)));clear hp hr6 hg6 hx6))
 all_goals
  go_wp2;obtain⟨hp,hr6,hg6,hx6⟩:=H6.out;have hgg:=zaa (zaa HG.out H5.out.2) hg6;refine zqby (v:=zjW k w5.heap.size 0 m m) ?_ rfl (.inl ⟨⟨H5.out.1,hp⟩,_,rfl,⟨w5.heap.size,rfl,zqam HG.out.size H5.out.2.size,?_⟩,?_⟩)
  ·simp[results,Tryz.results131,go_sem,q0,q1,q2,q3,zjW]
  ·have hne:w5.heap.size≠w.heap.size+1:=by have:=(zqad.1 HXR.out).1;have:=H5.out.2.size;omega
   exact(((hr6.grownB (zac _ _ _) hne).grownB (zac _ _ _) hne).grownB (zac _ _ _) hne).grownB (zac _ _ _) hne
  ·exact zaj (zaj (zaj (zaj hgg (zac _ _ _) (by show w.heap.size<=w.heap.size+1;omega)) (zac _ _ _) (by show w.heap.size<=w.heap.size+1;omega)) (zac _ _ _) (by show w.heap.size<=w.heap.size+1;omega)) (zac _ _ _) (by show w.heap.size<=w.heap.size+1;omega)
end
end Go.Proofs.YtaogepcaoogpgaaGreatDoor
