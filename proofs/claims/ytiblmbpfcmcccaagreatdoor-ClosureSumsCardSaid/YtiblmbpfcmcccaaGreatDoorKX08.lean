/- Part. -/
import Derived.Test.YtiblmbpfcmcccaaGreatDoorKX07
import Derived.Lib.AppendZerosOnto
import Derived.Lib.JoinLaws
set_option linter.unusedVariables false
set_option linter.defProp false
set_option linter.unusedSimpArgs false
set_option maxRecDepth 100000
set_option maxHeartbeats 16000000
namespace Go.Proofs.YtiblmbpfcmcccaaGreatDoor
open Go.Proofs.Tryz
open Go.RowKit
open Go.Lib (nDigits decDigits)
def RK (k:Int)(x:Bool):Prop:=∀ w,Calls prog 29 #[.int .i64 k] w fun e w'=>e=.returned (.bool x)/\w=w'
def zLz (k:Int)(h1:1<=k)(h2:k<=3):RK k true:=fun w=>by
 go_enter func29,ntmps29;exact zQaB
def zLA (k:Int)(h1:¬ 1<=k):RK k false:=fun w=>by
 go_enter func29,ntmps29;exact zQaB
def zKp (k:Int)(h1:1<=k)(h2:¬ k<=3):RK k false:=fun w=>by
 go_enter func29,ntmps29;exact zQaB
def zhN {k:Int}(h:k=1∨k=2∨k=3):RK k true:=zLz k (by omega) (by omega)
def zom {k:Int}(h:¬ (k=1∨k=2∨k=3)):RK k false:=by
 by_cases h1:1<=k
 exact zKp k h1 (by omega);exact zLA k h1
def zrb (k:Int):((k==1)=true/\(k != 1)=false/\k=1)∨((k==1)=false/\(k != 1)=true/\k≠1):=by
 by_cases h:k=1
 subst h;exact .inl ⟨rfl,rfl,rfl⟩;exact .inr ⟨by simpa using h,by simpa using h,h⟩
def zBc (a:ByteArray)(x:Bool):Prop:=∀ w,Calls prog 93 #[.string a] w (zab (.bool x) w)
def zHR (a b:ByteArray)(c:Int):Prop:=∀ w,Calls prog 94 #[.string a,.string b] w (zab (.int .i64 c) w)
def zKq (k:Int)(a:ByteArray)(K:Hid (RK k false))(w:World):Calls prog 57 #[.int .i64 k,.string a] w (zab (.bool false) w):=by
 go_enter func57,ntmps57;exact zQam
def zLB (k:Int)(a:ByteArray)(K:Hid (RK k true))(f1:(a.toList==[105,110,102])=true)(w:World):Calls prog 57 #[.int .i64 k,.string a] w (zab (.bool true) w):=by
 go_enter func57,ntmps57;exact zQam
def zLC (k:Int)(a:ByteArray)(x:Bool)(K:Hid (RK k true))(f1:(a.toList==[105,110,102])=false)(f2:(a.toList==[45,105,110,102])=true)(k1:(k==1)=x)(w:World):Calls prog 57 #[.int .i64 k,.string a] w (zab (.bool x) w):=by
 go_enter func57,ntmps57;exact zQam
def zLD (k:Int)(a:ByteArray)(K:Hid (RK k true))(f1:(a.toList==[105,110,102])=false)(f2:(a.toList==[45,105,110,102])=false)(V:Hid (zBc a false))(w:World):Calls prog 57 #[.int .i64 k,.string a] w (zab (.bool false) w):=by
 go_enter func57,ntmps57;go_wp2_with fail;refine(K.out _).mono ?_;rintro e w' ⟨rfl,rfl⟩;exact zQak
def zKr (k:Int)(a:ByteArray)(K:Hid (RK k true))(f1:(a.toList==[105,110,102])=false)(f2:(a.toList==[45,105,110,102])=false)(V:Hid (zBc a true))(k1:(k==1)=true)(w:World):Calls prog 57 #[.int .i64 k,.string a] w (zab (.bool true) w):=by
 go_enter func57,ntmps57;go_wp2_with fail;refine(K.out _).mono ?_;rintro e w' ⟨rfl,rfl⟩;exact zQak
def zLE (k:Int)(a:ByteArray)(c:Int)(K:Hid (RK k true))(f1:(a.toList==[105,110,102])=false)(f2:(a.toList==[45,105,110,102])=false)(V:Hid (zBc a true))(k1:(k==1)=false)(C:Hid (zHR a ⟨#[48]⟩ c))(w:World):Calls prog 57 #[.int .i64 k,.string a] w (zab (.bool (decide (0<=c))) w):=by
 go_enter func57,ntmps57;go_wp2_with fail;refine(K.out _).mono ?_;rintro e w' ⟨rfl,rfl⟩;go_wp2_with fail;refine(V.out _).mono ?_;rintro e w1 ⟨rfl,hg⟩;have G1:=zHd (hg);clear hg;go_wp2_with fail;refine(C.out _).mono ?_;rintro e w2 ⟨rfl,hg⟩;have G2:=zHd (zaa G1.out hg);clear hg G1;go_wp2;go_ret;exact⟨rfl,G2.out⟩
def zBd {a:ByteArray}(h:zie a):(a.toList==[105,110,102])=false:=by rw[<- zlC,zez];exact zqcb (fun e=>h (.inl true) e)
def zBe {a:ByteArray}(h:zie a):(a.toList==[45,105,110,102])=false:=by rw[<- zpn,zez];exact zqcb (fun e=>h (.inl false) e)
def zzt (k:Int)(hk:k=1∨k=2∨k=3)(x:Rat):zaq k (.inr x)=(decide (k=1) || decide (0<=x)):=by
 rcases hk with rfl|rfl|rfl <;> simp[zaq]
def zEu {k:Int}(hk:k=1∨k=2∨k=3){a:ByteArray}{v:Ext}(h:IsE a v):VB 57 k a (zaq k v):=fun w=>by
 have K:=zHd (zhN hk);have i:=zbX h;have j:=zeK h;rcases v with(_|_)|x
 ·refine zLC k a _ K i j ?_ w
  show(k==1)=decide (k=1);rw[Bool.eq_iff_iff,beq_iff_eq,zqca]
 ·have:=zLB k a K i w
  rw[show zaq k (.inl true)=true by rcases hk with rfl|rfl|rfl <;> rfl];exact this
 have V:=zHd (show zBc a true from fun w=>zqH h w);rw[zzt k hk];rcases zrb k with⟨k1,_,k2⟩|⟨k1,_,k2⟩
 ·rw[decide_eq_true k2]
  exact zKr k a K i j V k1 w
 rw[zqcb k2,Bool.false_or];have C:=zHd (show zHR a ⟨#[48]⟩ (zcz x 0) from fun w=>zvI h zlp w);have z:0<=zcz x 0↔0<=x:=by rw[<- Rat.not_lt,<- zfG];omega
 rw[<- decide_eq_decide.2 z];exact zLE k a _ K i j V k1 C w
def zfl {k:Int}{a:ByteArray}{v:Ext}(h:Val k a v):VB 57 k a true:=by
 have:=zEu h.kind h.e;rw[h.has] at this;exact this
def zMm {k:Int}{a:ByteArray}(h:zqI k a)(ha:a.size<=maxLen):VB 57 k a false:=by
 by_cases hk:k=1∨k=2∨k=3
 ·rcases zqR a with⟨v,hv⟩|hn
  ·have:=zEu hk hv
   rw[h v hv] at this;exact this
  exact fun w=>zLD k a (zHd (zhN hk)) (zBd hn) (zBe hn) (zHd fun w=>zDH hn.rat ha w) w
 exact fun w=>zKq k a (zHd (zom hk)) w
def zLF (k:Int)(a:ByteArray)(V:Hid (VB 57 k a false))(w:World):Calls prog 30 #[.int .i64 k,.string a] w (zab (.bool false) w):=by
 go_enter func30,ntmps30;exact zQak
def zLG (k:Int)(a:ByteArray)(V:Hid (VB 57 k a true))(f:(a.toList==[105,110,102])=true)(fn:(a.toList != [105,110,102])=false)(w:World):Calls prog 30 #[.int .i64 k,.string a] w (zab (.bool false) w):=by
 go_enter func30,ntmps30;exact zQak
def zLH (k:Int)(a:ByteArray)(V:Hid (VB 57 k a true))(f:(a.toList==[105,110,102])=false)(fn:(a.toList != [105,110,102])=true)(g:(a.toList==[45,105,110,102])=true)(gn:(a.toList != [45,105,110,102])=false)(w:World):Calls prog 30 #[.int .i64 k,.string a] w (zab (.bool false) w):=by
 go_enter func30,ntmps30;exact zQak
def zKs (k:Int)(a:ByteArray)(V:Hid (VB 57 k a true))(f:(a.toList==[105,110,102])=false)(fn:(a.toList != [105,110,102])=true)(g:(a.toList==[45,105,110,102])=false)(gn:(a.toList != [45,105,110,102])=true)(k1:(k==1)=true)(w:World):Calls prog 30 #[.int .i64 k,.string a] w (zab (.bool true) w):=by
 go_enter func30,ntmps30;exact zQak
def zKt (k:Int)(a:ByteArray)(V:Hid (VB 57 k a true))(f:(a.toList==[105,110,102])=false)(fn:(a.toList != [105,110,102])=true)(g:(a.toList==[45,105,110,102])=false)(gn:(a.toList != [45,105,110,102])=true)(k1:(k==1)=false)(z:(a.toList==[48])=true)(zn:(a.toList != [48])=false)(w:World):Calls prog 30 #[.int .i64 k,.string a] w (zab (.bool false) w):=by
 go_enter func30,ntmps30;exact zQak
def zLI (k:Int)(a:ByteArray)(V:Hid (VB 57 k a true))(f:(a.toList==[105,110,102])=false)(fn:(a.toList != [105,110,102])=true)(g:(a.toList==[45,105,110,102])=false)(gn:(a.toList != [45,105,110,102])=true)(k1:(k==1)=false)(z:(a.toList==[48])=false)(zn:(a.toList != [48])=true)(w:World):Calls prog 30 #[.int .i64 k,.string a] w (zab (.bool true) w):=by
 go_enter func30,ntmps30;exact zQak
def zla {l m:List UInt8}(h:(l==m)=true):(l != m)=false:=by rw[bne,h];rfl
def zfK {l m:List UInt8}(h:(l==m)=false):(l != m)=true:=by rw[bne,h];rfl
def zBf {k:Int}(hk:k=1∨k=2∨k=3){x:Rat}(h:zaq k (.inr x)=true):zfc k (.inr x)=(decide (k=1) || !decide (x=0)):=by
 rw[zzt k hk] at h;have:zfc k (.inr x)=(decide (k=1) || decide (0<x)):=by rcases hk with rfl|rfl|rfl <;> simp[zfc]
 rw[this]
 by_cases k1:k=1
 rw[decide_eq_true k1];rfl;rw[zqcb k1,Bool.false_or] at *;have h0:=of_decide_eq_true h
 by_cases hx:x=0
 subst hx;rfl;rw[decide_eq_true (Rat.lt_of_le_of_ne h0 (Ne.symm hx)),zqcb hx];rfl
def zEv {k:Int}{a:ByteArray}{v:Ext}(h:Val k a v):VB 30 k a (zfc k v):=fun w=>by
 have V:=zHd (zfl h);have i:=zbX h.e;have j:=zeK h.e;have z:=zjx h.e;have hk:=h.kind;rcases v with(_|_)|x
 exact zLH k a V i (zfK i) j (zla j) w;exact zLG k a V i (zla i) w;rw[zBf hk h.has];rcases zrb k with⟨k1,_,k2⟩|⟨k1,_,k2⟩
 ·rw[decide_eq_true k2]
  exact zKs k a V i (zfK i) j (zfK j) k1 w
 rw[zqcb k2,Bool.false_or];have z:(a.toList==[48])=decide (x=0):=z
 by_cases hx:x=0
 ·rw[decide_eq_true hx] at z ⊢
  exact zKt k a V i (zfK i) j (zfK j) k1 z (zla z) w
 rw[zqcb hx] at z ⊢;exact zLI k a V i (zfK i) j (zfK j) k1 z (zfK z) w
def zLJ {k:Int}{a:ByteArray}{v:Ext}(h:Wgt k a v):VB 30 k a true:=by
 have:=zEv h.val;rw[h.has] at this;exact this
def zMn {k:Int}{a:ByteArray}(h:zuO k a)(ha:a.size<=maxLen):VB 30 k a false:=by
 rcases zDL k a with⟨v,hv⟩|hn
 ·have:=zEv hv
  rw[h v hv.e] at this;exact this
 exact fun w=>zLF k a (zHd (zMm hn ha)) w
def zBg (k:Int)(K:Hid (RK k false))(w:World):Calls prog 34 #[.int .i64 k] w (zab (.string ⟨#[]⟩) w):=by
 go_enter func34,ntmps34;exact zQam
def zBh (k:Int)(K:Hid (RK k true))(k1:(k==1)=true)(w:World):Calls prog 34 #[.int .i64 k] w (zab (.string zdg) w):=by
 go_enter func34,ntmps34;exact zQam
def zyi (k:Int)(K:Hid (RK k true))(k1:(k==1)=false)(w:World):Calls prog 34 #[.int .i64 k] w (zab (.string zdM) w):=by
 go_enter func34,ntmps34;exact zQam
def zdt (k:Int)(w:World):Calls prog 34 #[.int .i64 k] w (zab (.string (zag k)) w):=by
 unfold zag
 by_cases hk:k=1∨k=2∨k=3
 ·rcases zrb k with⟨k1,_,k2⟩|⟨k1,_,k2⟩
  ·rw[if_pos k2];exact zBh k (zHd (zhN hk)) k1 w
  rw[if_neg k2,if_pos (by rcases hk with h|h;exact absurd h k2;exact h)];exact zyi k (zHd (zhN hk)) k1 w
 rw[if_neg (fun h=>hk (.inl h)),if_neg (fun h=>hk (.inr h))];exact zBg k (zHd (zom hk)) w
def zEw (k:Int)(K:Hid (RK k false))(w:World):Calls prog 61 #[.int .i64 k] w (zab (.string ⟨#[]⟩) w):=by
 go_enter func61,ntmps61;exact zQam
def zEx (k:Int)(K:Hid (RK k true))(k1:(k==1)=true)(w:World):Calls prog 61 #[.int .i64 k] w (zab (.string zdM) w):=by
 go_enter func61,ntmps61;exact zQam
def zBi (k:Int)(K:Hid (RK k true))(k1:(k==1)=false)(w:World):Calls prog 61 #[.int .i64 k] w (zab (.string zkr) w):=by
 go_enter func61,ntmps61;exact zQam
def zpw (k:Int)(w:World):Calls prog 61 #[.int .i64 k] w (zab (.string (zal k)) w):=by
 unfold zal
 by_cases hk:k=1∨k=2∨k=3
 ·rcases zrb k with⟨k1,_,k2⟩|⟨k1,_,k2⟩
  ·rw[if_pos k2];exact zEx k (zHd (zhN hk)) k1 w
  rw[if_neg k2,if_pos (by rcases hk with h|h;exact absurd h k2;exact h)];exact zBi k (zHd (zhN hk)) k1 w
 rw[if_neg (fun h=>hk (.inl h)),if_neg (fun h=>hk (.inr h))];exact zEw k (zHd (zom hk)) w
def zKu (a b:ByteArray)(e1:(a.toList==b.toList)=true)(w:World):Calls prog 139 #[.string a,.string b] w (zab (.int .i64 0) w):=by
 go_enter func139,ntmps139;exact zQaN
def zEy (a b:ByteArray)(e1:(a.toList==b.toList)=false)(f:(a.toList==[45,105,110,102])=true)(w:World):Calls prog 139 #[.string a,.string b] w (zab (.int .i64 (-1)) w):=by
 go_enter func139,ntmps139;exact zQaN
def zHS (a b:ByteArray)(e1:(a.toList==b.toList)=false)(f:(a.toList==[45,105,110,102])=false)(g:(b.toList==[105,110,102])=true)(w:World):Calls prog 139 #[.string a,.string b] w (zab (.int .i64 (-1)) w):=by
 go_enter func139,ntmps139;exact zQaN
def zEz (a b:ByteArray)(e1:(a.toList==b.toList)=false)(f:(a.toList==[45,105,110,102])=false)(g:(b.toList==[105,110,102])=false)(h:(a.toList==[105,110,102])=true)(w:World):Calls prog 139 #[.string a,.string b] w (zab (.int .i64 1) w):=by
 go_enter func139,ntmps139;exact zQaN
def zHT (a b:ByteArray)(e1:(a.toList==b.toList)=false)(f:(a.toList==[45,105,110,102])=false)(g:(b.toList==[105,110,102])=false)(h:(a.toList==[105,110,102])=false)(i:(b.toList==[45,105,110,102])=true)(w:World):Calls prog 139 #[.string a,.string b] w (zab (.int .i64 1) w):=by
 go_enter func139,ntmps139;exact zQaN
def zLK (a b:ByteArray)(c:Int)(e1:(a.toList==b.toList)=false)(f:(a.toList==[45,105,110,102])=false)(g:(b.toList==[105,110,102])=false)(h:(a.toList==[105,110,102])=false)(i:(b.toList==[45,105,110,102])=false)(C:Hid (zHR a b c))(w:World):Calls prog 139 #[.string a,.string b] w (zab (.int .i64 c) w):=by
 go_enter func139,ntmps139;go_wp2_with fail;refine(C.out _).mono ?_;rintro e w1 ⟨rfl,hg⟩;have G1:=zHd (hg);clear hg;go_wp2;go_ret;exact⟨rfl,G1.out⟩
def zlG (a b:ByteArray)(c:Int):Prop:=∀ w,Calls prog 139 #[.string a,.string b] w (zab (.int .i64 c) w)
def zng {a b:ByteArray}{u v:Ext}(ha:IsE a u)(hb:IsE b v):zlG a b (zbu u v):=fun w=>by
 have e1:(a.toList==b.toList)=decide (u=v):=by rw[zez];exact zqQ ha hb
 by_cases h:u=v
 ·rw[decide_eq_true h] at e1
  rw[(zfH u v).2 h];exact zKu a b e1 w
 rw[zqcb h] at e1;have i:=zbX ha;have j:=zeK ha;have m:=zbX hb;have n:=zeK hb;rcases u with(_|_)|x <;> rcases v with(_|_)|y
 exact absurd rfl h;exact zEy a b e1 j w;exact zEy a b e1 j w;exact zEz a b e1 j m i w;exact absurd rfl h;exact zEz a b e1 j m i w;exact zHT a b e1 j m i n w;exact zHS a b e1 j m w;exact zLK a b _ e1 j m i n (zHd fun w=>zvI ha hb w) w
def zKv (k:Int)(a b:ByteArray)(c:Int)(X:Hid (VB 57 k a true))(Y:Hid (VB 57 k b true))(k1:(k==1)=true)(C:Hid (zlG a b c))(w:World):Calls prog 96 #[.int .i64 k,.string a,.string b] w (zab (.int .i64 c) w):=by
 exact zQaG
def zHU (k:Int)(a b:ByteArray)(c:Int)(X:Hid (VB 57 k a true))(Y:Hid (VB 57 k b true))(k1:(k==1)=false)(C:Hid (zlG b a c))(w:World):Calls prog 96 #[.int .i64 k,.string a,.string b] w (zab (.int .i64 c) w):=by
 exact zQaG
def zLL {k:Int}{a b:ByteArray}{u v:Ext}(ha:Val k a u)(hb:Val k b v):SOp 96 k a b (.int .i64 (zbV k u v)):=fun w=>by
 unfold zbV;rcases zrb k with⟨k1,_,k2⟩|⟨k1,_,k2⟩
 ·rw[if_pos k2]
  exact zKv k a b _ (zHd (zfl ha)) (zHd (zfl hb)) k1 (zHd (zng ha.e hb.e)) w
 rw[if_neg k2];exact zHU k a b _ (zHd (zfl ha)) (zHd (zfl hb)) k1 (zHd (zng hb.e ha.e)) w
def zHV (k:Int)(a b:ByteArray)(c:Int)(X:Hid (VB 57 k a true))(Y:Hid (VB 57 k b true))(k1:(k==2)=false)(k2:(k != 2)=true)(B:Hid (SOp 96 k b a (.int .i64 c)))(h:c<0)(w:World):Calls prog 62 #[.int .i64 k,.string a,.string b] w (zab (.tuple #[.string b,.int .i64 0]) w):=by
 go_enter func62,ntmps62;go_wp2_with fail;refine(X.out _).mono ?_;rintro e w1 ⟨rfl,hg⟩;have G1:=zHd (hg);clear hg;go_wp2_with fail;refine(Y.out _).mono ?_;rintro e w2 ⟨rfl,hg⟩;have G2:=zHd (zaa G1.out hg);clear hg G1;go_wp2_with fail;refine(B.out _).mono ?_;exact zQaF
def zKw (k:Int)(a b:ByteArray)(c:Int)(X:Hid (VB 57 k a true))(Y:Hid (VB 57 k b true))(k1:(k==2)=false)(k2:(k != 2)=true)(B:Hid (SOp 96 k b a (.int .i64 c)))(h:¬ c<0)(w:World):Calls prog 62 #[.int .i64 k,.string a,.string b] w (zab (.tuple #[.string a,.int .i64 0]) w):=by
 go_enter func62,ntmps62;go_wp2_with fail;refine(X.out _).mono ?_;rintro e w1 ⟨rfl,hg⟩;have G1:=zHd (hg);clear hg;go_wp2_with fail;refine(Y.out _).mono ?_;rintro e w2 ⟨rfl,hg⟩;have G2:=zHd (zaa G1.out hg);clear hg G1;go_wp2_with fail;refine(B.out _).mono ?_;exact zQaF
def zKx (k:Int)(a b:ByteArray)(X:Hid (VB 57 k a true))(Y:Hid (VB 57 k b true))(k1:(k==2)=true)(k2:(k != 2)=false)(f:(a.toList==[105,110,102])=true)(w:World):Calls prog 62 #[.int .i64 k,.string a,.string b] w (zab (.tuple #[.string zdg,.int .i64 0]) w):=by
 go_enter func62,ntmps62;go_wp2_with fail;refine(X.out _).mono ?_;rintro e w1 ⟨rfl,hg⟩;have G1:=zHd (hg);clear hg;go_wp2_with fail;refine(Y.out _).mono ?_;exact zQaE
def zKy (k:Int)(a b:ByteArray)(X:Hid (VB 57 k a true))(Y:Hid (VB 57 k b true))(k1:(k==2)=true)(k2:(k != 2)=false)(f:(a.toList==[105,110,102])=false)(g:(b.toList==[105,110,102])=true)(w:World):Calls prog 62 #[.int .i64 k,.string a,.string b] w (zab (.tuple #[.string zdg,.int .i64 0]) w):=by
 go_enter func62,ntmps62;go_wp2_with fail;refine(X.out _).mono ?_;rintro e w1 ⟨rfl,hg⟩;have G1:=zHd (hg);clear hg;go_wp2_with fail;refine(Y.out _).mono ?_;exact zQaE
def zLM (k:Int)(a b S:ByteArray)(E:Int)(X:Hid (VB 57 k a true))(Y:Hid (VB 57 k b true))(k1:(k==2)=true)(k2:(k != 2)=false)(f:(a.toList==[105,110,102])=false)(g:(b.toList==[105,110,102])=false)(C:Hid (∀ w,Calls prog 97 #[.string a,.string b] w (zab (.tuple #[.string S,.int .i64 E]) w)))(w:World):Calls prog 62 #[.int .i64 k,.string a,.string b] w (zab (.tuple #[.string S,.int .i64 E]) w):=by
 go_enter func62,ntmps62;go_wp2_with fail;refine(X.out _).mono ?_;rintro e w1 ⟨rfl,hg⟩;have G1:=zHd (hg);clear hg;go_wp2_with fail;refine(Y.out _).mono ?_;rintro e w2 ⟨rfl,hg⟩;have G2:=zHd (zaa G1.out hg);clear hg G1;go_wp2_with fail;refine(C.out _).mono ?_;exact zQaF
def zEA {k:Int}{a b:ByteArray}{u v:Ext}(ha:Val k a u)(hb:Val k b v):SOp 62 k a b (zbI (zcI k u v)):=fun w=>by
 have X:=zHd (zfl ha);have Y:=zHd (zfl hb);have B:=zHd (zLL hb ha)
 by_cases h2:k=2
 ·subst h2
  have i:=zbX ha.e;have j:=zbX hb.e;show Calls _ _ _ w (zab (zbI (zdr u v)) w);rcases u with(_|_)|x
  cases ha.has;exact zKx 2 a b X Y rfl rfl i w;rcases v with(_|_)|y;cases hb.has;exact zKy 2 a b X Y rfl rfl i j w;obtain⟨S,E,e⟩:=zbx (x+y);have C:=fun w=>zph ha.e hb.e w;show Calls _ _ _ w (zab (zcV (x+y)) w);rw[e] at C ⊢;exact zLM 2 a b S E X Y rfl rfl i j (zHd C) w
 have k1:(k==2)=false:=by simpa using h2
 have k2:(k != 2)=true:=by simpa using h2
 have main:zcI k u v=if zbV k v u<0 then v else u:=by
  rcases ha.kind with rfl|rfl|rfl;rfl;exact absurd rfl h2;show zbR u v=if zbu u v<0 then v else u
  unfold zbR;have:=zeT u v
  by_cases q:zbu u v<0
  rw[if_pos q,if_pos (by omega)];rw[if_neg q,if_neg (by omega)]
 rw[main]
 by_cases q:zbV k v u<0
 ·rw[if_pos q,zgM hb.e]
  exact zHV k a b _ X Y k1 k2 B q w
 rw[if_neg q,zgM ha.e];exact zKw k a b _ X Y k1 k2 B q w
open Go.RowKit
open Go.Lib (nDigits decDigits)
def znh (k:Int)(a b:ByteArray)(X:Hid (VB 57 k a true))(Y:Hid (VB 57 k b true))(O:Hid (∀ w,Calls prog 34 #[.int .i64 k] w (zab (.string ⟨#[105,110,102]⟩) w)))(k1:(k==1)=true)(z1:(a.toList==[105,110,102])=true)(w:World):Calls prog 64 #[.int .i64 k,.string a,.string b] w (zab (.tuple #[.string zdg,.int .i64 0]) w):=by
 exact zQac
def ztB (k:Int)(a b:ByteArray)(X:Hid (VB 57 k a true))(Y:Hid (VB 57 k b true))(O:Hid (∀ w,Calls prog 34 #[.int .i64 k] w (zab (.string ⟨#[105,110,102]⟩) w)))(k1:(k==1)=true)(z1:(a.toList==[105,110,102])=false)(z2:(b.toList==[105,110,102])=true)(w:World):Calls prog 64 #[.int .i64 k,.string a,.string b] w (zab (.tuple #[.string zdg,.int .i64 0]) w):=by
 exact zQac
def ztC (k:Int)(a b:ByteArray)(X:Hid (VB 57 k a true))(Y:Hid (VB 57 k b true))(O:Hid (∀ w,Calls prog 34 #[.int .i64 k] w (zab (.string ⟨#[105,110,102]⟩) w)))(k1:(k==1)=true)(z1:(a.toList==[105,110,102])=false)(z2:(b.toList==[105,110,102])=false)(l1:(a.toList==[45,105,110,102])=true)(w:World):Calls prog 64 #[.int .i64 k,.string a,.string b] w (zab (.tuple #[.string zgz,.int .i64 0]) w):=by
 exact zQac
def zEB (k:Int)(a b:ByteArray)(X:Hid (VB 57 k a true))(Y:Hid (VB 57 k b true))(O:Hid (∀ w,Calls prog 34 #[.int .i64 k] w (zab (.string ⟨#[105,110,102]⟩) w)))(k1:(k==1)=true)(z1:(a.toList==[105,110,102])=false)(z2:(b.toList==[105,110,102])=false)(l1:(a.toList==[45,105,110,102])=false)(l2:(b.toList==[45,105,110,102])=true)(w:World):Calls prog 64 #[.int .i64 k,.string a,.string b] w (zab (.tuple #[.string zgz,.int .i64 0]) w):=by
 exact zQac
def zHW (k:Int)(a b S:ByteArray)(E:Int)(X:Hid (VB 57 k a true))(Y:Hid (VB 57 k b true))(O:Hid (∀ w,Calls prog 34 #[.int .i64 k] w (zab (.string ⟨#[105,110,102]⟩) w)))(k1:(k==1)=true)(z1:(a.toList==[105,110,102])=false)(z2:(b.toList==[105,110,102])=false)(l1:(a.toList==[45,105,110,102])=false)(l2:(b.toList==[45,105,110,102])=false)(C:Hid (∀ w,Calls prog 97 #[.string a,.string b] w (zab (.tuple #[.string S,.int .i64 E]) w)))(w:World):Calls prog 64 #[.int .i64 k,.string a,.string b] w (zab (.tuple #[.string S,.int .i64 E]) w):=by
 exact zQay
def zBj (k:Int)(a b:ByteArray)(X:Hid (VB 57 k a true))(Y:Hid (VB 57 k b true))(O:Hid (∀ w,Calls prog 34 #[.int .i64 k] w (zab (.string ⟨#[48]⟩) w)))(k1:(k==1)=false)(z1:(a.toList==[48])=true)(w:World):Calls prog 64 #[.int .i64 k,.string a,.string b] w (zab (.tuple #[.string zdM,.int .i64 0]) w):=by
 exact zQac
def zBk (k:Int)(a b:ByteArray)(X:Hid (VB 57 k a true))(Y:Hid (VB 57 k b true))(O:Hid (∀ w,Calls prog 34 #[.int .i64 k] w (zab (.string ⟨#[48]⟩) w)))(k1:(k==1)=false)(z1:(a.toList==[48])=false)(z2:(b.toList==[48])=true)(w:World):Calls prog 64 #[.int .i64 k,.string a,.string b] w (zab (.tuple #[.string zdM,.int .i64 0]) w):=by
 exact zQac
def zEC (k:Int)(a b:ByteArray)(X:Hid (VB 57 k a true))(Y:Hid (VB 57 k b true))(O:Hid (∀ w,Calls prog 34 #[.int .i64 k] w (zab (.string ⟨#[48]⟩) w)))(k1:(k==1)=false)(z1:(a.toList==[48])=false)(z2:(b.toList==[48])=false)(i1:(a.toList==[105,110,102])=true)(w:World):Calls prog 64 #[.int .i64 k,.string a,.string b] w (zab (.tuple #[.string zdg,.int .i64 0]) w):=by
 exact zQac
def zED (k:Int)(a b:ByteArray)(X:Hid (VB 57 k a true))(Y:Hid (VB 57 k b true))(O:Hid (∀ w,Calls prog 34 #[.int .i64 k] w (zab (.string ⟨#[48]⟩) w)))(k1:(k==1)=false)(z1:(a.toList==[48])=false)(z2:(b.toList==[48])=false)(i1:(a.toList==[105,110,102])=false)(i2:(b.toList==[105,110,102])=true)(w:World):Calls prog 64 #[.int .i64 k,.string a,.string b] w (zab (.tuple #[.string zdg,.int .i64 0]) w):=by
 exact zQac
def zHX (k:Int)(a b S:ByteArray)(E:Int)(X:Hid (VB 57 k a true))(Y:Hid (VB 57 k b true))(O:Hid (∀ w,Calls prog 34 #[.int .i64 k] w (zab (.string ⟨#[48]⟩) w)))(k1:(k==1)=false)(z1:(a.toList==[48])=false)(z2:(b.toList==[48])=false)(i1:(a.toList==[105,110,102])=false)(i2:(b.toList==[105,110,102])=false)(l1:(a.toList==[45,105,110,102])=false)(l2:(b.toList==[45,105,110,102])=false)(C:Hid (∀ w,Calls prog 98 #[.string a,.string b] w (zab (.tuple #[.string S,.int .i64 E]) w)))(w:World):Calls prog 64 #[.int .i64 k,.string a,.string b] w (zab (.tuple #[.string S,.int .i64 E]) w):=by
 exact zQay
def ztD {k:Int}(hk:k=2∨k=3){a b:ByteArray}{u v:Ext}(ha:Val k a u)(hb:Val k b v):SOp 64 k a b (zbI (zaP u v)):=fun w=>by
 have X:=zHd (zfl ha);have Y:=zHd (zfl hb)
 have O:Hid (∀ w,Calls prog 34 #[.int .i64 k] w (zab (.string ⟨#[48]⟩) w)):=zHd fun w=>by
  have:=zdt k w;unfold zag at this;rw[if_neg (by omega),if_pos hk] at this;exact this
 have k1:(k==1)=false:=by
  have:k≠1:=by omega
  simpa using this
 have i:=zbX ha.e;have j:=zbX hb.e;have m:=zjx ha.e;have n:=zjx hb.e;have p:=zeK ha.e;have q:=zeK hb.e;have hu:zaq 2 u=true:=by rcases hk with rfl|rfl;exact ha.has;rw[zcD];exact ha.has
 have hv:zaq 2 v=true:=by rcases hk with rfl|rfl;exact hb.has;rw[zcD];exact hb.has
 unfold zaP
 by_cases zu:u=.inr 0
 ·rw[if_pos (.inl zu),zeroV]
  rw[(zeV u).2 zu] at m;exact zBj k a b X Y O k1 m w
 have mu:isNil u=false:=by rw[<- Bool.not_eq_true,zeV];exact zu
 rw[mu] at m
 by_cases zv:v=.inr 0
 ·rw[if_pos (.inr zv),zeroV]
  rw[(zeV v).2 zv] at n;exact zBk k a b X Y O k1 m n w
 have mv:isNil v=false:=by rw[<- Bool.not_eq_true,zeV];exact zv
 rw[mv] at n;rw[if_neg (fun h=>by rcases h with h|h;exact zu h;exact zv h)];rcases u with(_|_)|x
 cases hu;exact zEC k a b X Y O k1 m n i w;rcases v with(_|_)|y;cases hv;exact zED k a b X Y O k1 m n i j w;obtain⟨S,E,e⟩:=zbx (x*y);have C:=fun w=>zHp ha.e hb.e w;show Calls _ _ _ w (zab (zcV (x*y)) w);rw[e] at C ⊢;exact zHX k a b S E X Y O k1 m n i j p q (zHd C) w
def zEE {a b:ByteArray}{u v:Ext}(ha:Val 1 a u)(hb:Val 1 b v):SOp 64 1 a b (zbI (zco u v)):=fun w=>by
 have X:=zHd (zfl ha);have Y:=zHd (zfl hb);have O:Hid (∀ w,Calls prog 34 #[.int .i64 1] w (zab (.string ⟨#[105,110,102]⟩) w)):=zHd fun w=>zdt 1 w;have i:=zbX ha.e;have j:=zbX hb.e;have p:=zeK ha.e;have q:=zeK hb.e;rcases u with(_|_)|x <;> rcases v with(_|_)|y
 exact ztC 1 a b X Y O rfl i j p w;exact ztB 1 a b X Y O rfl i j w;exact ztC 1 a b X Y O rfl i j p w;exact znh 1 a b X Y O rfl i w;exact znh 1 a b X Y O rfl i w;exact znh 1 a b X Y O rfl i w;exact zEB 1 a b X Y O rfl i j p q w;exact ztB 1 a b X Y O rfl i j w;obtain⟨S,E,e⟩:=zbx (x+y);have C:=fun w=>zph ha.e hb.e w;show Calls _ _ _ w (zab (zcV (x+y)) w);rw[e] at C ⊢;exact zHW 1 a b S E X Y O rfl i j p q (zHd C) w
def zBl {k:Int}{a b:ByteArray}{u v:Ext}(ha:Val k a u)(hb:Val k b v):SOp 64 k a b (zbI (zbi k u v)):=by
 rcases ha.kind with rfl|rfl|rfl;exact zEE ha hb;exact ztD (.inl rfl) ha hb;exact ztD (.inr rfl) ha hb
def zHY (k:Int)(a:ByteArray)(c:Int)(X:Hid (VB 57 k a true))(O:Hid (∀ w,Calls prog 61 #[.int .i64 k] w (zab (.string ⟨#[48]⟩) w)))(k1:(k==1)=true)(C:Hid (zlG a ⟨#[48]⟩ c))(h:0<=c)(w:World):Calls prog 95 #[.int .i64 k,.string a] w (zab (.tuple #[.string zdM,.int .i64 0]) w):=by
 exact zQae
def zHZ (k:Int)(a:ByteArray)(c:Int)(X:Hid (VB 57 k a true))(O:Hid (∀ w,Calls prog 61 #[.int .i64 k] w (zab (.string ⟨#[48]⟩) w)))(k1:(k==1)=true)(C:Hid (zlG a ⟨#[48]⟩ c))(h:¬ 0<=c)(w:World):Calls prog 95 #[.int .i64 k,.string a] w (zab (.tuple #[.string zgz,.int .i64 0]) w):=by
 exact zQae
def zIa (k:Int)(a:ByteArray)(c:Int)(X:Hid (VB 57 k a true))(O:Hid (∀ w,Calls prog 61 #[.int .i64 k] w (zab (.string ⟨#[49]⟩) w)))(k1:(k==1)=false)(k3:(k==3)=true)(C:Hid (zlG a ⟨#[49]⟩ c))(h:c<=0)(w:World):Calls prog 95 #[.int .i64 k,.string a] w (zab (.tuple #[.string zkr,.int .i64 0]) w):=by
 exact zQae
def zIb (k:Int)(a:ByteArray)(c:Int)(X:Hid (VB 57 k a true))(O:Hid (∀ w,Calls prog 61 #[.int .i64 k] w (zab (.string ⟨#[49]⟩) w)))(k1:(k==1)=false)(k3:(k==3)=true)(C:Hid (zlG a ⟨#[49]⟩ c))(h:¬ c<=0)(w:World):Calls prog 95 #[.int .i64 k,.string a] w (zab (.tuple #[.string zdg,.int .i64 0]) w):=by
 exact zQae
def zwj (k:Int)(a:ByteArray)(c:Int)(X:Hid (VB 57 k a true))(O:Hid (∀ w,Calls prog 61 #[.int .i64 k] w (zab (.string ⟨#[49]⟩) w)))(k1:(k==1)=false)(k3:(k==3)=false)(C:Hid (zlG a ⟨#[49]⟩ c))(h:0<=c)(w:World):Calls prog 95 #[.int .i64 k,.string a] w (zab (.tuple #[.string zdg,.int .i64 0]) w):=by
 exact zQae
def zIc (k:Int)(a D S:ByteArray)(c E:Int)(X:Hid (VB 57 k a true))(O:Hid (∀ w,Calls prog 61 #[.int .i64 k] w (zab (.string ⟨#[49]⟩) w)))(k1:(k==1)=false)(k3:(k==3)=false)(C:Hid (zlG a ⟨#[49]⟩ c))(h:¬ 0<=c)(M:Hid (∀ w,Calls prog 140 #[.string ⟨#[49]⟩,.string a] w (zab (.tuple #[.string D,.int .i64 0]) w)))(N:Hid (∀ w,Calls prog 141 #[.string ⟨#[49]⟩,.string D] w (zab (.tuple #[.string S,.int .i64 E]) w)))(w:World):Calls prog 95 #[.int .i64 k,.string a] w (zab (.tuple #[.string S,.int .i64 E]) w):=by
 go_enter func95,ntmps95;go_wp2_with fail;refine(X.out _).mono ?_;rintro e w1 ⟨rfl,hg⟩;have G1:=zHd (hg);clear hg;go_wp2_with fail;refine(O.out _).mono ?_;rintro e w2 ⟨rfl,hg⟩;have G2:=zHd (zaa G1.out hg);clear hg G1;go_wp2_with fail;refine(C.out _).mono ?_;rintro e w3 ⟨rfl,hg⟩;have G3:=zHd (zaa G2.out hg);clear hg G2;go_wp2_with fail;refine(M.out _).mono ?_;rintro e w4 ⟨rfl,hg⟩;have G4:=zHd (zaa G3.out hg);clear hg G3;go_wp2_with fail;refine(N.out _).mono ?_;rintro e w5 ⟨rfl,hg⟩;have G5:=zHd (zaa G4.out hg);clear hg G4;go_wp2;go_ret2;exact⟨rfl,G5.out⟩
def zwk {k:Int}(hk:k=2∨k=3):Hid (∀ w,Calls prog 61 #[.int .i64 k] w (zab (.string ⟨#[49]⟩) w)):=zHd fun w=>by
 have:=zpw k w;unfold zal at this;rw[if_neg (by omega),if_pos hk] at this;exact this
def zEF {k:Int}{a:ByteArray}{u:Ext}(ha:Val k a u):zHO 95 k a (zbI (zcJ k u)):=fun w=>by
 have X:=zHd (zfl ha);rcases ha.kind with rfl|rfl|rfl
 ·have C:=zHd (zng ha.e zof)
  show Calls _ _ _ w (zab (zbI (if zbu u (.inr 0)<0 then .inl false else .inr 0)) w);have O:Hid (∀ w,Calls prog 61 #[.int .i64 1] w (zab (.string ⟨#[48]⟩) w)):=zHd fun w=>zpw 1 w
  by_cases h:zbu u (.inr 0)<0
  ·rw[if_pos h]
   exact zHZ 1 a _ X O rfl C (by omega) w
  rw[if_neg h,zeroV];exact zHY 1 a _ X O rfl C (by omega) w
 ·have C:=zHd (zng ha.e zhG)
  have O:=zwk (k:=2) (.inl rfl);rcases zaE u ha.has with rfl|⟨x,rfl,hx⟩
  exact zwj 2 a _ X O rfl rfl C (by decide) w;show Calls _ _ _ w (zab (zbI (if x<1 then .inr (1/(1-x)) else .inl true)) w)
  have z:0<=zbu (.inr x) (.inr 1)↔¬ x<1:=by
   show 0<=zcz x 1↔_;rw[<- zfG];omega
  by_cases h:x<1
  ·rw[if_pos h]
   have hs:=zqJ hx (Rat.le_of_lt h) (show zbr x from zaA.short ha.e);have hR:zaA (zeE (1-x)) (1-x):=⟨hs,rfl⟩;obtain⟨S,E,e⟩:=zbx (1/(1-x));show Calls _ _ _ w (zab (zcV (1/(1-x))) w);have M:=fun w=>zHs zhG ha.e w;have N:=fun w=>zHq zhG hR (zoj h) w;rw[zhA hR] at M;rw[e] at N ⊢;exact zIc 2 a _ S _ E X O rfl rfl C (fun q=>z.1 q h) (zHd M) (zHd N) w
  rw[if_neg h];exact zwj 2 a _ X O rfl rfl C (z.2 h) w
 have C:=zHd (zng ha.e zhG);have O:=zwk (k:=3) (.inr rfl);show Calls _ _ _ w (zab (zbI (if 0<zbu u (.inr 1) then .inl true else .inr 1)) w)
 by_cases h:0<zbu u (.inr 1)
 ·rw[if_pos h]
  exact zIb 3 a _ X O rfl rfl C (by omega) w
 rw[if_neg h,oneV];exact zIa 3 a _ X O rfl rfl C (by omega) w
open Go.RowKit
structure zaI where
 i:Int
 o:Int
 w:ByteArray
 t:Int
deriving DecidableEq
structure zah where
 fin:ByteArray
 arcs:List zaI
deriving DecidableEq
structure zaj where
 kind:Int
 start:Int
 lead:ByteArray
 states:List zah
deriving DecidableEq
def flat_get {α β:Type}(f:α->List β)(n:Nat)(hn:∀ a,(f a).length=n):∀ (l:List α) (k j:Nat) (a:α),l[k]?=some a->j<n->(l.flatMap f)[k*n+j]?=(f a)[j]?
 | [],k,j,a,h,_=>by simp at h
 | x::l,0,j,a,h,hj=>by
  simp only[List.getElem?_cons_zero,Option.some.injEq] at h;subst h;rw[List.flatMap_cons,Nat.zero_mul,zqat,zqal (by rw[hn];exact hj)]
 | x::l,k+1,j,a,h,hj=>by
  rw[List.getElem?_cons_succ] at h;rw[List.flatMap_cons,zqaq (by rw[hn,Nat.succ_mul];omega),hn,show(k+1)*n+j-n=k*n+j by rw[Nat.succ_mul];omega];exact flat_get f n hn l k j a h hj
def zpx {α β:Type}(f:α->List β)(n:Nat)(hn:∀ a,(f a).length=n):∀ l:List α,(l.flatMap f).length=l.length*n
 | []=>by simp
 | x::l=>by rw[List.flatMap_cons,zqag,hn,zpx f n hn l,zqbu,Nat.succ_mul];omega
def zea (a:zaI):List Value:=[.int .i64 a.i,.int .i64 a.o,.string a.w,.int .i64 a.t]
def stC (p:zah×Value):List Value:=[.string p.1.fin,p.2]
def zjy (a:zaI):(zea a).length=4:=rfl
def zfo (p:zah×Value):(stC p).length=2:=rfl
def zcP (w:World)(v:Value)(l:List zaI):Prop:=∃ A cap,v=.slice A l.length cap/\Reads w w.heap.size 4 A l.length (l.flatMap zea)
def zfL (w:World)(v:Value)(l:List zah):Prop:=∃ A cap us,v=.slice A l.length cap/\us.length=l.length/\Reads w w.heap.size 2 A l.length ((l.zip us).flatMap stC)/\∀ (k:Nat) (s:zah) (u:Value),l[k]?=some s->us[k]?=some u->zcP w u s.arcs
def zbJ (w:World)(v:Value)(m:zaj):Prop:=∃ u,v=.agg #[.int .i64 m.kind,.int .i64 m.start,.string m.lead,u]/\zfL w u m.states
def zcP.below {w w':World}{v:Value}{l:List zaI}(h:zcP w v l)(hb:Below w.heap.size w w'):zcP w' v l:=by
 obtain⟨A,cap,hv,hr⟩:=h;exact⟨A,cap,hv,(hr.below hb).more hb.size⟩
def zfL.below {w w':World}{v:Value}{l:List zah}(h:zfL w v l)(hb:Below w.heap.size w w'):zfL w' v l:=by
 obtain⟨A,cap,us,hv,hl,hr,ha⟩:=h;exact⟨A,cap,us,hv,hl,(hr.below hb).more hb.size,fun k s u hs hu=>(ha k s u hs hu).below hb⟩
def zbJ.below {w w':World}{v:Value}{m:zaj}(h:zbJ w v m)(hb:Below w.heap.size w w'):zbJ w' v m:=by
 obtain⟨u,hv,hs⟩:=h;exact⟨u,hv,hs.below hb⟩
def zcP.nil (w:World):zcP w (.slice none 0 0) []:=⟨none,0,rfl,Reads.none_⟩
def zfL.nil (w:World):zfL w (.slice none 0 0) []:=⟨none,0,[],rfl,rfl,Reads.none_,fun k s u hs=>by simp at hs⟩
def zEG (ad:Addr)(n j:Nat)(hj:0<j):ad.add (n+j) = { block:=(ad.add n).block,off:=(ad.add n).off+j,spot:=none }:=by
 unfold Addr.add;rw[if_neg (by omega)]
 by_cases h:n=0
 simp[h];simp[h,Nat.add_assoc]
def ziR {w:World}{ad:Addr}{n j:Nat}{v:Value}(h:w.cell? (ad.add (n+j))=some v)(hj:0<j):w.cell? { block:=(ad.add n).block,off:=(ad.add n).off+j,spot:=none }=some v:=by
 rw[<- zEG ad n j hj];exact h
structure zkc (w:World)(p:Addr)(a:zaI):Prop where
 c0:w.cell? p=some (.int .i64 a.i)
 c1:w.cell? { block:=p.block,off:=p.off+1,spot:=none }=some (.int .i64 a.o)
 c2:w.cell? { block:=p.block,off:=p.off+2,spot:=none }=some (.string a.w)
 c3:w.cell? { block:=p.block,off:=p.off+3,spot:=none }=some (.int .i64 a.t)
def zkc.below {w w':World}{B:Nat}{p:Addr}{a:zaI}(h:zkc w p a)(hb:Below B w w')(hp:p.block<B):zkc w' p a :=
 ⟨(hb.cell hp).trans h.c0,(hb.cell (p:=⟨p.block,p.off+1,none⟩) hp).trans h.c1,(hb.cell (p:=⟨p.block,p.off+2,none⟩) hp).trans h.c2,(hb.cell (p:=⟨p.block,p.off+3,none⟩) hp).trans h.c3⟩
structure zfp (w:World)(p:Addr)(f:ByteArray)(u:Value):Prop where
 c0:w.cell? p=some (.string f)
 c1:w.cell? { block:=p.block,off:=p.off+1,spot:=none }=some u
def zfp.below {w w':World}{B:Nat}{p:Addr}{f:ByteArray}{u:Value}(h:zfp w p f u)(hb:Below B w w')(hp:p.block<B):zfp w' p f u :=
 ⟨(hb.cell hp).trans h.c0,(hb.cell (p:=⟨p.block,p.off+1,none⟩) hp).trans h.c1⟩
def zgV {w:World}{A:Option Addr}{l:List zaI}{k:Nat}(h:Reads w w.heap.size 4 A l.length (l.flatMap zea))(hk:k<l.length) :
  ∃ ad a,A=some ad/\ad.block<w.heap.size/\l[k]?=some a/\zkc w (ad.add (k*4)) a:=by
 obtain⟨ad,hA,hb,hc⟩:=h.2 (by omega);have hx:l[k]?=some l[k]:=zqac hk;exact⟨ad,l[k],hA,hb,hx,hc _ _ (flat_get zea 4 zjy l k 0 _ hx (by omega)),ziR (hc _ _ (flat_get zea 4 zjy l k 1 _ hx (by omega))) (by omega),ziR (hc _ _ (flat_get zea 4 zjy l k 2 _ hx (by omega))) (by omega),ziR (hc _ _ (flat_get zea 4 zjy l k 3 _ hx (by omega))) (by omega)⟩
def zkd {w:World}{A:Option Addr}{l:List zah}{us:List Value}{k:Nat}(h:Reads w w.heap.size 2 A l.length ((l.zip us).flatMap stC))(hl:us.length=l.length)(hk:k<l.length) :
  ∃ ad s u,A=some ad/\ad.block<w.heap.size/\l[k]?=some s/\us[k]?=some u/\zfp w (ad.add (k*2)) s.fin u:=by
 obtain⟨ad,hA,hb,hc⟩:=h.2 (by omega);have hx:l[k]?=some l[k]:=zqac hk;have hu:us[k]?=some (us[k]'(by omega)):=zqac (by omega);have hz:(l.zip us)[k]?=some (l[k],us[k]'(by omega)):=by rw[List.getElem?_zip_eq_some];exact⟨hx,hu⟩
 exact⟨ad,_,_,hA,hb,hx,hu,hc _ _ (flat_get stC 2 zfo _ k 0 _ hz (by omega)),ziR (hc _ _ (flat_get stC 2 zfo _ k 1 _ hz (by omega))) (by omega)⟩
def zas (w:World)(g:Nat)(m:zaj)(u:Value):Prop:=w.heap[g]?=some (.cells #[.int .i64 m.kind,.int .i64 m.start,.string m.lead,u] 24 (0,0))
structure BoxC (w:World)(g:Nat)(m:zaj)(u:Value):Prop where
 c0:w.cell? ⟨g,0,none⟩=some (.int .i64 m.kind)
 c1:w.cell? ⟨g,1,none⟩=some (.int .i64 m.start)
 c2:w.cell? ⟨g,2,none⟩=some (.string m.lead)
 c3:w.cell? ⟨g,3,none⟩=some u
def zas.cells {w:World}{g:Nat}{m:zaj}{u:Value}(h:zas w g m u):BoxC w g m u :=
 ⟨by rw[zqbw w g 0 _ _ (0,0) h];rfl,by rw[zqbw w g 1 _ _ (0,0) h];rfl,by rw[zqbw w g 2 _ _ (0,0) h];rfl,by rw[zqbw w g 3 _ _ (0,0) h];rfl⟩
def zas.new (w:World)(m:zaj)(u:Value):zas (w.alloc (.cells #[.int .i64 m.kind,.int .i64 m.start,.string m.lead,u] 24)) w.heap.size m u:=by
 exact zQaV
def zas.below {w w':World}{g B:Nat}{m:zaj}{u:Value}(h:zas w g m u)(hb:Below B w w')(hg:g<B):zas w' g m u:=(hb.block g hg).trans h
def zas.lt {w:World}{g:Nat}{m:zaj}{u:Value}(h:zas w g m u):g<w.heap.size:=(zqad.1 h).1
def zap (l:List zah):Nat:=(l.map (fun s=>s.arcs.length)).sum
def zhs (l:List zah)(s:zah):zap (l++[s])=zap l+s.arcs.length:=by unfold zap;simp
def zwl (l k:List zah):zap (l++k)=zap l+zap k:=by unfold zap;simp
def ziS (l:List zah){k:Nat}(hk:k<=l.length):zap (l.take k)<=zap l:=by
 have:=zwl (l.take k) (l.drop k);rw[List.take_append_drop] at this;omega
def zcA {α:Type}{L:List α}{k:Nat}{x:α}(h:L[k]?=some x):L.take (k+1)=L.take k++[x]:=by
 rw[List.take_add_one,h];rfl
open Go.RowKit
open Classical in
noncomputable def wgtB (k:Int)(a:ByteArray):Bool:=decide (∃ v,Wgt k a v)
def zlH {k:Int}{a:ByteArray}{v:Ext}(h:Wgt k a v):wgtB k a=true:=by unfold wgtB;simp;exact⟨v,h⟩
def zlI {k:Int}{a:ByteArray}(h:wgtB k a=true):∃ v,Wgt k a v:=by unfold wgtB at h;simpa using h
def zku {k:Int}{a:ByteArray}(ha:a.size<=maxLen):VB 30 k a (wgtB k a):=by
 rcases zDM k a with⟨v,h⟩|h;rw[zlH h];exact zLJ h
 have hB:wgtB k a=false:=by
  cases hb:wgtB k a;rfl;obtain⟨v,hv⟩:=zlI hb;have:=h v hv.1;rw[hv.2] at this;cases this
 rw[hB];exact zMn h ha
def zke (k:Int):zcY k=true↔(k=1∨k=2∨k=3):=by unfold zcY;simp
def ztE (k:Int):RK k (zcY k):=by
 by_cases h:k=1∨k=2∨k=3
 rw[(zke k).2 h];exact zhN h;rw[show zcY k=false by cases hk:zcY k;rfl;exact absurd ((zke k).1 hk) h];exact zom h
noncomputable def arcB (k:Int)(n:Nat)(a:zaI):Bool:=decide (0<=a.i/\a.i<=500/\0<=a.o/\a.o<=500/\0<=a.t/\a.t<(n:Int))&&wgtB k a.w
noncomputable def finB (k:Int)(f:ByteArray):Bool:=decide (f.size=0) || wgtB k f
noncomputable def stB6 (k:Int)(n:Nat)(s:zah):Bool:=finB k s.fin&&s.arcs.all (arcB k n)
noncomputable def headB (m:zaj):Bool:=zcY m.kind&&decide (1<=m.states.length/\m.states.length<=3000/\0<=m.start/\m.start<(m.states.length:Int))&&wgtB m.kind m.lead
noncomputable def validB (m:zaj):Bool:=headB m&&decide (zap m.states<=30000)&&m.states.all (stB6 m.kind m.states.length)
structure zdD (m:zaj):Prop where
 n:m.states.length<=140737488355328
 lead:m.lead.size<=maxLen
 fin:∀ s∈m.states,s.fin.size<=maxLen
 arcs:∀ s∈m.states,s.arcs.length<=140737488355328
 w:∀ s∈m.states,∀ a∈s.arcs,a.w.size<=maxLen
def zfM {m:zaj}(h:validB m=true){k:Nat}{s:zah}(hs:m.states[k]?=some s):stB6 m.kind m.states.length s=true:=by
 unfold validB at h;simp only[zqbb,List.all_eq_true] at h;exact h.2 s (zqak hs)
def ziT {m:zaj}(h:validB m=true):zap m.states<=30000:=by
 unfold validB at h;simp only[zqbb,zqca] at h;exact h.1.2
def zfe {m:zaj}(h:validB m=true):headB m=true:=by
 unfold validB at h;simp only[zqbb] at h;exact h.1.1
def zep {m:zaj}(h:headB m=true):zcY m.kind=true/\1<=m.states.length/\m.states.length<=3000/\0<=m.start/\m.start<(m.states.length:Int)/\wgtB m.kind m.lead=true:=by
 unfold headB at h;simp only[zqbb,zqca] at h;exact⟨h.1.1,h.1.2.1,h.1.2.2.1,h.1.2.2.2.1,h.1.2.2.2.2,h.2⟩
def zfq {k:Int}{n:Nat}{s:zah}(h:stB6 k n s=true):finB k s.fin=true/\∀ a∈s.arcs,arcB k n a=true:=by
 unfold stB6 at h;simpa using h
def zgW {k:Int}{n:Nat}{a:zaI}(h:arcB k n a=true):0<=a.i/\a.i<=500/\0<=a.o/\a.o<=500/\0<=a.t/\a.t<(n:Int)/\wgtB k a.w=true:=by
 unfold arcB at h;simp only[zqbb,zqca] at h;exact⟨h.1.1,h.1.2.1,h.1.2.2.1,h.1.2.2.2.1,h.1.2.2.2.2.1,h.1.2.2.2.2.2,h.2⟩
def zni {l:List zah}{s:zah}(h:s∈l):s.arcs.length<=zap l:=by
 obtain⟨k,hk⟩:=List.mem_iff_getElem?.1 h;have h1:=ziS l (show k+1<=l.length by have:=(zqae.1 hk).1;omega);rw[zcA hk,zhs] at h1;omega
def zbb {w w':World}(h:w.grownBy w' none):Below w.heap.size w w':=below_grown h (zqab _) (by simp)
def zbJ.grown {w w':World}{v:Value}{m:zaj}(h:zbJ w v m)(hg:w.grownBy w' none):zbJ w' v m:=h.below (zbb hg)
def zfL.grown {w w':World}{v:Value}{l:List zah}(h:zfL w v l)(hg:w.grownBy w' none):zfL w' v l:=h.below (zbb hg)
def zas.grown {w w':World}{g:Nat}{m:zaj}{u:Value}(h:zas w g m u)(hg:w.grownBy w' none):zas w' g m u:=(hg.block g h.lt (by simp)).trans h
def zfp.grown {w w':World}{p:Addr}{f:ByteArray}{u:Value}(h:zfp w p f u)(hg:w.grownBy w' none)(hp:p.block<w.heap.size):zfp w' p f u:=h.below (zbb hg) hp
def zkc.grown {w w':World}{p:Addr}{a:zaI}(h:zkc w p a)(hg:w.grownBy w' none)(hp:p.block<w.heap.size):zkc w' p a:=h.below (zbb hg) hp
inductive RFrom (succ:Nat->List Nat) (S:Nat->Prop):Nat->Prop
 | start {x:Nat}:S x->RFrom succ S x
 | step {x y:Nat}:RFrom succ S x->y∈succ x->RFrom succ S y
def zaX (m:zaj)(x:Nat):List Nat:=match m.states[x]? with
 | some s=>s.arcs.map (fun a=>a.t.toNat)
 | none=>[]
def zkf {m:zaj}{x:Nat}{s:zah}(h:m.states[x]?=some s):zaX m x=s.arcs.map (fun a=>a.t.toNat):=by unfold zaX;rw[h]
open Go.RowKit
def zeM (z:Value)(n:Nat):(Builtin.zeroCells #[z] n).toList=List.replicate n z:=by
 have h:∀ i:Nat,[z][i%1]?.getD default=z:=fun i=>by rw[Nat.mod_one];rfl
 simp[Builtin.zeroCells,h];rw[List.map_const',List.length_range]
def zEH (n:Nat)(w:World)(hn0:0<n)(hn:n<=20000) :
  Calls prog 151 #[.slice none 0 0,.int .i64 (n:Int)] w fun e w'=>∃ v,e=.returned v/\(∃ g c,v=.slice (some ⟨g,0,none⟩) 0 c/\n<=c)/\w'.ownsRow w.heap.size 9 1 v 0 []/\w.grownBy w' none:=by
 obtain⟨i0,hi0,hz0,hzs,hzb⟩:=info_parts zfa
 have hold:(Builtin.firstCells i0.size 0 (.slice none 0 0)).run prog w.drew=.ok ([]:List Value).toArray w.drew:=by
  rw[hzs];exact run_firstCells_none w.drew 1 0 0 0
 obtain⟨G,hG⟩:∃ G,G=grownCap w n 0 9:=⟨_,rfl⟩;have hGn:n<=G:=by rw[hG];exact grownCap_ge w _ _ _
 have hG63:G<=maxLen:=by
  rw[hG];exact grownCap_le_maxLen w n 0 9 (by unfold maxLen;omega)
 have hrz:∀ ty,(Builtin.append_ #[27,3] ty #[.slice none 0 0,.int .i64 (n:Int)]).run prog w =
   .ok (.slice (some ⟨w.heap.size,0,none⟩) n G) (w.drew.alloc (.cells (List.replicate G (.string ⟨#[]⟩)).toArray 9)):=fun ty=>by
  have h:=Lib.run_append_grow_zeros w 27 3 ty 9 i0 _ .i64 .i64 underlying27 underlying3 hi0 hz0 none 0 0 [] hold n (by omega) (by omega) (by omega) (by omega) (by rw[hzb];omega) (by rw[hzb,zqat];exact growslice_fits (by omega) (by omega));rw[zqat,<- hG] at h;rw[h];congr 3;apply Array.toList_inj.1;show((#[]++Builtin.zeroCells #[Value.string ⟨#[]⟩] n++Builtin.zeroCells #[Value.string ⟨#[]⟩] (G-n)):Array Value).toList=_;exact zQcd
 have hi1:¬ (n:Int)<0:=by omega
 have hi2:(0:Int)<(n:Int):=by omega
 have hi3:¬ n=0:=by omega
 have hw1:IntKind.i64.wrap (n:Int)=(n:Int):=by rw[zqah];omega
 have hi6:(0:Int)<=(G:Int):=by omega
 have HP:=zHd (zAI hGn hG63);clear hold hG hGn hG63 hn;go_enter func151,ntmps151;go_wp2_with (at_builtin;refine Lib.wpList_append_run _ rfl _ _ _ _ rfl _ _ rfl rfl _ _ (hrz _) ?_);go_ret;obtain⟨hGn,hG63⟩:=HP.out;refine⟨_,rfl,⟨_,G,rfl,hGn⟩,⟨rfl,.inr ⟨w.heap.size,G,_,rfl,zqab _,zaG w.drew _,zqaw _,hG63,by simp,rfl⟩⟩,zaa (zaf w none) (zGA _ _ none)⟩
def zgj (n m:Nat):Nat->Nat
 | 0=>0
 | 1=>n
 | _=>n+m
def zlJ (n m:Nat)(X Y:Nat->ByteArray)(t:Nat):List Value:=(List.range (zgj n m t)).map (fun j=>.string (if j<n then X j else Y (j-n)))
def ziG (n:Nat)(X:Nat->ByteArray):List Value:=(List.range n).map (fun j=>.string (X j))
def zwm (n:Nat)(X:Nat->ByteArray):(ziG n X).length=n:=by unfold ziG;simp
def zwn {n j:Nat}{X:Nat->ByteArray}{v:Value}(h:(ziG n X)[j]?=some v):j<n/\v=.string (X j):=by
 unfold ziG at h;obtain⟨h1,h2⟩:=zqae.1 h;simp at h1 h2;exact⟨h1,h2.symm⟩
def zwo (n:Nat)(X:Nat->ByteArray):∀ v∈ziG n X,v.oneCell'=true:=fun v hv=>by
 unfold ziG at hv;obtain⟨j,_,rfl⟩:=zqbf.1 hv;rfl
def zId (n m:Nat)(X Y:Nat->ByteArray):zlJ n m X Y 0++ziG n X=zlJ n m X Y 1:=by
 unfold zlJ ziG zgj;simp only[List.range_zero,List.map_nil,List.nil_append];apply List.map_congr_left;intro j hj;rw[if_pos (List.mem_range.1 hj)]
def zIe (n m:Nat)(X Y:Nat->ByteArray):zlJ n m X Y 1++ziG m Y=zlJ n m X Y 2:=by
 unfold zlJ ziG zgj;simp only[List.range_add,List.map_append,List.map_map];congr 1;apply List.map_congr_left;intro j hj;show _=Value.string _;dsimp only;rw[if_neg (by omega),Nat.add_sub_cancel_left]
def zyj (n m gx:Nat)(ax ay:Addr)(cx cy:Nat)(X Y:Nat->ByteArray)(w:World)(hn0:0<n)(hn:n<=10000)(hm0:0<m)(hm:m<=10000)(hgx:gx<w.heap.size)
  (h0:w.cell? ⟨gx,0,none⟩=some (.slice (some ax) n cx)) (h1:w.cell? ⟨gx,1,none⟩=some (.slice (some ay) m cy))
  (hX:∀ j,j<n->w.cell? (ax.add j)=some (.string (X j))) (hY:∀ j,j<m->w.cell? (ay.add j)=some (.string (Y j))) (hbx:ax.block<w.heap.size) (hby:ay.block<w.heap.size) :
  Calls prog 103 #[.slice (some ⟨gx,0,none⟩) 2 2] w fun e w'=>∃ v,e=.returned v/\w'.ownsRow w.heap.size 9 1 v (n+m) (zlJ n m X Y 2)/\w.grownBy w' none:=by
 obtain⟨i0,hi0,hz0,hzs,hzb⟩:=info_parts zfa;have zG:=fun w'=>zEH (n+m) w' (by omega) (by omega);have HG:=zHd zG;have HX:=zHd hX;have HY:=zHd hY;have HB:=zHd (zAI hbx (zAI hby hgx));have HN:=zHd (zAI hn0 (zAI hn (zAI hm0 hm)));have H01:=zHd (zAI h0 h1);clear zG hX hY hbx hby hgx hn0 hn hm0 hm h0 h1;go_enter func103,ntmps103;go_wp2
 go_loopw [3,11] (fun sv iv wr=>∃ t:Nat,t<=2/\iv=.int .i64 (t:Int)/\sv=.int .i64 ((zgj n m t:Nat):Int)/\w=wr) (fun _ iv _=>2-(intOf iv).toNat)
 case atStart=>exact⟨0,by omega,rfl,rfl,rfl⟩
 case round =>
  obtain⟨t,ht,rfl,rfl,rfl⟩:=hrel;obtain⟨hn0,hn,hm0,hm⟩:=HN.out;rcases (show t=0∨t=1∨t=2 by omega) with rfl|rfl|rfl
  ·have c0:=H01.out.1
   have n1:IntKind.i64.wrap (n:Int)=(n:Int):=by rw[zqah];omega
   have n2:¬ (n:Int)<0:=by omega
   clear hn0 hn hm0 hm ht;simp only[zgj];go_wp2;exact⟨⟨1,by omega,by first|rfl|trivial,by first|rfl|trivial,by first|rfl|trivial⟩,by simp[intOf]⟩
  ·have c1:=H01.out.2
   have n1:IntKind.i64.wrap ((n:Int)+(m:Int))=(n:Int)+(m:Int):=by rw[zqah];omega
   have n2:¬ (n:Int)+(m:Int)<0:=by omega
   clear hn0 hn hm0 hm ht;simp only[zgj];go_wp2;exact⟨⟨2,by omega,by first|rfl|trivial,by simp[zgj],by first|rfl|trivial⟩,by simp[intOf]⟩
  clear hn0 hn hm0 hm ht;simp only[zgj];go_wp2_with fail;refine(HG.out _).mono ?_;rintro e w1 ⟨v,rfl,⟨g,c,rfl,hc⟩,zO,hg⟩;have HO:=zHd zO;have HC:=zHd (zAI hc hg);clear zO hc hg;go_wp2
  go_loopw [6,27] (fun sv iv wr=>∃ t:Nat,t<=2/\iv=.int .i64 (t:Int)/\wr.ownsRow w.heap.size 9 1 sv (zgj n m t) (zlJ n m X Y t)/\w.grownBy wr none) (fun _ iv _=>2-(intOf iv).toNat)
  case atStart=>exact⟨0,by omega,rfl,HO.out,HC.out.2⟩
  case round =>
   obtain⟨t,ht,rfl,zO,hg⟩:=hrel;obtain⟨hn0,hn,hm0,hm⟩:=HN.out;rcases (show t=0∨t=1∨t=2 by omega) with rfl|rfl|rfl
   ·have c0:=hg.cell H01.out.1 (by simp)
    have HOW:=zHd (zAI zO hg);have HNN:=zHd (zAI hn0 (zAI hn (zAI hm0 hm)));clear zO hg hn0 hn hm0 hm ht;go_wp2_with (at_builtin;refine wpList_append_lies _ rfl _ _ 27 rfl w.heap.size 9 i0 (.string ⟨#[]⟩) 1 16 underlying27 hi0 hz0 hzs hzb rfl (by decide) _ _ _ rfl HOW.out.1 ax n cx (ziG n X) rfl (by rw[zwm];omega) ?c1 (zwo n X) HNN.out.1 ?c3 ?c4 HOW.out.2.size _ rfl ?_)
    case c1 =>
     intro j u hu;obtain⟨hj,rfl⟩:=zwn hu;exact(zaL (ad:=ax.add j) (by rw[zaw];exact HOW.out.2.block _ HB.out.1 (by simp))).trans (HX.out j hj)
    case c3=>have:=HNN.out;unfold maxLen;simp only[zgj];omega
    case c4=>have:=HNN.out;simp only[zgj];omega
    intro g5 cap5 w5 hown5 hg5 hat5 hlt5
    have hg6:w.grownBy w5 none:=by
     rcases hat5 with h|h
     ·rw[h] at hg5
      exact zak HOW.out.2 hg5 (by have:=HOW.out.1.lt g5 h;omega)
     rcases HOW.out.1.2 with⟨e,_⟩|⟨g6,_,_,e,hb6,_⟩
     ·subst e;exact zaa HOW.out.2 hg5
     subst e;exact zak HOW.out.2 hg5 hb6
    have HF:=zHd (zAI hown5 hg6);clear hown5 hg5 hat5 hlt5 hg6;go_wp2;refine⟨⟨1,by omega,rfl,?_,HF.out.2⟩,by simp[intOf]⟩;rw[<- zId];simpa [zgj] using HF.out.1
   ·have c0:=hg.cell H01.out.2 (by simp)
    have HOW:=zHd (zAI zO hg);have HNN:=zHd (zAI hn0 (zAI hn (zAI hm0 hm)));clear zO hg hn0 hn hm0 hm ht;go_wp2_with (at_builtin;refine wpList_append_lies _ rfl _ _ 27 rfl w.heap.size 9 i0 (.string ⟨#[]⟩) 1 16 underlying27 hi0 hz0 hzs hzb rfl (by decide) _ _ _ rfl HOW.out.1 ay m cy (ziG m Y) rfl (by rw[zwm];omega) ?c1 (zwo m Y) HNN.out.2.2.1 ?c3 ?c4 HOW.out.2.size _ rfl ?_)
    case c1 =>
     intro j u hu;obtain⟨hj,rfl⟩:=zwn hu;exact(zaL (ad:=ay.add j) (by rw[zaw];exact HOW.out.2.block _ HB.out.2.1 (by simp))).trans (HY.out j hj)
    case c3=>have:=HNN.out;unfold maxLen;simp only[zgj];omega
    case c4=>have:=HNN.out;simp only[zgj];omega
    intro g5 cap5 w5 hown5 hg5 hat5 hlt5
    have hg6:w.grownBy w5 none:=by
     rcases HOW.out.1.2 with⟨e,_⟩|⟨g6,_,_,e,hb6,_⟩;subst e;exact zaa HOW.out.2 hg5;subst e;exact zak HOW.out.2 hg5 hb6
    have HF:=zHd (zAI hown5 hg6);clear hown5 hg5 hat5 hlt5 hg6;go_wp2;refine⟨⟨2,by omega,rfl,?_,HF.out.2⟩,by simp[intOf]⟩;rw[<- zIe];simpa [zgj] using HF.out.1
   have HOW:=zHd (zAI zO hg);clear zO hg hn0 hn hm0 hm ht;go_wp2;go_ret;exact⟨_,rfl,HOW.out.1,HOW.out.2⟩
def zBm {w:World}{B n:Nat}{v:Value}{xs:List Value}(h:w.ownsRow B 9 1 v n xs)(hn:0<n):∃ g c,v=.slice (some ⟨g,0,none⟩) n c/\n<=c/\c<=maxLen/\B<=g/\zar w g 0 n (fun j=>xs.getD j (.string ⟨#[]⟩)):=by
 obtain⟨hl,⟨_,h0⟩|⟨g,c,cur,rfl,hb,hg,h1,h2,hs,ht⟩⟩:=h;omega;refine⟨g,c,rfl,h1,h2,hb,(zqad.1 hg).1,fun j hj=>?_⟩;rw[zqat,zqbw w g j _ _ (0,0) hg,<- Array.getElem?_toList];exact zQbB
def zyk (n m:Nat)(xv yv:Value)(X Y:Nat->ByteArray)(w:World)(hn0:0<n)(hn:n<=10000)(hm0:0<m)(hm:m<=10000)(hx:zaK w xv n (fun j=>.string (X j)))(hy:zaK w yv m (fun j=>.string (Y j))) :
  Calls prog 71 #[xv,yv] w fun e w'=>∃ g c,e=.returned (.slice (some ⟨g,0,none⟩) (n+m) c)/\n+m<=c/\c<=maxLen/\w.heap.size<=g/\zar w' g 0 (n+m) (fun j=>.string (if j<n then X j else Y (j-n)))/\w.grownBy w' none:=by
 obtain⟨Ax,cx,rfl,hx1,hx2,hx3⟩:=hx;obtain⟨Ay,cy,rfl,hy1,hy2,hy3⟩:=hy;obtain⟨ax,rfl,hbx,_⟩:=hx3 0 hn0;obtain⟨ay,rfl,hby,_⟩:=hy3 0 hm0
 have zC:=fun(w1:World) (hg:w.grownBy w1 none) gx hgx c0 c1=>zyj n m gx ax ay cx cy X Y w1 hn0 hn hm0 hm hgx c0 c1
  (fun j hj=>by obtain⟨_,e,_,hc⟩:=hx3 j hj;cases e;exact(zaL (ad:=ax.add j) (by rw[zaw];exact hg.block _ hbx (by simp))).trans hc)
  (fun j hj=>by obtain⟨_,e,_,hc⟩:=hy3 j hj;cases e;exact(zaL (ad:=ay.add j) (by rw[zaw];exact hg.block _ hby (by simp))).trans hc)
  (zqba hbx hg.size) (zqba hby hg.size)
 have HC:=zHd zC;have HN:=zHd hn0;clear zC hx1 hx2 hx3 hy1 hy2 hy3 hn0 hn hm0 hm;go_enter func71,ntmps71;go_wp2_with fail;refine(HC.out (w.alloc (.cells #[.slice (some ax) n cx,.slice (some ay) m cy] 27)) (zGA _ _ none) w.heap.size (by simp) (zan w _ _ rfl) (zan w _ _ rfl)).mono ?_;rintro e w1 ⟨v,rfl,zO,hg⟩;have HP:=zHd (zAI zO hg);clear zO hg;go_wp2;go_ret;obtain⟨zO,hg⟩:=HP.out;obtain⟨g,c,rfl,h1,h2,h3,h4⟩:=zBm zO (by have:=HN.out;omega);refine⟨g,c,rfl,h1,h2,by simp at h3;omega,⟨h4.1,fun j hj=>(h4.2 j hj).trans ?_⟩,zaa (zGA _ _ none) hg⟩;congr 1;unfold zlJ;dsimp only;rw[zqaa,zqaj,zqbe (by show j<zgj n m 2;exact hj)];rfl
open Go.RowKit
def zzu {f:Nat->Rat}{n:Nat}:∀ d,(∀ m,m<n+d->0<=f m)->rs n f<=rs (n+d) f
 | 0,_=>Rat.le_refl
 | d+1,h=>by
  have h1:=zzu (f:=f) (n:=n) d (fun m hm=>h m (by omega));have h2:=h (n+d) (by omega);show rs n f<=rs (n+d) f+f (n+d);grind
def zuR {f:Nat->Rat}:∀ {n j:Nat},(∀ m,m<n->0<=f m)->j<n->f j<=rs n f
 | n+1,j,h,hj=>by
  show f j<=rs n f+f n;have h0:=zdS (f:=f) (n:=n) (fun m hm=>h m (by omega))
  by_cases e:j=n
  subst e;grind;have h1:=zuR (f:=f) (n:=n) (j:=j) (fun m hm=>h m (by omega)) (by omega);have h2:=h n (by omega);grind
def zzv {x:Rat}(h:isI x):isI (-x):=by
 have:=zcT (⟨-1,rfl⟩:isI (-1)) h;have e:(-1:Rat)*x = -x:=by grind
 rwa [e] at this
section
variable {A:Nat->Nat->El 2} {k i j n:Nat}
def zlK (hk:k<=n)(hi:i<n){c:Nat}(hc:c<(onL A k i j).length+1):nd A k i j c<n:=by
 cases c with
 | zero=>exact hi
 | succ c=>have:=(zqO (A:=A) (i:=i) (j:=j) (show c<(onL A k i j).length by omega)).1;omega
def zzw {c:Nat}:val (onA A k i j c 0)=0:=by unfold onA;rw[if_pos rfl];exact zeA
def zzx {c y:Nat}:onA A k i j c (y+1)=A (nd A k i j c) (nd A k i j (y+1)):=by unfold onA;rw[if_neg (by omega)]
def zLN (hk:k<=n)(c:Nat):rs ((onL A k i j).length+1) (fun y=>val (onA A k i j c y))<=rs n (fun m=>val (A (nd A k i j c) m)):=by
 rw[zlz,zzw]
 have e1:rs (onL A k i j).length (fun y=>val (onA A k i j c (y+1)))=rs k (fun m=>if onB A k i j m=true then val (A (nd A k i j c) m) else 0):=by
  rw[<- zzk (fun m=>val (A (nd A k i j c) m)) (onB A k i j) k];refine zbj (fun y _=>?_);rw[zzx,zkT];rfl
 rw[e1]
 have h1:rs k (fun m=>if onB A k i j m=true then val (A (nd A k i j c) m) else 0)<=rs k (fun m=>val (A (nd A k i j c) m)):=zjX (fun m _=>by
  by_cases hp:onB A k i j m=true
  rw[if_pos hp];exact Rat.le_refl;rw[if_neg hp];exact zcp _)
 have h2:=zzu (f:=fun m=>val (A (nd A k i j c) m)) (n:=k) (n-k) (fun m _=>zcp _);rw[show k+(n-k)=n by omega] at h2;grind
def zzy {Q:Nat->Rat}(hk:k<=n)(hi:i<n)(hQ:∀ x,x<n->1<=Q x):rp ((onL A k i j).length+1) (fun c=>Q (nd A k i j c))<=Q i*rp n Q:=by
 rw[zvT];have e0:nd A k i j 0=i:=rfl;rw[e0]
 have e1:rp (onL A k i j).length (fun c=>Q (nd A k i j (c+1)))=rp k (fun m=>if onB A k i j m=true then Q m else 1):=by
  rw[<- zzl Q (onB A k i j) k];refine zjt (fun y _=>?_);rw[zkT];rfl
 rw[e1]
 have h1:rp k (fun m=>if onB A k i j m=true then Q m else 1)<=rp k Q:=zjY (fun m hm=>by
  have:=hQ m (by omega)
  by_cases hp:onB A k i j m=true
  rw[if_pos hp];grind
  ·rw[if_neg hp];grind) (fun m hm=>by
  have:=hQ m (by omega)
  by_cases hp:onB A k i j m=true
  rw[if_pos hp];exact Rat.le_refl;rw[if_neg hp];exact this)
 have h2:=zzm (f:=Q) (n:=k) (n-k) (fun m hm=>hQ m (by omega));rw[show k+(n-k)=n by omega] at h2;have h3:=hQ i hi;exact zqai (zqar h1 h2) (by grind)
def quotient (h:zav (el S2 A k i j))(hk:k<=n)(hi:i<n)(hj:j<n){d Q:Nat->Rat}(hd:∀ x,x<n->1<=d x)(hdI:∀ x,x<n->isI (d x))(hAI:∀ x y,x<n->y<n->zav (A x y)->isI (d x*val (A x y)))
  (hQ:∀ x,x<n->2*(d x*(1+rs n (fun m=>val (A x m))))<=Q x) :
  ∃ N M:Rat,isI N/\isI M/\M≠0/\val (el S2 A k i j)*M=N/\ab N<=Q i*rp n Q/\ab M<=Q i*rp n Q:=by
 have hsum:∀ x,0<=rs n (fun m=>val (A x m)):=fun x=>zdS (fun m _=>zcp _)
 have hdR:∀ x,x<n->d x<=d x*(1+rs n (fun m=>val (A x m))):=fun x hx=>by
  have h1:=hd x hx;have h2:=Rat.mul_nonneg (show 0<=d x by grind) (hsum x);grind
 have hQ1:∀ x,x<n->1<=Q x:=fun x hx=>by
  have:=hQ x hx;have:=hdR x hx;have:=hd x hx;grind
 have hV:∀ y c,y<(onL A k i j).length+1->c<(onL A k i j).length+1->isI (d (nd A k i j c)*idV (fun x y=>val (onA A k i j x y)) y c):=fun y c hy hc=>by
  have hc2:=zlK (A:=A) (j:=j) hk hi hc;have e:d (nd A k i j c)*idV (fun x y=>val (onA A k i j x y)) y c=d (nd A k i j c)*(if c=y then 1 else 0) + -(d (nd A k i j c)*val (onA A k i j c y)):=by unfold idV;grind
  rw[e];refine zkP (zcT (hdI _ hc2) (by split;exact⟨1,rfl⟩;exact⟨0,rfl⟩)) (zzv ?_);cases y with
  | zero=>rw[zzw];exact zcT (hdI _ hc2) ⟨0,rfl⟩
  | succ y =>
   rw[zzx];exact hAI _ _ hc2 (zlK hk hi hy) (zvU h hc (by omega))
 have hE:∀ c,c<(onL A k i j).length+1->isI (d (nd A k i j c)*val (A (nd A k i j c) j)):=fun c hc=>hAI _ _ (zlK hk hi hc) hj (zhJ (zkU h hc)).1
 have hcr:=zEb (k:=(onL A k i j).length) (fun y c=>d (nd A k i j c)*idV (fun x y=>val (onA A k i j x y)) y c) (fun y=>val (el S2 A k (nd A k i j y) j)) (fun c=>d (nd A k i j c)*val (A (nd A k i j c) j)) (fun c hc=>by
  rw[zMi h hc,<- zdZ];exact zbj (fun y _=>by grind))
 have hsc:=zpm ((onL A k i j).length+1) (fun c=>d (nd A k i j c)) (idV (fun x y=>val (onA A k i j x y)));have hne:=zAU ((onL A k i j).length+1) (onA A k i j) (fun t x y ht hx hy=>zLv h ht hx hy);have hD:=zjZ (f:=fun c=>d (nd A k i j c)) (n:=(onL A k i j).length+1) (fun c hc=>hd _ (zlK hk hi hc))
 have zW:∀ c,c<(onL A k i j).length+1->rs ((onL A k i j).length+1) (fun y=>ab (d (nd A k i j c)*idV (fun x y=>val (onA A k i j x y)) y c))<=d (nd A k i j c)*(1+rs n (fun m=>val (A (nd A k i j c) m))):=fun c hc=>by
  have h1:=hd _ (zlK (A:=A) (j:=j) hk hi hc)
  have hle:rs ((onL A k i j).length+1) (fun y=>ab (d (nd A k i j c)*idV (fun x y=>val (onA A k i j x y)) y c))<=rs ((onL A k i j).length+1) (fun y=>d (nd A k i j c)*(1*(if c=y then 1 else 0)+val (onA A k i j c y))):=zjX (fun y _=>by
   rw[zkQ,zgr (show 0<=d (nd A k i j c) by grind)];refine zqai ?_ (by grind);have h2:=zcp (onA A k i j c y);unfold idV;refine zAS ?_ ?_ <;> split <;> grind)
  rw[zdZ,zhq,zol (fun _=>1) hc] at hle;exact zqar hle (zqai (by have:=zLN (A:=A) (i:=i) (j:=j) hk c;grind) (by grind))
 have hb1:rp ((onL A k i j).length+1) (fun c=>rs ((onL A k i j).length+1) (fun y=>ab (d (nd A k i j c)*idV (fun x y=>val (onA A k i j x y)) y c)))<=Q i*rp n Q:=by
  refine zqar (zjY (fun c _=>zdS (fun y _=>zcF _)) (fun c hc=>?_)) (zzy (A:=A) (j:=j) (Q:=Q) hk hi hQ1);have hx:=zlK (A:=A) (j:=j) hk hi hc;have h1:=zW c hc;have h2:=hQ _ hx;have h3:=hdR _ hx;have h4:=hd _ hx;grind
 have hb2:rp ((onL A k i j).length+1) (fun c=>rs ((onL A k i j).length+1) (fun y=>ab (up (fun y c=>d (nd A k i j c)*idV (fun x y=>val (onA A k i j x y)) y c) 0 (fun c=>d (nd A k i j c)*val (A (nd A k i j c) j)) y c)))<=Q i*rp n Q:=by
  refine zqar (zjY (fun c _=>zdS (fun y _=>zcF _)) (fun c hc=>?_)) (zzy (A:=A) (j:=j) (Q:=Q) hk hi hQ1);have hx:=zlK (A:=A) (j:=j) hk hi hc;have h1:=zW c hc;have h2:=hQ _ hx;have h4:=hd _ hx;rw[zlz] at h1 ⊢;have e1:rs (onL A k i j).length (fun m=>ab (up (fun y c=>d (nd A k i j c)*idV (fun x y=>val (onA A k i j x y)) y c) 0 (fun c=>d (nd A k i j c)*val (A (nd A k i j c) j)) (m+1) c))=rs (onL A k i j).length (fun m=>ab (d (nd A k i j c)*idV (fun x y=>val (onA A k i j x y)) (m+1) c)):=zbj (fun m _=>by unfold up;rw[if_neg (by omega)]);have e2:up (fun y c=>d (nd A k i j c)*idV (fun x y=>val (onA A k i j x y)) y c) 0 (fun c=>d (nd A k i j c)*val (A (nd A k i j c) j)) 0 c=d (nd A k i j c)*val (A (nd A k i j c) j):=by unfold up;rw[if_pos rfl]
  rw[e1,e2,zkQ,zgr (show 0<=d (nd A k i j c) by grind),zgr (zcp _)];have h5:=zuR (f:=fun m=>val (A (nd A k i j c) m)) (n:=n) (j:=j) (fun m _=>zcp _) hj;have h6:=zqai h5 (show 0<=d (nd A k i j c) by grind);have h7:=zcF (d (nd A k i j c)*idV (fun x y=>val (onA A k i j x y)) 0 c);grind
 refine⟨_,_,zmT (fun y c hy hc=>?_),zmT hV,?_,hcr.symm,zqar (zju _ _) hb2,zqar (zju _ _) hb1⟩
 ·unfold up
  by_cases e:y=0
  rw[if_pos e];exact hE c hc;rw[if_neg e];exact hV y c hy hc
 rw[hsc];intro e;rcases Rat.mul_eq_zero.1 e with e|e
 grind;exact hne e
end
def ziU (y:Rat):(y.num:Rat)=y*(y.den:Rat):=by
 have h:=Rat.num_divInt_den y;rw[Rat.divInt_eq_div] at h;have hd:((y.den:Int):Rat)≠0:=fun e=>y.den_nz (by have:=Rat.intCast_inj.1 (e.trans (by rfl:(0:Rat)=((0:Int):Rat)));omega);have h2:=Rat.div_mul_cancel (a:=(y.num:Rat)) hd;rw[h] at h2;exact h2.symm
def zoO {y:Rat}{N M:Rat}(hN:isI N)(hM:isI M)(h0:M≠0)(h:y*M=N){P:Nat}(h1:ab N<=(P:Rat))(h2:ab M<=(P:Rat)):y.num.natAbs<=P/\y.den<=P:=by
 obtain⟨a,rfl⟩:=hN;obtain⟨b,rfl⟩:=hM;have hb:b≠0:=fun e=>h0 (by rw[e];rfl)
 have hab:∀ z:Int,ab (z:Rat)<=(P:Rat)->z.natAbs<=P:=fun z hz=>by
  have h3:=zqar (zAT (z:Rat)) hz;have h4:=zqar (zmU (z:Rat)) hz
  have h5:z<=(P:Int):=by
   have:(z:Rat)<=((P:Int):Rat):=h3;exact Rat.intCast_le_intCast.1 this
  have h6 : -z<=(P:Int):=by
   have:((-z:Int):Rat)<=((P:Int):Rat):=by rw[Rat.intCast_neg];exact h4
   exact Rat.intCast_le_intCast.1 this
  omega
 have hA:=hab a h1;have hB:=hab b h2
 have hy:(y.num*b:Int)=a*(y.den:Int):=by
  have e1:(y.num:Rat)=y*(y.den:Rat):=ziU y
  have e2:((y.num*b:Int):Rat)=((a*(y.den:Int):Int):Rat):=by
   rw[Rat.intCast_mul,Rat.intCast_mul,e1,<- h];show y*(y.den:Rat)*(b:Rat)=y*(b:Rat)*(y.den:Rat);grind
  exact Rat.intCast_inj.1 e2
 have hcop:=y.reduced
 have hden:y.den ∣ b.natAbs:=by
  have h3:(y.den:Int) ∣ y.num*b:=⟨a,by rw[hy];exact Int.mul_comm _ _⟩;have h4:y.den ∣ (y.num*b).natAbs:=Int.ofNat_dvd_left.1 h3;rw[Int.natAbs_mul] at h4;exact(Nat.Coprime.dvd_of_dvd_mul_left hcop.symm h4)
 have hdb:y.den<=b.natAbs:=Nat.le_of_dvd (by omega) hden;refine⟨?_,by omega⟩
 by_cases ha:a=0
 ·have:y.num*b=0:=by rw[hy,ha,Int.zero_mul]
  rcases Int.mul_eq_zero.1 this with h|h;rw[h];exact zqaw _;exact absurd h hb
 have hnum:y.num.natAbs ∣ a.natAbs:=by
  have h3:y.num ∣ a*(y.den:Int):=⟨b,hy.symm⟩;have h4:y.num.natAbs ∣ (a*(y.den:Int)).natAbs:=Int.natAbs_dvd_natAbs.2 h3;rw[Int.natAbs_mul] at h4;exact Nat.Coprime.dvd_of_dvd_mul_right hcop (by simpa using h4)
 exact zqam (Nat.le_of_dvd (by omega) hnum) hA
open Go.RowKit
def dl:List Rat->Rat
 | []=>1
 | x::l=>(x.den:Rat)*dl l
def bl:List Rat->Rat
 | []=>1
 | x::l=>((x.num:Rat)+(x.den:Rat))*bl l
def sl:List Rat->Rat
 | []=>0
 | x::l=>x+sl l
def zzz (x:Rat):(1:Rat)<=(x.den:Rat):=by
 have h:((1:Int):Rat)<=((x.den:Int):Rat):=Rat.intCast_le_intCast.2 (by have:=x.den_pos;omega);exact h
def zon (x:Rat):isI (x.den:Rat):=⟨(x.den:Int),rfl⟩
def zgn:∀ l,1<=dl l
 | []=>Rat.le_refl
 | x::l=>by
  have h1:=zgn l;have h2:=zzz x;have h3:=Rat.mul_le_mul_of_nonneg_right h2 (show 0<=dl l by grind);show 1<=(x.den:Rat)*dl l;grind
def zjz:∀ l,isI (dl l)
 | []=>⟨1,rfl⟩
 | x::l=>zcT (zon x) (zjz l)
def zeq:∀ {l:List Rat},(∀ x∈l,0<=x)->0<=sl l
 | [],_=>Rat.le_refl
 | x::l,h=>by
  have h1:=zeq (l:=l) (fun y hy=>h y (zqao _ hy));have h2:=h x (zqbm ..);show 0<=x+sl l;grind
def zlL:∀ {l:List Rat},(∀ x∈l,0<=x)->dl l*(1+sl l)<=bl l
 | [],_=>by show(1:Rat)*(1+0)<=1;grind
 | x::l,h=>by
  have ih:=zlL (l:=l) (fun y hy=>h y (zqao _ hy));have hs:=zeq (l:=l) (fun y hy=>h y (zqao _ hy));have h0:=h x (zqbm ..);have h1:=zgn l;have h2:=zzz x;have hn:=ziU x;have hn0:0<=(x.num:Rat):=by rw[hn];exact Rat.mul_nonneg h0 (by grind)
  have h3:=zqai ih (show 0<=(x.den:Rat) by grind)
  have h4:dl l<=dl l*(1+sl l):=by
   have:=Rat.mul_nonneg (show 0<=dl l by grind) hs;grind
  have h5:=zqai (zqar h4 ih) hn0;show(x.den:Rat)*dl l*(1+(x+sl l))<=((x.num:Rat)+(x.den:Rat))*bl l;have e:(x.den:Rat)*dl l*(1+(x+sl l))=(x.den:Rat)*(dl l*(1+sl l))+(x.num:Rat)*dl l:=by rw[hn];grind
  rw[e];grind
def zlM (p:Nat->Bool):∀ (l:List (Nat×Rat)),isI (dl (l.map (·.2))*sl ((l.filter (fun x=>p x.1)).map (·.2)))
 | []=>⟨0,by show(1:Rat)*0=_;grind⟩
 | x::l=>by
  have ih:=zlM p l;have hd:=zjz (l.map (·.2));have hn:=ziU x.2;have hx:isI ((x.2.den:Rat)*x.2):=⟨x.2.num,by rw[hn];grind⟩;show isI ((x.2.den:Rat)*dl (l.map (·.2))*sl (((x::l).filter (fun x=>p x.1)).map (·.2)))
  by_cases hp:p x.1=true
  ·rw[List.filter_cons_of_pos (p:=fun x:Nat×Rat=>p x.1) hp]
   show isI ((x.2.den:Rat)*dl (l.map (·.2))*(x.2+sl ((l.filter (fun x=>p x.1)).map (·.2))));have e:(x.2.den:Rat)*dl (l.map (·.2))*(x.2+sl ((l.filter (fun x=>p x.1)).map (·.2)))=(x.2.den:Rat)*x.2*dl (l.map (·.2))+(x.2.den:Rat)*(dl (l.map (·.2))*sl ((l.filter (fun x=>p x.1)).map (·.2))):=by grind
   rw[e];exact zkP (zcT hx hd) (zcT (zon _) ih)
  rw[List.filter_cons_of_neg (p:=fun x:Nat×Rat=>p x.1) hp];have e:(x.2.den:Rat)*dl (l.map (·.2))*sl ((l.filter (fun x=>p x.1)).map (·.2))=(x.2.den:Rat)*(dl (l.map (·.2))*sl ((l.filter (fun x=>p x.1)).map (·.2))):=by grind
  rw[e];exact zcT (zon _) ih
def zLO:∀ {l:List Rat},(∀ x∈l,0<=x)->1<=bl l
 | l,h=>by
  have h1:=zlL h;have h2:=zgn l;have h3:=Rat.mul_nonneg (show 0<=dl l by grind) (zeq h);grind
def zaO (n:Nat):Rat:=((10 ^ n:Nat):Rat)
def zcQ (m n:Nat):zaO (m+n)=zaO m*zaO n:=by
 unfold zaO;rw[Nat.pow_add];show(((10 ^ m*10 ^ n:Nat):Int):Rat)=(((10 ^ m:Nat):Int):Rat)*(((10 ^ n:Nat):Int):Rat);rw[Int.natCast_mul,Rat.intCast_mul]
def zcf (n:Nat):0<=zaO n:=by
 have h:((0:Int):Rat)<=(((10 ^ n:Nat):Int):Rat):=Rat.intCast_le_intCast.2 (Int.natCast_nonneg _);exact h
def zuS {w:Nat}:∀ {l:List Rat},(∀ x∈l,0<=x/\(x.num:Rat)+(x.den:Rat)<=zaO w)->bl l<=zaO (w*l.length)
 | [],_=>by show(1:Rat)<=zaO (w*0);rw[Nat.mul_zero];exact Rat.le_refl
 | x::l,h=>by
  have ih:=zuS (l:=l) (fun y hy=>h y (zqao _ hy));have h1:=h x (zqbm ..);have h2:=zLO (l:=l) (fun y hy=>(h y (zqao _ hy)).1);show((x.num:Rat)+(x.den:Rat))*bl l<=zaO (w*(l.length+1));rw[Nat.mul_succ,zcQ];have h3:=Rat.mul_le_mul_of_nonneg_right h1.2 (show 0<=bl l by grind);have h4:=zqai ih (zcf w);have:=zqar h3 h4;grind
open Go.RowKit
def ns:Nat->(Nat->Nat)->Nat
 | 0,_=>0
 | n+1,f=>ns n f+f n
def zJp {f:Nat->Nat}:∀ {n i:Nat},i<n->f i<=ns n f
 | n+1,i,h=>by
  show f i<=ns n f+f n
  by_cases e:i=n
  subst e;omega;have:=zJp (f:=f) (n:=n) (i:=i) (by omega);omega
def zwp {f:Nat->Rat}{g:Nat->Nat}:∀ {n:Nat},(∀ m,m<n->0<=f m/\f m<=zaO (g m))->rp n f<=zaO (ns n g)
 | 0,_=>by show(1:Rat)<=zaO 0;exact Rat.le_refl
 | n+1,h=>by
  have ih:=zwp (f:=f) (g:=g) (n:=n) (fun m hm=>h m (by omega));have h1:=h n (by omega);show rp n f*f n<=zaO (ns n g+g n);rw[zcQ];have h2:=Rat.mul_le_mul_of_nonneg_right ih h1.1;have h3:=zqai h1.2 (zcf (ns n g));exact zqar h2 h3
def zwq (f:Nat->Nat):∀ n,ns n (fun x=>4*f x+1)=4*ns n f+n
 | 0=>rfl
 | n+1=>by
  show ns n (fun x=>4*f x+1)+(4*f n+1)=4*(ns n f+f n)+(n+1);rw[zwq f n];omega
def zEI (e:Nat)(v:Rat)(hv:0<=v):∀ n,rs n (fun m=>if e=m then v else 0)<=v
 | 0=>hv
 | n+1=>by
  show rs n (fun m=>if e=m then v else 0)+(if e=n then v else 0)<=v
  by_cases h:e=n
  rw[if_pos h,zja (fun m hm=>by rw[if_neg (by omega)])];grind;rw[if_neg h];have:=zEI e v hv n;grind
def zlN (n:Nat):∀ {l:List (Nat×Rat)},(∀ e∈l,0<=e.2)->rs n (fun m=>sl ((l.filter (fun e=>e.1==m)).map (·.2)))<=sl (l.map (·.2))
 | [],_=>by
  have h:rs n (fun m=>sl ((([]:List (Nat×Rat)).filter (fun e=>e.1==m)).map (·.2)))=0:=zja (fun _ _=>rfl);rw[h];exact Rat.le_refl
 | e::l,h=>by
  have ih:=zlN n (l:=l) (fun y hy=>h y (zqao _ hy));have h0:=h e (zqbm ..)
  have e1:rs n (fun m=>sl (((e::l).filter (fun e=>e.1==m)).map (·.2)))=rs n (fun m=>(if e.1=m then e.2 else 0)+sl ((l.filter (fun e=>e.1==m)).map (·.2))):=zbj (fun m _=>by
   by_cases hp:e.1=m
   rw[if_pos hp,List.filter_cons_of_pos (p:=fun e:Nat×Rat=>e.1==m) (by simp[hp])];rfl;rw[if_neg hp,List.filter_cons_of_neg (p:=fun e:Nat×Rat=>e.1==m) (by simp[hp])];grind)
  rw[e1,zhq];have h1:=zEI e.1 e.2 h0 n;show _<=e.2+sl (l.map (·.2));grind
def zEJ {A:Nat->Nat->El 2}{k i j n c:Nat}(L:Nat->List (Nat×Rat))(hk:k<=n)(hi:i<n)(hj:j<n)
  (hL:∀ x,x<n->∀ e∈L x,0<=e.2/\(e.2.num:Rat)+(e.2.den:Rat)<=zaO 4)
  (hA:∀ x y,x<n->y<n->zav (A x y)->val (A x y)=sl (((L x).filter (fun e=>e.1==y)).map (·.2)))
  (hc:ns n (fun x=>(L x).length)<=c) (h:zav (el S2 A k i j)):zax (8*c+n+2) (el S2 A k i j).1:=by
 have hpos:∀ x,x<n->∀ y∈(L x).map (·.2),0<=y:=fun x hx y hy=>by
  obtain⟨e,he,rfl⟩:=zqbf.1 hy;exact(hL x hx e he).1
 have hten:∀ x,x<n->bl ((L x).map (·.2))<=zaO (4*(L x).length):=fun x hx=>by
  have:=zuS (w:=4) (l:=(L x).map (·.2)) (fun y hy=>by
   obtain⟨e,he,rfl⟩:=zqbf.1 hy;exact hL x hx e he)
  rwa [zqbn] at this
 have hsum:∀ x,x<n->rs n (fun m=>val (A x m))<=sl ((L x).map (·.2)):=fun x hx=>by
  refine zqar (zjX (fun m hm=>?_)) (zlN n (fun e he=>(hL x hx e he).1))
  by_cases hf:zav (A x m)
  rw[hA x m hx hm hf];exact Rat.le_refl;have:val (A x m)=0:=by unfold val;rw[zdi.1 hf]
  rw[this];refine zeq (fun y hy=>?_);obtain⟨e,he,rfl⟩:=zqbf.1 hy;exact(hL x hx e (List.mem_filter.1 he).1).1
 have hQ:∀ x,x<n->2*(dl ((L x).map (·.2))*(1+rs n (fun m=>val (A x m))))<=zaO (4*(L x).length+1):=fun x hx=>by
  have h1:=zlL (hpos x hx);have h2:=hten x hx;have h3:=hsum x hx;have h4:=zgn ((L x).map (·.2));have h5:=zqai h3 (show 0<=dl ((L x).map (·.2)) by grind);have h6:=zcf (4*(L x).length);rw[zcQ];have h7:zaO 1=10:=by unfold zaO;decide +kernel
  rw[h7];grind
 obtain⟨N,M,hN,hM,hM0,hy,hbN,hbM⟩:=quotient (A:=A) (k:=k) (i:=i) (j:=j) (n:=n) (d:=fun x=>dl ((L x).map (·.2))) (Q:=fun x=>zaO (4*(L x).length+1)) h hk hi hj (fun x _=>zgn _) (fun x _=>zjz _) (fun x y hx hy hf=>by
  rw[hA x y hx hy hf];exact zlM (fun z=>z==y) (L x)) hQ
 have hP:zaO (4*(L i).length+1)*rp n (fun x=>zaO (4*(L x).length+1))<=((10 ^ (8*c+n+1):Nat):Rat):=by
  have h1:=zwp (f:=fun x=>zaO (4*(L x).length+1)) (g:=fun x=>4*(L x).length+1) (n:=n) (fun m _=>⟨zcf _,Rat.le_refl⟩);rw[zwq (fun x=>(L x).length) n] at h1;have h2:=zqai h1 (zcf (4*(L i).length+1));rw[<- zcQ] at h2
  have h3:4*(L i).length+1+(4*ns n (fun x=>(L x).length)+n)<=8*c+n+1:=by
   have:=zJp (f:=fun x=>(L x).length) hi;omega
  refine zqar h2 ?_
  have h4:((10 ^ (4*(L i).length+1+(4*ns n (fun x=>(L x).length)+n)):Nat):Int)<=((10 ^ (8*c+n+1):Nat):Int):=by
   have:=zqay (show 0<10 by omega) h3;exact Int.ofNat_le.2 this
  exact Rat.intCast_le_intCast.2 h4
 have hw:=zoO (y:=val (el S2 A k i j)) hN hM hM0 hy (P:=10 ^ (8*c+n+1)) (zqar hbN hP) (zqar hbM hP);rw[zdV h];have hlt:10 ^ (8*c+n+1)<10 ^ (8*c+n+2):=Nat.pow_lt_pow_right (by omega) (by omega);exact⟨zga _ _ (by omega) (Nat.lt_of_le_of_lt hw.1 hlt),zga _ _ (by omega) (Nat.lt_of_le_of_lt hw.2 hlt)⟩
open Go.RowKit
open Go.Lib (nDigits)
variable {α:Type}
def cs (S:Sr α):List (Nat×α)->Nat->α
 | [],_=>S.zero
 | e::l,y=>if e.1=y then S.add e.2 (cs S l y) else cs S l y
def zoo (S:Sr α)(e:Nat×α)(y:Nat):∀ l,cs S (l++[e]) y=if e.1=y then S.add (cs S l y) e.2 else cs S l y
 | []=>by
  show(if e.1=y then S.add e.2 S.zero else S.zero)=if e.1=y then S.add S.zero e.2 else S.zero
  rw[S.add_comm]
 | x::l=>by
  show(if x.1=y then S.add x.2 (cs S (l++[e]) y) else cs S (l++[e]) y)=if e.1=y then S.add (if x.1=y then S.add x.2 (cs S l y) else cs S l y) e.2 else (if x.1=y then S.add x.2 (cs S l y) else cs S l y)
  rw[zoo S e y l]
  by_cases h1:x.1=y
  ·simp only[h1,if_true]
   by_cases h2:e.1=y
   simp only[h2,if_true];rw[S.add_assoc];simp only[h2,if_false]
  simp only[h1,if_false]
def Sh4:Ext->Prop
 | .inr x=>nDigits x.num.natAbs+(if x.den=1 then 0 else nDigits x.den)<=4
 | _=>True
def Sh4.wide {v:Ext}(h:Sh4 v):zax 4 v:=by
 rcases v with(_|_)|x;trivial;trivial;have h1:nDigits x.num.natAbs+(if x.den=1 then 0 else nDigits x.den)<=4:=h;refine⟨by omega,?_⟩
 by_cases hd:x.den=1
 rw[hd,show nDigits 1=1 from Lib.nDigits_small (by decide)];omega;rw[if_neg hd] at h1;omega
def Sh4.ten {x:Rat}(h:Sh4 (.inr x))(h0:0<=x):(x.num:Rat)+(x.den:Rat)<=zaO 4:=by
 have h1:nDigits x.num.natAbs+(if x.den=1 then 0 else nDigits x.den)<=4:=h;have hn:=Rat.num_nonneg.2 h0;have u1:=zfZ x.num.natAbs;have u2:=zfZ x.den;have p1:=Lib.nDigits_pos x.num.natAbs
 have key:x.num+(x.den:Int)<=((10 ^ 4:Nat):Int):=by
  by_cases hd:x.den=1
  ·rw[if_pos hd] at h1
   have h2:x.num.natAbs<10 ^ 4:=zqba u1 (zqay (by omega) (by omega));rw[hd];omega
  rw[if_neg hd] at h1;have p2:=Lib.nDigits_pos x.den;have h2:x.num.natAbs<10 ^ 3:=zqba u1 (zqay (by omega) (by omega));have h3:x.den<10 ^ 3:=zqba u2 (zqay (by omega) (by omega));omega
 have h3:=Rat.intCast_le_intCast.2 key;rw[Rat.intCast_add] at h3;exact h3
def fins:List (Nat×El 2)->List (Nat×Rat)
 | []=>[]
 | e::l=>match e.2.1 with
  | .inr x=>(e.1,x)::fins l
  | _=>fins l
def zkg (e:Nat×El 2)(l:List (Nat×El 2)):(¬ zav e.2/\fins (e::l)=fins l)∨(zav e.2/\fins (e::l)=(e.1,val e.2)::fins l):=by
 rcases El2.cases e.2 with h|⟨x,h,hx⟩
 ·refine .inl ⟨zdi.2 h,?_⟩
  conv=>lhs;unfold fins
  rw[h]
 refine .inr ⟨⟨x,h⟩,?_⟩;rw[zjv h]
 conv=>lhs;unfold fins
 rw[h]
def zkh:∀ l,(fins l).length<=l.length
 | []=>zqab _
 | e::l=>by
  have ih:=zkh l;rcases zkg e l with⟨_,h⟩|⟨_,h⟩ <;> rw[h]
  rw[zqbu];omega;rw[zqbu,zqbu];omega
def zdu:∀ {l:List (Nat×El 2)},(∀ e∈l,Sh4 e.2.1)->∀ e∈fins l,0<=e.2/\(e.2.num:Rat)+(e.2.den:Rat)<=zaO 4
 | [],_,e,he=>by cases he
 | a::l,h,e,he=>by
  have ih:=zdu (l:=l) (fun x hx=>h x (zqao _ hx));rcases zkg a l with⟨_,h2⟩|⟨hf,h2⟩ <;> rw[h2] at he
  exact ih e he;rcases List.mem_cons.1 he with rfl|he
  ·have h3:=h a (zqbm ..)
   rw[zdV hf] at h3;exact⟨zcp _,h3.ten (zcp _)⟩
  exact ih e he
def znj (y:Nat):∀ {l:List (Nat×El 2)},zav (cs S2 l y)->val (cs S2 l y)=sl (((fins l).filter (fun e=>e.1==y)).map (·.2))
 | [],_=>rfl
 | e::l,h=>by
  by_cases hy:e.1=y
  ·have e1:cs S2 (e::l) y=S2.add e.2 (cs S2 l y):=if_pos hy
   rw[e1] at h ⊢;obtain⟨h1,h2⟩:=zjb.1 h;have ih:=znj y (l:=l) h2;rcases zkg e l with⟨h3,_⟩|⟨_,h3⟩
   exact absurd h1 h3;rw[h3,List.filter_cons_of_pos (by simp[hy]),List.map_cons,zjc h1 h2,ih];rfl
  have e1:cs S2 (e::l) y=cs S2 l y:=if_neg hy;rw[e1] at h ⊢;have ih:=znj y (l:=l) h;rcases zkg e l with⟨_,h3⟩|⟨_,h3⟩ <;> rw[h3]
  exact ih;rw[List.filter_cons_of_neg (by simp[hy])];exact ih
def zsF {f g:Nat->Nat}:∀ {n:Nat},(∀ m,m<n->f m<=g m)->ns n f<=ns n g
 | 0,_=>zqab _
 | n+1,h=>by
  have h1:=zsF (f:=f) (g:=g) (n:=n) (fun m hm=>h m (by omega));have h2:=h n (by omega);show ns n f+f n<=ns n g+g n;omega
def zIf {A:Nat->Nat->El 2}{M:Nat->List (Nat×El 2)}{n c t i j:Nat}(ht:t<=n)(hi:i<n)(hj:j<n)
  (hA:∀ x y,x<n->y<n->A x y=cs S2 (M x) y) (hM:∀ x,x<n->∀ e∈M x,Sh4 e.2.1) (hc:ns n (fun x=>(M x).length)<=c) :
  zax (8*c+n+2) (el S2 A t i j).1:=by
 by_cases hf:zav (el S2 A t i j)
 ·refine zEJ (fun x=>fins (M x)) ht hi hj (fun x hx=>zdu (hM x hx)) (fun x y hx hy h=>?_) (zqam (zsF (fun m _=>zkh (M m))) hc) hf
  rw[hA x y hx hy] at h ⊢;exact znj y h
 rw[zdi.1 hf];trivial
def zis {k:Int}(h:k=1∨k=3){n:Nat}{u v:Ext}(hu:zax n u)(hv:zax n v):zax n (zcI k u v):=by
 rcases h with rfl|rfl
 ·show zax n (zct u v)
  rcases zst u v with h|h <;> rw[h];exact hu;exact hv
 show zax n (zbR u v);rcases zok u v with h|h <;> rw[h];exact hu;exact hv
def zoP {k:Int}(h:k=1∨k=3)(u:Ext):zax 1 (zcJ k u):=by
 rcases h with rfl|rfl
 ·show zax 1 (if zbu u (.inr 0)<0 then .inl false else .inr 0)
  split;trivial;exact zho
 show zax 1 (if 0<zbu u (.inr 1) then .inl true else .inr 1);split;trivial;exact zmS
def wn:Nat->Nat
 | 0=>4
 | t+1=>2*wn t+3
def zEK:∀ t,1<=wn t
 | 0=>by decide
 | t+1=>by show 1<=2*wn t+3;omega
def zop:∀ {s t:Nat},s<=t->wn s<=wn t
 | s,0,h=>by rw[Nat.le_zero.1 h];exact zqab _
 | s,t+1,h=>by
  by_cases e:s=t+1
  rw[e];exact zqab _;have:=zop (s:=s) (t:=t) (by omega);show wn s<=2*wn t+3;omega
def zsG {k:Int}(hk:zad k)(h:k=1∨k=3)(y:Nat):∀ {l:List (Nat×El k)},(∀ e∈l,Sh4 e.2.1)->zax 4 (cs (srE k hk) l y).1
 | [],_=>(zdR k).mono (by omega)
 | e::l,hl=>by
  have ih:=zsG hk h y (l:=l) (fun x hx=>hl x (zqao _ hx))
  by_cases hy:e.1=y
  ·have e1:cs (srE k hk) (e::l) y=(srE k hk).add e.2 (cs (srE k hk) l y):=if_pos hy
   rw[e1];exact zis h (hl e (zqbm ..)).wide ih
  have e1:cs (srE k hk) (e::l) y=cs (srE k hk) l y:=if_neg hy;rw[e1];exact ih
def ztF {k:Int}(hk:zad k)(h:k=1∨k=3){A:Nat->Nat->El k}{n:Nat}(hA:∀ x y,x<n->y<n->zax 4 (A x y).1):∀ t,t<=n->∀ i j,i<n->j<n->zax (wn t) (el (srE k hk) A t i j).1
 | 0,_,i,j,hi,hj=>hA i j hi hj
 | t+1,ht,i,j,hi,hj=>by
  have ih:=ztF hk h hA t (by omega);have w1:=ih i j hi hj;have w2:=ih i t hi (by omega);have w4:=ih t j (by omega) hj;have w3:=zoP h (el (srE k hk) A t t t).1;have p:=zEK t;have t1:zax (wn t+1+1) (zbi k (el (srE k hk) A t i t).1 (zcJ k (el (srE k hk) A t t t).1)):=zcj k p w2 w3;have t2:=zcj k (by omega) t1 w4;exact zis h (w1.mono (by show wn t<=2*wn t+3;omega)) (t2.mono (by show wn t+1+1+wn t+1<=2*wn t+3;omega))
structure zdI (k:Int)(hk:zad k)(A:Nat->Nat->El k)(n:Nat)(M:Nat->List (Nat×El k)):Prop where
 row:n<=6
 is:∀ x y,x<n->y<n->A x y=cs (srE k hk) (M x) y
 short:∀ x,x<n->∀ e∈M x,Sh4 e.2.1
 few:ns n (fun x=>(M x).length)<=15
variable {k:Int} {hk:zad k} {A:Nat->Nat->El k} {n:Nat} {M:Nat->List (Nat×El k)}
def zdI.el (h:zdI k hk A n M){t i j:Nat}(h5:t<=5)(ht:t<=n)(hi:i<n)(hj:j<n):zax (if k=2 then 128 else wn t) (el (srE k hk) A t i j).1:=by
 by_cases e:k=2
 ·subst e
  rw[if_pos rfl];have h1:=h.row;exact(zIf (c:=15) ht hi hj h.is h.short h.few).mono (by omega)
 rw[if_neg e];have e13:k=1∨k=3:=by rcases hk with h|h|h <;> omega
 refine ztF hk e13 (fun x y hx hy=>?_) t ht i j hi hj;rw[h.is x y hx hy];exact zsG hk e13 y (h.short x hx)
def wn5:wn 5=221:=rfl
def wn4:wn 4=109:=rfl
def zdI.wide (h:zdI k hk A n M){t i j:Nat}(h5:t<=5)(ht:t<=n)(hi:i<n)(hj:j<n):zax 221 (Proofs.YtiblmbpfcmcccaaGreatDoor.el (srE k hk) A t i j).1:=by
 refine(h.el h5 ht hi hj).mono ?_;have:=zop h5;rw[wn5] at this;split <;> omega
def zdI.loop (h:zdI k hk A n M){t:Nat}(h5:t<5)(ht:t<n):zax (if k=2 then 131 else 1) (zcJ k (Proofs.YtiblmbpfcmcccaaGreatDoor.el (srE k hk) A t t t).1):=by
 have h1:=h.el (t:=t) (i:=t) (j:=t) (by omega) (by omega) ht ht
 by_cases e:k=2
 ·rw[if_pos e] at h1 ⊢
  exact zAR k (by omega) h1
 rw[if_neg e];exact zoP (by rcases hk with h|h|h <;> omega) _
def zdI.once (h:zdI k hk A n M){t i:Nat}(h5:t<5)(ht:t<n)(hi:i<n):zax (if k=2 then 260 else 111) (zbi k (Proofs.YtiblmbpfcmcccaaGreatDoor.el (srE k hk) A t i t).1 (zcJ k (Proofs.YtiblmbpfcmcccaaGreatDoor.el (srE k hk) A t t t).1)):=by
 have h1:=h.el (t:=t) (i:=i) (j:=t) (by omega) (by omega) hi ht;have h2:=h.loop h5 ht;have p:=zEK t;have q:=zop (show t<=4 by omega);rw[wn4] at q
 by_cases e:k=2
 ·rw[if_pos e] at h1 h2 ⊢
  exact zcj k (by omega) h1 h2
 rw[if_neg e] at h1 h2 ⊢;exact(zcj k p h1 h2).mono (by omega)
def zdI.twice (h:zdI k hk A n M){t i j:Nat}(h5:t<5)(ht:t<n)(hi:i<n)(hj:j<n) :
  zax 389 (zbi k (zbi k (Proofs.YtiblmbpfcmcccaaGreatDoor.el (srE k hk) A t i t).1 (zcJ k (Proofs.YtiblmbpfcmcccaaGreatDoor.el (srE k hk) A t t t).1)) (Proofs.YtiblmbpfcmcccaaGreatDoor.el (srE k hk) A t t j).1):=by
 have h1:=h.once h5 ht hi;have h2:=h.el (t:=t) (i:=t) (j:=j) (by omega) (by omega) ht hj;have q:=zop (show t<=4 by omega);rw[wn4] at q
 by_cases e:k=2
 ·rw[if_pos e] at h1 h2
  exact zcj k (by omega) h1 h2
 rw[if_neg e] at h1 h2;exact(zcj k (by omega) h1 h2).mono (by omega)
end Go.Proofs.YtiblmbpfcmcccaaGreatDoor
