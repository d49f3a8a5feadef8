/- Part. -/
import Derived.Test.YtadgpgofcjpnjaaGreatDoorZK06
set_option linter.unusedVariables false
set_option linter.defProp false
set_option linter.unusedSimpArgs false
set_option maxRecDepth 100000
set_option maxHeartbeats 16000000
namespace Go.Proofs.YtadgpgofcjpnjaaGreatDoor
open Go.Proofs.Tryz
open Go.RowKit
open Go.Lib (nDigits decDigits)
def zhA (s:ByteArray)(b:Bool):Prop:=∀ w,Calls prog 143 #[.string s] w fun e w'=>e=.returned (.bool b)/\w=w'
def zln (a g Q R:ByteArray):Prop:=∀ w,Calls prog 144 #[.string a,.string g] w (zab (.tuple #[.string Q,.string R,.int .i64 0]) w)
def zxn (neg:Bool)(num den:ByteArray)(w:World)(V:Hid (zhA num false)) :
  Calls prog 116 #[.bool neg,.string num,.string den] w (zab (.tuple #[.string ⟨#[]⟩,.int .i64 1]) w):=by
 go_enter func116,ntmps116;go_wp2_with fail;refine(V.out _).mono ?_;rintro e w' ⟨rfl,rfl⟩;exact zQbv
def zxo (neg:Bool)(num den:ByteArray)(w:World)(V:Hid (zhA num true))(U:Hid (zhA den false)) :
  Calls prog 116 #[.bool neg,.string num,.string den] w (zab (.tuple #[.string ⟨#[]⟩,.int .i64 1]) w):=by
 go_enter func116,ntmps116;exact zQaD
def zxp (neg:Bool)(num den:ByteArray)(w:World)(V:Hid (zhA num true))(U:Hid (zhA den true))(f:(den.toList==[48])=true) :
  Calls prog 116 #[.bool neg,.string num,.string den] w (zab (.tuple #[.string ⟨#[]⟩,.int .i64 1]) w):=by
 go_enter func116,ntmps116;exact zQaD
def zvl (neg:Bool)(num den G A B R1 R2:ByteArray)(w:World)(V:Hid (zhA num true))(U:Hid (zhA den true))(f:(den.toList==[48])=false)(GC:Hid (zgP num den G))(D1:Hid (zln num G A R1))(D2:Hid (zln den G B R2))(h:(400:Int)<(A.size:Int)) :
  Calls prog 116 #[.bool neg,.string num,.string den] w (zab (.tuple #[.string ⟨#[]⟩,.int .i64 2]) w):=by
 exact zQah
def zvm (neg:Bool)(num den G A B R1 R2:ByteArray)(w:World)(V:Hid (zhA num true))(U:Hid (zhA den true))(f:(den.toList==[48])=false)(GC:Hid (zgP num den G))(D1:Hid (zln num G A R1))(D2:Hid (zln den G B R2))(h:¬ (400:Int)<(A.size:Int))(h2:(400:Int)<(B.size:Int)) :
  Calls prog 116 #[.bool neg,.string num,.string den] w (zab (.tuple #[.string ⟨#[]⟩,.int .i64 2]) w):=by
 exact zQah
def zAg (neg c:Bool)(num den G A B R1 R2:ByteArray)(w:World)(V:Hid (zhA num true))(U:Hid (zhA den true))(f:(den.toList==[48])=false)(GC:Hid (zgP num den G))(D1:Hid (zln num G A R1))(D2:Hid (zln den G B R2))(h:¬ (400:Int)<(A.size:Int))(h2:¬ (400:Int)<(B.size:Int))(z1:(A.toList==[48]) = !c)(z2:(A.toList != [48])=c)(o1:(B.toList==[49])=true) :
  Calls prog 116 #[.bool neg,.string num,.string den] w (zab (.tuple #[.string (if neg&&c then ⟨#[45]⟩++A else A),.int .i64 0]) w):=by
 cases neg <;> cases c <;> simp only[Bool.not_true,Bool.not_false] at z1
 all_goals
  exact zQah
def zxq (neg c:Bool)(num den G A B R1 R2:ByteArray)(w:World)(V:Hid (zhA num true))(U:Hid (zhA den true))(f:(den.toList==[48])=false)(GC:Hid (zgP num den G))(D1:Hid (zln num G A R1))(D2:Hid (zln den G B R2))(h:¬ (400:Int)<(A.size:Int))(h2:¬ (400:Int)<(B.size:Int))(z1:(A.toList==[48]) = !c)(z2:(A.toList != [48])=c)(o1:(B.toList==[49])=false) :
  Calls prog 116 #[.bool neg,.string num,.string den] w (zab (.tuple #[.string ((if neg&&c then ⟨#[45]⟩++A else A)++⟨#[47]⟩++B),.int .i64 0]) w):=by
 cases neg <;> cases c <;> simp only[Bool.not_true,Bool.not_false] at z1
 all_goals
  exact zQah
def rVal (s:ByteArray)(hs:s.size<=maxLen):zhA s (zas s):=fun w=>zaE s w hs
def rDiv (m n:Nat)(hm:nDigits m<=1000)(hn:nDigits n<=1000)(h:n≠0):zln (zal m) (zal n) (zal (m/n)) (zal (m%n)):=fun w=>by
 have:=zts (zal m) (zal n) w (zbh m hm) (zbh n hn);rw[zow m n hm hn h] at this;exact this
def zAh (x:Rat)(h:zcd x):zec x=.tuple #[.string ((if decide (x.num<0) then ⟨#[45]⟩++zal x.num.natAbs else zal x.num.natAbs)++(if x.den=1 then ⟨#[]⟩ else (⟨#[47]⟩++zal x.den))),.int .i64 0]:=by
 rw[zjf h,zrL]
def zAi (neg:Bool)(num den:ByteArray)(w:World)(hn:num.size<=maxLen)(hd:den.size<=maxLen) :
  Calls prog 116 #[.bool neg,.string num,.string den] w (zab (zhr neg num den) w):=by
 have va:=rVal num hn;have vb:=rVal den hd;unfold zhr;cases ha:zas num
 ·rw[ha] at va
  exact zxn neg num den w (zHd va)
 cases hb:zas den
 ·rw[ha] at va
  rw[hb] at vb;exact zxo neg num den w (zHd va) (zHd vb)
 rw[ha] at va;rw[hb] at vb;have hz:=(zeL den hb).1
 by_cases h0:nv den=0
 ·rw[h0] at hz ⊢
  exact zxp neg num den w (zHd va) (zHd vb) (by simpa using hz)
 simp only[h0,Bool.and_self,Bool.true_and,decide_false,Bool.not_false,if_true];obtain⟨en,ln⟩:=zcE num ha;obtain⟨ed,ld⟩:=zcE den hb;have hg0:Nat.gcd (nv num) (nv den)≠0:=by have:=Nat.gcd_pos_of_pos_right (nv num) (Nat.pos_of_ne_zero h0);omega
 have hgl:Nat.gcd (nv num) (nv den)<=nv den:=Nat.le_of_dvd (Nat.pos_of_ne_zero h0) (Nat.gcd_dvd_right _ _);have hgd:nDigits (Nat.gcd (nv num) (nv den))<=1000:=zqam (zbZ hgl) ld;have GC:=zDe num den ha hb;have D1:=rDiv (nv num) (Nat.gcd (nv num) (nv den)) ln hgd hg0;have D2:=rDiv (nv den) (Nat.gcd (nv num) (nv den)) ld hgd hg0;rw[<- en] at D1;rw[<- ed] at D2;have f:(den.toList==[48])=false:=by rw[hz];simpa using h0
 have e1:=zpf neg (nv num) (nv den) h0;have e2:=zpg neg (nv num) (nv den) h0;have e3:=zsN neg (nv num) (nv den) h0;have s1:=zcQ (nv num/Nat.gcd (nv num) (nv den));have s2:=zcQ (nv den/Nat.gcd (nv num) (nv den))
 by_cases l1:nDigits (nv num/Nat.gcd (nv num) (nv den))<=400
 ·by_cases l2:nDigits (nv den/Nat.gcd (nv num) (nv den))<=400
  ·have hs:zcd (mkRat (sg neg (nv num)) (nv den)):=⟨by rw[e1];exact l1,by rw[e2];exact l2⟩
   have hq:(nv num/Nat.gcd (nv num) (nv den)=0)↔nv num=0:=by
    constructor
    ·intro h
     have:=Nat.div_mul_cancel (Nat.gcd_dvd_left (nv num) (nv den));rw[h] at this;omega
    intro h;rw[h];simp
   have zz:=zero_str' (nv num/Nat.gcd (nv num) (nv den))
   have zc:(neg && !decide (nv num/Nat.gcd (nv num) (nv den)=0))=decide ((mkRat (sg neg (nv num)) (nv den)).num<0):=by
    rw[Bool.eq_iff_iff,zqca,e3];simp[hq]
   rw[zAh _ hs,e1,e2,<- zc];have oo:=(zgW (nv den/Nat.gcd (nv num) (nv den))).1
   by_cases o1:nv den/Nat.gcd (nv num) (nv den)=1
   ·have:=zAg neg (!decide (nv num/Nat.gcd (nv num) (nv den)=0)) num den _ _ _ _ _ w (zHd va) (zHd vb) f (zHd GC) (zHd D1) (zHd D2) (by omega) (by omega) (by rw[zz.1,Bool.not_not]) zz.2 (by rw[oo];simpa using o1)
    rw[if_pos o1];rw[show ∀ a:ByteArray,a++⟨#[]⟩=a from fun a=>by apply ByteArray.ext;apply Array.ext';rw[zlb];simp];exact this
   have:=zxq neg (!decide (nv num/Nat.gcd (nv num) (nv den)=0)) num den _ _ _ _ _ w (zHd va) (zHd vb) f (zHd GC) (zHd D1) (zHd D2) (by omega) (by omega) (by rw[zz.1,Bool.not_not]) zz.2 (by rw[oo];simpa using o1);rw[if_neg o1,<- ByteArray.append_assoc];exact this
  have hs:¬ zcd (mkRat (sg neg (nv num)) (nv den)):=fun h=>l2 (by have:=h.2;rw[e2] at this;exact this);rw[zgU hs];exact zvm neg num den _ _ _ _ _ w (zHd va) (zHd vb) f (zHd GC) (zHd D1) (zHd D2) (by omega) (by omega)
 have hs:¬ zcd (mkRat (sg neg (nv num)) (nv den)):=fun h=>l1 (by have:=h.1;rw[e1] at this;exact this);rw[zgU hs];exact zvl neg num den _ _ _ _ _ w (zHd va) (zHd vb) f (zHd GC) (zHd D1) (zHd D2) (by omega)
def zxr (m n:Nat)(w:World)(hm:nDigits m<=400)(hn:nDigits n<=400) :
  Calls prog 110 #[.string (zal m),.string (zal n)] w (zab (.string (zal (m*n))) w):=by
 have d:=zcz hm hn;refine zvf _ _ _ w (zHd fun w=>?_);have:=zCM (zal m) (zal n) w (zbh m (by omega)) (zbh n (by omega));rw[ztg m n (by omega) (by omega) (by omega)] at this;exact this
def zAj (p q:Bool)(A B C:ByteArray)(w:World)(h:(p==q)=true)(AD:Hid (∀ w,Calls prog 137 #[.string A,.string B] w (zab (.tuple #[.string C,.int .i64 0]) w))) :
  Calls prog 109 #[.bool p,.string A,.bool q,.string B] w (zab (.tuple #[.bool p,.string C]) w):=by
 go_enter func109,ntmps109;go_wp2_with fail;refine(AD.out _).mono ?_;exact zQaT
def zAk (p q:Bool)(A B C:ByteArray)(c:Int)(w:World)(h:(p==q)=false)(hc:0<=c)(CM:Hid (∀ w,Calls prog 138 #[.string A,.string B] w (zny c w)))(SU:Hid (∀ w,Calls prog 139 #[.string A,.string B] w (zab (.tuple #[.string C,.int .i64 0]) w))) :
  Calls prog 109 #[.bool p,.string A,.bool q,.string B] w (zab (.tuple #[.bool p,.string C]) w):=by
 go_enter func109,ntmps109;go_wp2_with fail;refine(CM.out _).mono ?_;rintro e w1 ⟨rfl,hg⟩;have G1:=zHd hg;clear hg;go_wp2_with fail;refine(SU.out _).mono ?_;exact zQaK
def zAl (p q:Bool)(A B C:ByteArray)(c:Int)(w:World)(h:(p==q)=false)(hc:¬ 0<=c)(CM:Hid (∀ w,Calls prog 138 #[.string A,.string B] w (zny c w)))(SU:Hid (∀ w,Calls prog 139 #[.string B,.string A] w (zab (.tuple #[.string C,.int .i64 0]) w))) :
  Calls prog 109 #[.bool p,.string A,.bool q,.string B] w (zab (.tuple #[.bool q,.string C]) w):=by
 go_enter func109,ntmps109;go_wp2_with fail;refine(CM.out _).mono ?_;rintro e w1 ⟨rfl,hg⟩;have G1:=zHd hg;clear hg;go_wp2_with fail;refine(SU.out _).mono ?_;exact zQaK
def zga (p:Bool)(m:Nat)(q:Bool)(n:Nat):Bool×Nat:=if p==q then (p,m+n) else if m<n then (q,n-m) else (p,m-n)
def zwj (p:Bool)(m:Nat)(q:Bool)(n:Nat):sg (zga p m q n).1 (zga p m q n).2=sg p m+sg q n:=by
 unfold zga
 by_cases h:p=q
 subst h;simp only[BEq.rfl,if_true];exact zvZ p m n;rw[if_neg (by simpa using h)];split
 ·rename_i hl;exact zwa p q m n h hl
 rename_i hl;exact zwb p q m n h hl
def zvn (p:Bool)(m:Nat)(q:Bool)(n:Nat)(hm:nDigits m<=800)(hn:nDigits n<=800):nDigits (zga p m q n).2<=801:=by
 unfold zga;split;exact zig m n 800 hm hn;split
 ·have:=zbZ (Nat.sub_le n m);exact zqam this (by omega)
 have:=zbZ (Nat.sub_le m n);exact zqam this (by omega)
def ztF (p:Bool)(m:Nat)(q:Bool)(n:Nat)(w:World)(hm:nDigits m<=800)(hn:nDigits n<=800) :
  Calls prog 109 #[.bool p,.string (zal m),.bool q,.string (zal n)] w (zab (.tuple #[.bool (zga p m q n).1,.string (zal (zga p m q n).2)]) w):=by
 unfold zga;cases h:(p==q)
 ·simp only[Bool.false_eq_true,if_false]
  have cm:=fun w=>zCn (zal m) (zal n) w (zbh m (by omega)) (zbh n (by omega));rw[znA m n (by omega) (by omega)] at cm
  by_cases hl:m<n
  ·rw[if_pos hl]
   have su:=fun w=>ztb (zal n) (zal m) w (zbh n (by omega)) (zbh m (by omega));rw[znB n m (by omega) (by omega) (by omega)] at su;exact zAl p q _ _ _ _ w h (by have:=(zfH m n).2 hl;omega) (zHd cm) (zHd su)
  rw[if_neg hl];have su:=fun w=>ztb (zal m) (zal n) w (zbh m (by omega)) (zbh n (by omega));rw[znB m n (by omega) (by omega) (by omega)] at su;exact zAk p q _ _ _ _ w h (by have:=(zfH m n);omega) (zHd cm) (zHd su)
 simp only[if_true];have d:=zig m n 800 hm hn;have ad:=fun w=>zCs (zal m) (zal n) w (zbh m (by omega)) (zbh n (by omega));rw[zsX _ _ (zal (m+n)) (zbn _ (by omega)) (zbn _ (by omega)) (zbn _ (by omega)) (by rw[zbc,zbc,zbc])] at ad;exact zAj p q _ _ _ w h (zHd ad)
def zdR (a:ByteArray)(p:Bool)(A B:ByteArray)(k:Bool):Prop:=∀ w,Calls prog 108 #[.string a] w (zab (.tuple #[.bool p,.string A,.string B,.bool k]) w)
def zrQ (a:ByteArray)(p:Bool)(A B:ByteArray)(k:Bool)(w:World)(R:Hid (zdR a p A B k)) :
  Calls prog 68 #[.string a] w (zab (.bool k) w):=by
 go_enter func68,ntmps68;go_wp2_with fail;refine(R.out _).mono ?_;exact zQaI
def zAm (a b:ByteArray)(p q:Bool)(A B C D:ByteArray)(X Y c:ByteArray)(ng:Bool)(w:World)(R1:Hid (zdR a p A B true))(R2:Hid (zdR b q C D true))(T1:Hid (∀ w,Calls prog 110 #[.string A,.string D] w (zab (.string X) w)))(T2:Hid (∀ w,Calls prog 110 #[.string C,.string B] w (zab (.string Y) w)))(SM:Hid (∀ w,Calls prog 109 #[.bool p,.string X,.bool (!q),.string Y] w (zab (.tuple #[.bool ng,.string c]) w)))(f:(c.toList==[48])=true) :
  Calls prog 69 #[.string a,.string b] w (zab (.int .i64 0) w):=by
 exact zQaw
def zAn (a b:ByteArray)(p q:Bool)(A B C D:ByteArray)(X Y c:ByteArray)(ng:Bool)(w:World)(R1:Hid (zdR a p A B true))(R2:Hid (zdR b q C D true))(T1:Hid (∀ w,Calls prog 110 #[.string A,.string D] w (zab (.string X) w)))(T2:Hid (∀ w,Calls prog 110 #[.string C,.string B] w (zab (.string Y) w)))(SM:Hid (∀ w,Calls prog 109 #[.bool p,.string X,.bool (!q),.string Y] w (zab (.tuple #[.bool ng,.string c]) w)))(f:(c.toList==[48])=false) :
  Calls prog 69 #[.string a,.string b] w (zab (.int .i64 (if ng then -1 else 1)) w):=by
 cases ng
 all_goals
  exact zQaw
def zDi (a b:ByteArray)(p q:Bool)(A B C D:ByteArray)(X Y Z c S:ByteArray)(ng:Bool)(E:Int)(w:World)(R1:Hid (zdR a p A B true))(R2:Hid (zdR b q C D true))(T1:Hid (∀ w,Calls prog 110 #[.string A,.string D] w (zab (.string X) w)))(T2:Hid (∀ w,Calls prog 110 #[.string C,.string B] w (zab (.string Y) w)))(SM:Hid (∀ w,Calls prog 109 #[.bool p,.string X,.bool q,.string Y] w (zab (.tuple #[.bool ng,.string c]) w)))(T3:Hid (∀ w,Calls prog 110 #[.string B,.string D] w (zab (.string Z) w)))(MK:Hid (∀ w,Calls prog 116 #[.bool ng,.string c,.string Z] w (zab (.tuple #[.string S,.int .i64 E]) w))) :
  Calls prog 82 #[.string a,.string b] w (zab (.tuple #[.string S,.int .i64 E]) w):=by
 go_enter func82,ntmps82;go_wp2_with fail;refine(R1.out _).mono ?_;rintro e w1 ⟨rfl,hg⟩;have G1:=zHd hg;clear hg;go_wp2_with fail;refine(R2.out _).mono ?_;rintro e w2 ⟨rfl,hg⟩;have G2:=zHd (zaa G1.out hg);clear hg G1;go_wp2_with fail;refine(T1.out _).mono ?_;rintro e w3 ⟨rfl,hg⟩;have G3:=zHd (zaa G2.out hg);clear hg G2;go_wp2_with fail;refine(T2.out _).mono ?_;rintro e w4 ⟨rfl,hg⟩;have G4:=zHd (zaa G3.out hg);clear hg G3;go_wp2_with fail;refine(SM.out _).mono ?_;rintro e w5 ⟨rfl,hg⟩;have G5:=zHd (zaa G4.out hg);clear hg G4;go_wp2_with fail;refine(T3.out _).mono ?_;rintro e w6 ⟨rfl,hg⟩;have G6:=zHd (zaa G5.out hg);clear hg G5;go_wp2_with fail;refine(MK.out _).mono ?_;rintro e w7 ⟨rfl,hg⟩;have G7:=zHd (zaa G6.out hg);clear hg G6;go_wp2;go_ret2;exact⟨rfl,G7.out⟩
def zDj (a b:ByteArray)(p q:Bool)(A B C D:ByteArray)(X Y S:ByteArray)(E:Int)(w:World)(R1:Hid (zdR a p A B true))(R2:Hid (zdR b q C D true))(T1:Hid (∀ w,Calls prog 110 #[.string A,.string C] w (zab (.string X) w)))(T2:Hid (∀ w,Calls prog 110 #[.string B,.string D] w (zab (.string Y) w)))(MK:Hid (∀ w,Calls prog 116 #[.bool (p != q),.string X,.string Y] w (zab (.tuple #[.string S,.int .i64 E]) w))) :
  Calls prog 83 #[.string a,.string b] w (zab (.tuple #[.string S,.int .i64 E]) w):=by
 go_enter func83,ntmps83;exact zQaz
def zDk (a b:ByteArray)(p q:Bool)(A B C D:ByteArray)(X Y S:ByteArray)(E:Int)(w:World)(R1:Hid (zdR a p A B true))(R2:Hid (zdR b q C D true))(f:(C.toList==[48])=false)(T1:Hid (∀ w,Calls prog 110 #[.string A,.string D] w (zab (.string X) w)))(T2:Hid (∀ w,Calls prog 110 #[.string B,.string C] w (zab (.string Y) w)))(MK:Hid (∀ w,Calls prog 116 #[.bool (p != q),.string X,.string Y] w (zab (.tuple #[.string S,.int .i64 E]) w))) :
  Calls prog 88 #[.string a,.string b] w (zab (.tuple #[.string S,.int .i64 E]) w):=by
 go_enter func88,ntmps88;exact zQaz
def zDl (a:ByteArray)(p:Bool)(A B S:ByteArray)(E:Int)(w:World)(R1:Hid (zdR a p A B true))(MK:Hid (∀ w,Calls prog 116 #[.bool (!p),.string A,.string B] w (zab (.tuple #[.string S,.int .i64 E]) w))) :
  Calls prog 122 #[.string a] w (zab (.tuple #[.string S,.int .i64 E]) w):=by
 go_enter func122,ntmps122;go_wp2_with fail;refine(R1.out _).mono ?_;rintro e w1 ⟨rfl,hg⟩;have G1:=zHd hg;clear hg;go_wp2_with fail;refine(MK.out _).mono ?_;exact zQaK
def zDm (a b c S:ByteArray)(E:Int)(w:World)(NG:Hid (∀ w,Calls prog 122 #[.string b] w (zab (.tuple #[.string c,.int .i64 0]) w)))(VA:Hid (∀ w,Calls prog 68 #[.string a] w (zab (.bool true) w)))(AD:Hid (∀ w,Calls prog 82 #[.string a,.string c] w (zab (.tuple #[.string S,.int .i64 E]) w))) :
  Calls prog 87 #[.string a,.string b] w (zab (.tuple #[.string S,.int .i64 E]) w):=by
 go_enter func87,ntmps87;go_wp2_with fail;refine(NG.out _).mono ?_;rintro e w1 ⟨rfl,hg⟩;have G1:=zHd hg;clear hg;go_wp2_with fail;refine(VA.out _).mono ?_;rintro e w2 ⟨rfl,hg⟩;have G2:=zHd (zaa G1.out hg);clear hg G1;go_wp2_with fail;refine(AD.out _).mono ?_;exact zQbN
open Go.RowKit
open Go.Lib (nDigits decDigits)
def zcI {a:ByteArray}{x:Rat}(h:zaM a x):zdR a (sgn x) (zal x.num.natAbs) (zal x.den) true:=fun w=>zxk h w
def zxs {a:ByteArray}(h:zeN a)(ha:a.size<=maxLen):zdR a false ⟨#[]⟩ ⟨#[]⟩ false:=fun w=>zAa h ha w
def zpT {a:ByteArray}{x:Rat}(h:zaM a x)(w:World):Calls prog 68 #[.string a] w (zab (.bool true) w):=zrQ a _ _ _ _ w (zHd (zcI h))
def zAo {a:ByteArray}(h:zeN a)(ha:a.size<=maxLen)(w:World):Calls prog 68 #[.string a] w (zab (.bool false) w):=zrQ a _ _ _ _ w (zHd (zxs h ha))
def rtm (m n:Nat)(hm:nDigits m<=400)(hn:nDigits n<=400):Hid (∀ w,Calls prog 110 #[.string (zal m),.string (zal n)] w (zab (.string (zal (m*n))) w)):=zHd fun w=>zxr m n w hm hn
def rmk (neg:Bool)(n d:Nat)(hn:nDigits n<=1000)(hd:nDigits d<=1000)(h0:d≠0){z:Rat}(hz:mkRat (sg neg n) d=z){S:ByteArray}{E:Int}(e:zec z=.tuple #[.string S,.int .i64 E]) :
  Hid (∀ w,Calls prog 116 #[.bool neg,.string (zal n),.string (zal d)] w (zab (.tuple #[.string S,.int .i64 E]) w)):=zHd fun w=>by
 have:=zAi neg (zal n) (zal d) w (zbh _ hn) (zbh _ hd);unfold zhr at this;rw[zbn n hn,zbn d hd,zbc,zbc] at this;simp only[Bool.and_self,Bool.true_and,h0,decide_false,Bool.not_false,if_true,hz,e] at this;exact this
def zAp (x y:Rat):sg (zga (sgn x) (x.num.natAbs*y.den) (sgn y) (y.num.natAbs*x.den)).1 (zga (sgn x) (x.num.natAbs*y.den) (sgn y) (y.num.natAbs*x.den)).2=sg (sgn x) (x.num.natAbs*y.den)+sg (sgn y) (y.num.natAbs*x.den):=zwj _ _ _ _
def zAq (q:Bool)(n:Nat):sg (!q) n = - sg q n:=by cases q <;> simp[sg]
def zHe (x y:Rat):zdv x y=if (zga (sgn x) (x.num.natAbs*y.den) (!sgn y) (y.num.natAbs*x.den)).2=0 then 0 else if (zga (sgn x) (x.num.natAbs*y.den) (!sgn y) (y.num.natAbs*x.den)).1 then -1 else 1:=by
 have h:=zwj (sgn x) (x.num.natAbs*y.den) (!sgn y) (y.num.natAbs*x.den);rw[zAq,znz,znz,<- zeC,<- zeC] at h;generalize zga (sgn x) (x.num.natAbs*y.den) (!sgn y) (y.num.natAbs*x.den)=r at *;obtain⟨ng,c⟩:=r;simp only at h ⊢;unfold zdv;simp only[Rat.lt_iff];generalize x.num*(y.den:Int)=u at *;generalize y.num*(x.den:Int)=v at *;unfold sg at h;cases ng <;> simp only[Bool.false_eq_true,if_false,if_true] at h ⊢
 all_goals
  split <;> (try split) <;> (try split) <;> omega
def ztG {a b:ByteArray}{x y:Rat}(ha:zaM a x)(hb:zaM b y)(w:World):Calls prog 69 #[.string a,.string b] w (zab (.int .i64 (zdv x y)) w):=by
 have hx:=ha.short;have hy:=hb.short;have d1:=zcz hx.1 hy.2;have d2:=zcz hy.1 hx.2;have SM:=zHd fun w=>ztF (sgn x) (x.num.natAbs*y.den) (!sgn y) (y.num.natAbs*x.den) w d1 d2;have e:=zHe x y;have f:=(zero_str' (zga (sgn x) (x.num.natAbs*y.den) (!sgn y) (y.num.natAbs*x.den)).2).1
 by_cases h0:(zga (sgn x) (x.num.natAbs*y.den) (!sgn y) (y.num.natAbs*x.den)).2=0
 ·rw[if_pos h0] at e
  rw[e];exact zAm a b _ _ _ _ _ _ _ _ _ _ w (zHd (zcI ha)) (zHd (zcI hb)) (rtm _ _ hx.1 hy.2) (rtm _ _ hy.1 hx.2) SM (by rw[f];simpa using h0)
 rw[if_neg h0] at e;rw[e];exact zAn a b _ _ _ _ _ _ _ _ _ _ w (zHd (zcI ha)) (zHd (zcI hb)) (rtm _ _ hx.1 hy.2) (rtm _ _ hy.1 hx.2) SM (by rw[f];simpa using h0)
def zoF {a b:ByteArray}{x y:Rat}(ha:zaM a x)(hb:zaM b y)(w:World):Calls prog 82 #[.string a,.string b] w (zab (zec (x+y)) w):=by
 have hx:=ha.short;have hy:=hb.short;have d1:=zcz hx.1 hy.2;have d2:=zcz hy.1 hx.2;have d3:=zcz hx.2 hy.2;have d4:=zvn (sgn x) (x.num.natAbs*y.den) (sgn y) (y.num.natAbs*x.den) d1 d2;have SM:=zHd fun w=>ztF (sgn x) (x.num.natAbs*y.den) (sgn y) (y.num.natAbs*x.den) w d1 d2;obtain⟨S,E,e⟩:=zcR (x+y);have MK:=rmk (zga (sgn x) (x.num.natAbs*y.den) (sgn y) (y.num.natAbs*x.den)).1 (zga (sgn x) (x.num.natAbs*y.den) (sgn y) (y.num.natAbs*x.den)).2 (x.den*y.den) (by omega) (by omega) (zgt x y) (zgX x y _ (zAp x y)) e;rw[e];exact zDi a b _ _ _ _ _ _ _ _ _ _ _ _ _ w (zHd (zcI ha)) (zHd (zcI hb)) (rtm _ _ hx.1 hy.2) (rtm _ _ hy.1 hx.2) SM (rtm _ _ hx.2 hy.2) MK
def zDn {a b:ByteArray}{x y:Rat}(ha:zaM a x)(hb:zaM b y)(w:World):Calls prog 83 #[.string a,.string b] w (zab (zec (x*y)) w):=by
 have hx:=ha.short;have hy:=hb.short;have d1:=zcz hx.1 hy.1;have d2:=zcz hx.2 hy.2;obtain⟨S,E,e⟩:=zcR (x*y);have MK:=rmk (sgn x != sgn y) (x.num.natAbs*y.num.natAbs) (x.den*y.den) (by omega) (by omega) (zgt x y) (zmg x y) e;rw[e];exact zDj a b _ _ _ _ _ _ _ _ _ _ w (zHd (zcI ha)) (zHd (zcI hb)) (rtm _ _ hx.1 hy.1) (rtm _ _ hx.2 hy.2) MK
def zDo {a b:ByteArray}{x y:Rat}(ha:zaM a x)(hb:zaM b y)(h:y.num≠0)(w:World):Calls prog 88 #[.string a,.string b] w (zab (zec (x/y)) w):=by
 have hx:=ha.short;have hy:=hb.short;have d1:=zcz hx.1 hy.2;have d2:=zcz hx.2 hy.1;obtain⟨S,E,e⟩:=zcR (x/y);have MK:=rmk (sgn x != sgn y) (x.num.natAbs*y.den) (x.den*y.num.natAbs) (by omega) (by omega) (Nat.mul_ne_zero x.den_nz (by omega)) (zrM x y h) e;rw[e];exact zDk a b _ _ _ _ _ _ _ _ _ _ w (zHd (zcI ha)) (zHd (zcI hb)) (by rw[(zero_str' _).1];simpa using h) (rtm _ _ hx.1 hy.2) (rtm _ _ hx.2 hy.1) MK
def zDp {a:ByteArray}{x:Rat}(ha:zaM a x)(w:World):Calls prog 122 #[.string a] w (zab (.tuple #[.string (zfW (-x)),.int .i64 0]) w):=by
 have hx:=ha.short;have s1:=hx.1;have s2:=hx.2;have ez:mkRat (sg (!sgn x) x.num.natAbs) x.den = -x:=by rw[zAq,<- zeC,<- Rat.neg_mkRat,Rat.mkRat_self]
 exact zDl a _ _ _ _ _ w (zHd (zcI ha)) (rmk (!sgn x) x.num.natAbs x.den (by omega) (by omega) x.den_nz ez (zjf (zrN hx)))
def zHf {a:ByteArray}{x:Rat}(ha:zaM a x):zaM (zfW (-x)) (-x):=⟨zrN ha.short,rfl⟩
def zDq {a b:ByteArray}{x y:Rat}(ha:zaM a x)(hb:zaM b y)(w:World):Calls prog 87 #[.string a,.string b] w (zab (zec (x-y)) w):=by
 rw[Rat.sub_eq_add_neg];obtain⟨S,E,e⟩:=zcR (x + -y);have AD:=fun w=>zoF ha (zHf hb) w;rw[e] at AD ⊢;exact zDm a b _ _ _ w (zHd fun w=>zDp hb w) (zHd fun w=>zpT ha w) (zHd AD)
open Go.RowKit
open Go.Lib (nDigits decDigits)
structure Kind (k:Int)(z o:ByteArray)(V W:Nat)(p t s ov b:Value):Prop where
 f:∀ w,Calls prog 66 #[.int .i64 k] w (zab (.agg #[.string z,.string o,.func (.func V) #[] #[],.func (.func W) #[] #[],p,t,s,ov,b]) w)
 ev:Enters V
 ew:Enters W
 one:(p.oneCell'&&t.oneCell'&&s.oneCell'&&ov.oneCell'&&b.oneCell')=true
def zlo (v:Value):Prop:=∀ (a:Addr) (m:Mode) (w:World),(store a v m).run prog w=stored prog w a v m
def zkJ {v:Value}(h:v.oneCell'=true):zlo v:=fun a m w=>run_store _ w a v m h
def zoG {p t s ov b:Value}(h:(p.oneCell'&&t.oneCell'&&s.oneCell'&&ov.oneCell'&&b.oneCell')=true):zlo p/\zlo t/\zlo s/\zlo ov/\zlo b:=by
 simp only[zqbb] at h;exact⟨zkJ h.1.1.1.1,zkJ h.1.1.1.2,zkJ h.1.1.2,zkJ h.1.2,zkJ h.2⟩
def nine {w:World}{g:Nat}{z o v x p t s ov b:Value}(h:w.heap[g]?=some (.cells #[z,o,v,x,p,t,s,ov,b] 101 (0,0))) :
  w.cell? ⟨g,0,none⟩=some z/\w.cell? ⟨g,1,none⟩=some o/\w.cell? ⟨g,2,none⟩=some v/\w.cell? ⟨g,3,none⟩=some x/\w.cell? ⟨g,4,none⟩=some p/\w.cell? ⟨g,5,none⟩=some t/\w.cell? ⟨g,6,none⟩=some s/\w.cell? ⟨g,7,none⟩=some ov/\w.cell? ⟨g,8,none⟩=some b :=
 ⟨by rw[zqbw w g 0 _ _ (0,0) h];rfl,by rw[zqbw w g 1 _ _ (0,0) h];rfl,by rw[zqbw w g 2 _ _ (0,0) h];rfl,by rw[zqbw w g 3 _ _ (0,0) h];rfl,by rw[zqbw w g 4 _ _ (0,0) h];rfl,by rw[zqbw w g 5 _ _ (0,0) h];rfl,by rw[zqbw w g 6 _ _ (0,0) h];rfl,by rw[zqbw w g 7 _ _ (0,0) h];rfl,by rw[zqbw w g 8 _ _ (0,0) h];rfl⟩
@[go_sem] theorem field_z (z o v x p t s ov b:Value) (w:World):(Instr.field 101 (.agg #[z,o,v,x,p,t,s,ov,b]) 0).run prog w=.ok z w:=by kernel_rfl
@[go_sem] theorem field_o (z o v x p t s ov b:Value) (w:World):(Instr.field 101 (.agg #[z,o,v,x,p,t,s,ov,b]) 1).run prog w=.ok o w:=by kernel_rfl
@[go_sem] theorem field_v (z o v x p t s ov b:Value) (w:World):(Instr.field 101 (.agg #[z,o,v,x,p,t,s,ov,b]) 2).run prog w=.ok v w:=by kernel_rfl
@[go_sem] theorem field_x (z o v x p t s ov b:Value) (w:World):(Instr.field 101 (.agg #[z,o,v,x,p,t,s,ov,b]) 3).run prog w=.ok x w:=by kernel_rfl
def zmv {k:Int}{z o:ByteArray}{V W:Nat}{p t s ov b:Value}(K:Hid (Kind k z o V W p t s ov b))(a:ByteArray)(x:Bool)(w:World)(X:Hid (zdQ W a x)) :
  Calls prog 42 #[.int .i64 k,.string a] w (zab (.bool x) w):=by
 have HE:=zHd K.out.ew;go_enter func42,ntmps42;obtain⟨u1,u2,u3,u4,u5⟩:=zoG K.out.one;unfold zlo at u1 u2 u3 u4 u5;go_wp2_with fail;refine(K.out.f _).mono ?_;rintro e w1 ⟨rfl,hg⟩;have G1:=zHd hg;clear hg;go_wp2_with fail;rw[HE.out];exact zQbD
def zAr {k:Int}{z o:ByteArray}{V W:Nat}{p t s ov b:Value}(K:Hid (Kind k z o V W p t s ov b))(w:World):Calls prog 67 #[.int .i64 k] w (zab (.string o) w):=by
 go_enter func67,ntmps67;obtain⟨u1,u2,u3,u4,u5⟩:=zoG K.out.one;unfold zlo at u1 u2 u3 u4 u5;go_wp2_with fail;refine(K.out.f _).mono ?_;exact zQaI
def zmw {k:Int}{z o:ByteArray}{V W F:Nat}{p s ov b:Value}(K:Hid (Kind k z o V W p (.func (.func F) #[] #[]) s ov b))(EF:Hid (Enters F))(a c:ByteArray)(S:ByteArray)(E:Int)(w:World)(X:Hid (zdQ V a true))(Y:Hid (zdQ V c true))(C:Hid (ztD F a c (.tuple #[.string S,.int .i64 E]))) :
  Calls prog 60 #[.int .i64 k,.string a,.string c] w (zab (.tuple #[.string S,.int .i64 E]) w):=by
 have HE:=zHd K.out.ev;go_enter func60,ntmps60;obtain⟨u1,u2,u3,u4,u5⟩:=zoG K.out.one;unfold zlo at u1 u2 u3 u4 u5;go_wp2_with fail;refine(K.out.f _).mono ?_;rintro e w1 ⟨rfl,hg⟩;have G1:=zHd hg;clear hg;go_wp2_with fail;rw[HE.out];refine(X.out _).mono ?_;rintro e w2 ⟨rfl,hg⟩;have HB:=zHd (alloc_old hg);have hc:=nine HB.out;have G2:=zHd (zaa G1.out (zaa (zGA _ _ none) hg));clear hg;go_wp2_with fail;rw[HE.out];refine(Y.out _).mono ?_;rintro e w3 ⟨rfl,hg⟩;have hb:=(hg.block _ (lt_of_block HB.out) (by simp)).trans HB.out;clear HB hc;have HB:=zHd hb;have hc:=nine HB.out;have G3:=zHd (zaa G2.out hg);clear hg hb;clear HB;go_wp2_with fail;rw[EF.out];refine(C.out _).mono ?_;rintro e w4 ⟨rfl,hg⟩;have G4:=zHd (zaa G3.out hg);clear hg hc;go_wp2;go_ret2;exact⟨rfl,G4.out⟩
open Go.RowKit
open Go.Lib (nDigits decDigits)
def zoc:Enters 91:=enters_of func91 (by kernel_rfl) rfl
def zpU:Enters 92:=enters_of func92 (by kernel_rfl) rfl
def ztH:Enters 93:=enters_of func93 (by kernel_rfl) rfl
def zlM:Enters 99:=enters_of func99 (by kernel_rfl) rfl
def zkg:Enters 100:=enters_of func100 (by kernel_rfl) rfl
def ztI:Enters 95:=enters_of func95 (by kernel_rfl) rfl
def enters_product':Enters 102:=enters_of func102 (by kernel_rfl) rfl
def ztJ:Kind 1 zcU zcD 92 93 (fnV 94) (fnV 95) (fnV 96) (fnV 97) (fnV 98) :=
 ⟨fun w=>zpO 1 w,zpU,ztH,rfl⟩
def ztK:Kind 2 zcD zle 99 100 (fnV 101) (fnV 102) (fnV 103) (fnV 104) (fnV 105) :=
 ⟨fun w=>zpO 2 w,zlM,zkg,rfl⟩
def zpV:Kind 3 zcD zle 99 100 (fnV 106) (fnV 102) (fnV 107) (fnV 104) (fnV 105) :=
 ⟨fun w=>zpO 3 w,zlM,zkg,rfl⟩
def zAs {k:Int}(h1:k≠1)(h2:k≠2)(h3:k≠3):Kind k ⟨#[]⟩ ⟨#[]⟩ 91 91 .nilFunc .nilFunc .nilFunc .nilFunc .nilFunc :=
 ⟨fun w=>by
  have h:=zpO k w;unfold zxl zaK at h;rw[if_neg h1,if_neg h2,if_neg h3] at h;exact h,zoc,zoc,rfl⟩
def zaV (k:Int):ByteArray:=if k=1 then zcU else if k=2∨k=3 then zcD else ⟨#[]⟩
def zak (k:Int):ByteArray:=if k=1 then zcD else if k=2∨k=3 then zle else ⟨#[]⟩
structure zmx (k:Int)(V W:Nat):Prop where
 vy:∀ a v,Val k a v->zdQ V a true
 vn:∀ a,a.size<=maxLen->zwZ k a->zdQ V a false
 wy:∀ a v,Wgt k a v->zdQ W a true
 wn:∀ a,a.size<=maxLen->zsA k a->zdQ W a false
def ztL:zmx 1 92 93:=by
 refine⟨fun a v h=>ztC h.e,fun a ha h=>zvj (fun v k=>?_) ha,fun a v h=>?_,fun a ha h=>?_⟩;have:=h v k;rw[znE] at this;cases this;have:=zpS h.e;rw[h.has] at this;exact this;rcases zpQ a with⟨v,hv⟩|hn
 ·have:=zpS hv;rw[h v hv] at this;exact this
 exact fun w=>zih hn.rat ha w
def zjD:zmx 2 99 100:=by
 refine⟨fun a v h=>?_,fun a ha h=>?_,fun a v h=>?_,fun a ha h=>?_⟩;have:=zpR h.e;rw[h.has] at this;exact this
 ·rcases zpQ a with⟨v,hv⟩|hn
  ·have:=zpR hv;rw[h v hv] at this;exact this
  exact zAd hn ha
 have:=zmt h.e;rw[h.has] at this;exact this;rcases zpQ a with⟨v,hv⟩|hn
 ·have:=zmt hv;rw[h v hv] at this;exact this
 exact zvk hn ha
def zoH:zmx 3 99 100 :=
 ⟨fun a v h=>zjD.vy a v ⟨h.e,by rw[zdi];exact h.has⟩,fun a ha h=>zjD.vn a ha (fun v hv=>by rw[zdi];exact h v hv),
  fun a v h=>zjD.wy a v ⟨h.e,by rw[zwf];exact h.has⟩,fun a ha h=>zjD.wn a ha (fun v hv=>by rw[zwf];exact h v hv)⟩
def zFS {k:Int}(h1:k≠1)(h2:k≠2)(h3:k≠3):zmx k 91 91 :=
 ⟨fun a v h=>absurd h.has (by rw[zqO h1 h2 h3];simp),fun a _ _=>ztB a,fun a v h=>absurd h.val.has (by rw[zqO h1 h2 h3];simp),fun a _ _=>ztB a⟩
def zoI (k:Int):∃ V W p t s ov b,Kind k (zaV k) (zak k) V W p t s ov b/\zmx k V W:=by
 unfold zaV zak
 by_cases h1:k=1
 subst h1;exact⟨_,_,_,_,_,_,_,ztJ,ztL⟩
 by_cases h2:k=2
 subst h2;exact⟨_,_,_,_,_,_,_,ztK,zjD⟩
 by_cases h3:k=3
 subst h3;exact⟨_,_,_,_,_,_,_,zpV,zoH⟩;simp only[h1,h2,h3,if_false,or_self];exact⟨_,_,_,_,_,_,_,zAs h1 h2 h3,zFS h1 h2 h3⟩
def VB (F:Nat)(k:Int)(a:ByteArray)(x:Bool):Prop:=∀ w,Calls prog F #[.int .i64 k,.string a] w (zab (.bool x) w)
def zod {k:Int}{a:ByteArray}{v:Ext}(h:Wgt k a v):VB 42 k a true:=fun w=>by
 obtain⟨V,W,p,t,s,ov,b,K,I⟩:=zoI k;exact zmv (zHd K) a true w (zHd (I.wy a v h))
def zpW {k:Int}{a:ByteArray}(h:zsA k a)(ha:a.size<=maxLen):VB 42 k a false:=fun w=>by
 obtain⟨V,W,p,t,s,ov,b,K,I⟩:=zoI k;exact zmv (zHd K) a false w (zHd (I.wn a ha h))
def zDr (k:Int)(w:World):Calls prog 67 #[.int .i64 k] w (zab (.string (zak k)) w):=by
 obtain⟨V,W,p,t,s,ov,b,K,I⟩:=zoI k;exact zAr (zHd K) w
def SOp (F:Nat)(k:Int)(a b:ByteArray)(V:Value):Prop:=∀ w,Calls prog F #[.int .i64 k,.string a,.string b] w (zab V w)
def zAt (v:Ext):∃ S E,zdm v=.tuple #[.string S,.int .i64 E]:=by
 rcases v with(_|_)|x;exact⟨_,_,rfl⟩;exact⟨_,_,rfl⟩;exact zcR x
def zAu {a b:ByteArray}{u v:Ext}(ha:IsE a u)(hb:IsE b v):ztD 95 a b (zdm (zcL u v)):=fun w=>by
 have i:=zcT ha;have j:=zcT hb;have m:=zfk ha;have n:=zfk hb;rcases u with(_|_)|x <;> rcases v with(_|_)|y
 exact zmu a b _ _ w i j m n rfl;exact ziw a b _ _ w i j rfl;exact zmu a b _ _ w i j m n rfl;exact ziw a b _ _ w i j rfl;exact ziw a b _ _ w i j rfl;exact ziw a b _ _ w i j rfl;exact zmu a b _ _ w i j m n rfl;exact ziw a b _ _ w i j rfl;obtain⟨S,E,e⟩:=zcR (x+y);have C:=fun w=>zFD ha hb w;show Calls _ _ _ w (zab (zec (x+y)) w);rw[e] at C ⊢;exact zAe a b S E w i j m n (zHd C)
def zeroV:zdm (.inr 0)=okV zcD:=zjq zld
def zft (v:Ext):isNil v=true↔v=.inr 0:=by
 rcases v with(_|_)|x;exact⟨fun h=>(by cases h),fun h=>(by cases h)⟩;exact⟨fun h=>(by cases h),fun h=>(by cases h)⟩;exact⟨fun h=>by rw[of_decide_eq_true h],fun h=>decide_eq_true (Sum.inr.inj h)⟩
def ztM {a b:ByteArray}{u v:Ext}(ha:IsE a u)(hb:IsE b v)(hu:zaD 2 u=true)(hv:zaD 2 v=true):ztD 102 a b (zdm (zaX u v)):=fun w=>by
 have i:=zcT ha;have j:=zcT hb;have m:=zjC ha;have n:=zjC hb;unfold zaX
 by_cases h:u=.inr 0∨v=.inr 0
 ·rw[if_pos h,zeroV]
  refine zAf a b _ _ w m n ?_;rw[Bool.or_eq_true,zft,zft];exact h
 rw[if_neg h];have hm:isNil u=false:=by rw[<- Bool.not_eq_true,zft];exact fun k=>h (.inl k)
 have hn:isNil v=false:=by rw[<- Bool.not_eq_true,zft];exact fun k=>h (.inr k)
 rw[hm] at m;rw[hn] at n;rcases u with(_|_)|x
 cases hu;exact ztE a b _ _ w m n i j rfl;rcases v with(_|_)|y;cases hv;exact ztE a b _ _ w m n i j rfl;obtain⟨S,E,e⟩:=zcR (x*y);have C:=fun w=>zFE ha hb w;show Calls _ _ _ w (zab (zec (x*y)) w);rw[e] at C ⊢;exact zDh a b S E w m n i j (zHd C)
def zxt {k:Int}{a b:ByteArray}{u v:Ext}(ha:Val k a u)(hb:Val k b v):SOp 60 k a b (zdm (zbP k u v)):=fun w=>by
 obtain⟨S,E,e⟩:=zAt (zbP k u v);rw[e];rcases ha.kind with rfl|rfl|rfl
 ·have C:=zAu ha.e hb.e
  rw[show zcL u v=zbP 1 u v from rfl,e] at C;exact zmw (zHd ztJ) (zHd ztI) a b S E w (zHd (ztL.vy a u ha)) (zHd (ztL.vy b v hb)) (zHd C)
 ·have C:=ztM ha.e hb.e ha.has hb.has
  rw[show zaX u v=zbP 2 u v from rfl,e] at C;exact zmw (zHd ztK) (zHd enters_product') a b S E w (zHd (zjD.vy a u ha)) (zHd (zjD.vy b v hb)) (zHd C)
 have C:=ztM ha.e hb.e (by rw[zdi];exact ha.has) (by rw[zdi];exact hb.has);rw[show zaX u v=zbP 3 u v from rfl,e] at C;exact zmw (zHd zpV) (zHd enters_product') a b S E w (zHd (zoH.vy a u ha)) (zHd (zoH.vy b v hb)) (zHd C)
def zDs (F:Nat)(k:Int)(a:ByteArray)(V:Value):Prop:=∀ w,Calls prog F #[.int .i64 k,.string a] w (zab V w)
def oneV:zdm (.inr 1)=okV zle:=zjq zoz
def zDt {k:Int}(h:k=1∨k=2∨k=3):IsE (zaV k) (zkc k):=by
 rcases h with rfl|rfl|rfl;exact topE;exact zpG;exact zpG
def zrl {k:Int}(h:k=1∨k=2∨k=3):IsE (zak k) (ziu k):=by
 rcases h with rfl|rfl|rfl;exact zpG;exact zoz;exact zoz
open Go.RowKit
open Go.Lib (nDigits decDigits)
def RK (k:Int)(x:Bool):Prop:=∀ w,Calls prog 15 #[.int .i64 k] w fun e w'=>e=.returned (.bool x)/\w=w'
def zHg (k:Int)(h1:1<=k)(h2:k<=3):RK k true:=fun w=>by
 go_enter func15,ntmps15;exact zQaJ
def zHh (k:Int)(h1:¬ 1<=k):RK k false:=fun w=>by
 go_enter func15,ntmps15;exact zQaJ
def zFT (k:Int)(h1:1<=k)(h2:¬ k<=3):RK k false:=fun w=>by
 go_enter func15,ntmps15;exact zQaJ
def zhe {k:Int}(h:k=1∨k=2∨k=3):RK k true:=zHg k (by omega) (by omega)
def zkK {k:Int}(h:¬ (k=1∨k=2∨k=3)):RK k false:=by
 by_cases h1:1<=k
 exact zFT k h1 (by omega);exact zHh k h1
def zpX (k:Int):((k==1)=true/\(k != 1)=false/\k=1)∨((k==1)=false/\(k != 1)=true/\k≠1):=by
 by_cases h:k=1
 subst h;exact .inl ⟨rfl,rfl,rfl⟩;exact .inr ⟨by simpa using h,by simpa using h,h⟩
def zxu (a:ByteArray)(x:Bool):Prop:=∀ w,Calls prog 68 #[.string a] w (zab (.bool x) w)
def zDu (a b:ByteArray)(c:Int):Prop:=∀ w,Calls prog 69 #[.string a,.string b] w (zab (.int .i64 c) w)
def zFU (k:Int)(a:ByteArray)(K:Hid (RK k false))(w:World):Calls prog 48 #[.int .i64 k,.string a] w (zab (.bool false) w):=by
 go_enter func48,ntmps48;exact zQar
def zHi (k:Int)(a:ByteArray)(K:Hid (RK k true))(f1:(a.toList==[105,110,102])=true)(w:World):Calls prog 48 #[.int .i64 k,.string a] w (zab (.bool true) w):=by
 go_enter func48,ntmps48;exact zQar
def zHj (k:Int)(a:ByteArray)(x:Bool)(K:Hid (RK k true))(f1:(a.toList==[105,110,102])=false)(f2:(a.toList==[45,105,110,102])=true)(k1:(k==1)=x)(w:World):Calls prog 48 #[.int .i64 k,.string a] w (zab (.bool x) w):=by
 go_enter func48,ntmps48;exact zQar
def zHk (k:Int)(a:ByteArray)(K:Hid (RK k true))(f1:(a.toList==[105,110,102])=false)(f2:(a.toList==[45,105,110,102])=false)(V:Hid (zxu a false))(w:World):Calls prog 48 #[.int .i64 k,.string a] w (zab (.bool false) w):=by
 go_enter func48,ntmps48;go_wp2_with fail;refine(K.out _).mono ?_;rintro e w' ⟨rfl,rfl⟩;exact zQao
def zFV (k:Int)(a:ByteArray)(K:Hid (RK k true))(f1:(a.toList==[105,110,102])=false)(f2:(a.toList==[45,105,110,102])=false)(V:Hid (zxu a true))(k1:(k==1)=true)(w:World):Calls prog 48 #[.int .i64 k,.string a] w (zab (.bool true) w):=by
 go_enter func48,ntmps48;go_wp2_with fail;refine(K.out _).mono ?_;rintro e w' ⟨rfl,rfl⟩;exact zQao
def zHl (k:Int)(a:ByteArray)(c:Int)(K:Hid (RK k true))(f1:(a.toList==[105,110,102])=false)(f2:(a.toList==[45,105,110,102])=false)(V:Hid (zxu a true))(k1:(k==1)=false)(C:Hid (zDu a ⟨#[48]⟩ c))(w:World):Calls prog 48 #[.int .i64 k,.string a] w (zab (.bool (decide (0<=c))) w):=by
 go_enter func48,ntmps48;go_wp2_with fail;refine(K.out _).mono ?_;rintro e w' ⟨rfl,rfl⟩;go_wp2_with fail;refine(V.out _).mono ?_;rintro e w1 ⟨rfl,hg⟩;have G1:=zHd (hg);clear hg;go_wp2_with fail;refine(C.out _).mono ?_;rintro e w2 ⟨rfl,hg⟩;have G2:=zHd (zaa G1.out hg);clear hg G1;go_wp2;go_ret;exact⟨rfl,G2.out⟩
def zxv {a:ByteArray}(h:zij a):(a.toList==[105,110,102])=false:=by rw[<- zlk,zeY];exact zqcb (fun e=>h (.inl true) e)
def zxw {a:ByteArray}(h:zij a):(a.toList==[45,105,110,102])=false:=by rw[<- zoD,zeY];exact zqcb (fun e=>h (.inl false) e)
def zwk (k:Int)(hk:k=1∨k=2∨k=3)(x:Rat):zaD k (.inr x)=(decide (k=1) || decide (0<=x)):=by
 rcases hk with rfl|rfl|rfl <;> simp[zaD]
def zAv {k:Int}(hk:k=1∨k=2∨k=3){a:ByteArray}{v:Ext}(h:IsE a v):VB 48 k a (zaD k v):=fun w=>by
 have K:=zHd (zhe hk);have i:=zcT h;have j:=zfk h;rcases v with(_|_)|x
 ·refine zHj k a _ K i j ?_ w
  show(k==1)=decide (k=1);rw[Bool.eq_iff_iff,beq_iff_eq,zqca]
 ·have:=zHi k a K i w
  rw[show zaD k (.inl true)=true by rcases hk with rfl|rfl|rfl <;> rfl];exact this
 have V:=zHd (show zxu a true from fun w=>zpT h w);rw[zwk k hk];rcases zpX k with⟨k1,_,k2⟩|⟨k1,_,k2⟩
 ·rw[decide_eq_true k2]
  exact zFV k a K i j V k1 w
 rw[zqcb k2,Bool.false_or];have C:=zHd (show zDu a ⟨#[48]⟩ (zdv x 0) from fun w=>ztG h zld w);have z:0<=zdv x 0↔0<=x:=by rw[<- Rat.not_lt,<- zhV];omega
 rw[<- decide_eq_decide.2 z];exact zHl k a _ K i j V k1 C w
def zfl {k:Int}{a:ByteArray}{v:Ext}(h:Val k a v):VB 48 k a true:=by
 have:=zAv h.kind h.e;rw[h.has] at this;exact this
def zEV {k:Int}{a:ByteArray}(h:zwZ k a)(ha:a.size<=maxLen):VB 48 k a false:=by
 by_cases hk:k=1∨k=2∨k=3
 ·rcases zpQ a with⟨v,hv⟩|hn
  ·have:=zAv hk hv
   rw[h v hv] at this;exact this
  exact fun w=>zHk k a (zHd (zhe hk)) (zxv hn) (zxw hn) (zHd fun w=>zAo hn.rat ha w) w
 exact fun w=>zFU k a (zHd (zkK hk)) w
def zHm (k:Int)(a:ByteArray)(V:Hid (VB 48 k a false))(w:World):Calls prog 17 #[.int .i64 k,.string a] w (zab (.bool false) w):=by
 go_enter func17,ntmps17;exact zQao
def zHn (k:Int)(a:ByteArray)(V:Hid (VB 48 k a true))(f:(a.toList==[105,110,102])=true)(fn:(a.toList != [105,110,102])=false)(w:World):Calls prog 17 #[.int .i64 k,.string a] w (zab (.bool false) w):=by
 go_enter func17,ntmps17;exact zQao
def zHo (k:Int)(a:ByteArray)(V:Hid (VB 48 k a true))(f:(a.toList==[105,110,102])=false)(fn:(a.toList != [105,110,102])=true)(g:(a.toList==[45,105,110,102])=true)(gn:(a.toList != [45,105,110,102])=false)(w:World):Calls prog 17 #[.int .i64 k,.string a] w (zab (.bool false) w):=by
 go_enter func17,ntmps17;exact zQao
def zFW (k:Int)(a:ByteArray)(V:Hid (VB 48 k a true))(f:(a.toList==[105,110,102])=false)(fn:(a.toList != [105,110,102])=true)(g:(a.toList==[45,105,110,102])=false)(gn:(a.toList != [45,105,110,102])=true)(k1:(k==1)=true)(w:World):Calls prog 17 #[.int .i64 k,.string a] w (zab (.bool true) w):=by
 go_enter func17,ntmps17;exact zQao
def zFX (k:Int)(a:ByteArray)(V:Hid (VB 48 k a true))(f:(a.toList==[105,110,102])=false)(fn:(a.toList != [105,110,102])=true)(g:(a.toList==[45,105,110,102])=false)(gn:(a.toList != [45,105,110,102])=true)(k1:(k==1)=false)(z:(a.toList==[48])=true)(zn:(a.toList != [48])=false)(w:World):Calls prog 17 #[.int .i64 k,.string a] w (zab (.bool false) w):=by
 go_enter func17,ntmps17;exact zQao
def zHp (k:Int)(a:ByteArray)(V:Hid (VB 48 k a true))(f:(a.toList==[105,110,102])=false)(fn:(a.toList != [105,110,102])=true)(g:(a.toList==[45,105,110,102])=false)(gn:(a.toList != [45,105,110,102])=true)(k1:(k==1)=false)(z:(a.toList==[48])=false)(zn:(a.toList != [48])=true)(w:World):Calls prog 17 #[.int .i64 k,.string a] w (zab (.bool true) w):=by
 go_enter func17,ntmps17;exact zQao
def zmy {l m:List UInt8}(h:(l==m)=true):(l != m)=false:=by rw[bne,h];rfl
def zgI {l m:List UInt8}(h:(l==m)=false):(l != m)=true:=by rw[bne,h];rfl
def zxx {k:Int}(hk:k=1∨k=2∨k=3){x:Rat}(h:zaD k (.inr x)=true):zcs k (.inr x)=(decide (k=1) || !decide (x=0)):=by
 rw[zwk k hk] at h;have:zcs k (.inr x)=(decide (k=1) || decide (0<x)):=by rcases hk with rfl|rfl|rfl <;> simp[zcs]
 rw[this]
 by_cases k1:k=1
 rw[decide_eq_true k1];rfl;rw[zqcb k1,Bool.false_or] at *;have h0:=of_decide_eq_true h
 by_cases hx:x=0
 subst hx;rfl;rw[decide_eq_true (Rat.lt_of_le_of_ne h0 (Ne.symm hx)),zqcb hx];rfl
def zAw {k:Int}{a:ByteArray}{v:Ext}(h:Val k a v):VB 17 k a (zcs k v):=fun w=>by
 have V:=zHd (zfl h);have i:=zcT h.e;have j:=zfk h.e;have z:=zjC h.e;have hk:=h.kind;rcases v with(_|_)|x
 exact zHo k a V i (zgI i) j (zmy j) w;exact zHn k a V i (zmy i) w;rw[zxx hk h.has];rcases zpX k with⟨k1,_,k2⟩|⟨k1,_,k2⟩
 ·rw[decide_eq_true k2]
  exact zFW k a V i (zgI i) j (zgI j) k1 w
 rw[zqcb k2,Bool.false_or];have z:(a.toList==[48])=decide (x=0):=z
 by_cases hx:x=0
 ·rw[decide_eq_true hx] at z ⊢
  exact zFX k a V i (zgI i) j (zgI j) k1 z (zmy z) w
 rw[zqcb hx] at z ⊢;exact zHp k a V i (zgI i) j (zgI j) k1 z (zgI z) w
def zHq {k:Int}{a:ByteArray}{v:Ext}(h:Wgt k a v):VB 17 k a true:=by
 have:=zAw h.val;rw[h.has] at this;exact this
def zHQ {k:Int}{a:ByteArray}(h:zsA k a)(ha:a.size<=maxLen):VB 17 k a false:=by
 rcases zzH k a with⟨v,hv⟩|hn
 ·have:=zAw hv
  rw[h v hv.e] at this;exact this
 exact fun w=>zHm k a (zHd (zEV hn ha)) w
def zxy (k:Int)(K:Hid (RK k false))(w:World):Calls prog 19 #[.int .i64 k] w (zab (.string ⟨#[]⟩) w):=by
 go_enter func19,ntmps19;exact zQar
def zxz (k:Int)(K:Hid (RK k true))(k1:(k==1)=true)(w:World):Calls prog 19 #[.int .i64 k] w (zab (.string zcU) w):=by
 go_enter func19,ntmps19;exact zQar
def zvo (k:Int)(K:Hid (RK k true))(k1:(k==1)=false)(w:World):Calls prog 19 #[.int .i64 k] w (zab (.string zcD) w):=by
 go_enter func19,ntmps19;exact zQar
def zbj (k:Int)(w:World):Calls prog 19 #[.int .i64 k] w (zab (.string (zaV k)) w):=by
 unfold zaV
 by_cases hk:k=1∨k=2∨k=3
 ·rcases zpX k with⟨k1,_,k2⟩|⟨k1,_,k2⟩
  ·rw[if_pos k2];exact zxz k (zHd (zhe hk)) k1 w
  rw[if_neg k2,if_pos (by rcases hk with h|h;exact absurd h k2;exact h)];exact zvo k (zHd (zhe hk)) k1 w
 rw[if_neg (fun h=>hk (.inl h)),if_neg (fun h=>hk (.inr h))];exact zxy k (zHd (zkK hk)) w
def zAx (k:Int)(K:Hid (RK k false))(w:World):Calls prog 23 #[.int .i64 k] w (zab (.string ⟨#[]⟩) w):=by
 go_enter func23,ntmps23;exact zQar
def zAy (k:Int)(K:Hid (RK k true))(k1:(k==1)=true)(w:World):Calls prog 23 #[.int .i64 k] w (zab (.string zcD) w):=by
 go_enter func23,ntmps23;exact zQar
def zxA (k:Int)(K:Hid (RK k true))(k1:(k==1)=false)(w:World):Calls prog 23 #[.int .i64 k] w (zab (.string zle) w):=by
 go_enter func23,ntmps23;exact zQar
def zfz (k:Int)(w:World):Calls prog 23 #[.int .i64 k] w (zab (.string (zak k)) w):=by
 unfold zak
 by_cases hk:k=1∨k=2∨k=3
 ·rcases zpX k with⟨k1,_,k2⟩|⟨k1,_,k2⟩
  ·rw[if_pos k2];exact zAy k (zHd (zhe hk)) k1 w
  rw[if_neg k2,if_pos (by rcases hk with h|h;exact absurd h k2;exact h)];exact zxA k (zHd (zhe hk)) k1 w
 rw[if_neg (fun h=>hk (.inl h)),if_neg (fun h=>hk (.inr h))];exact zAx k (zHd (zkK hk)) w
def zFY (a b:ByteArray)(e1:(a.toList==b.toList)=true)(w:World):Calls prog 86 #[.string a,.string b] w (zab (.int .i64 0) w):=by
 go_enter func86,ntmps86;exact zQaR
def zAz (a b:ByteArray)(e1:(a.toList==b.toList)=false)(f:(a.toList==[45,105,110,102])=true)(w:World):Calls prog 86 #[.string a,.string b] w (zab (.int .i64 (-1)) w):=by
 go_enter func86,ntmps86;exact zQaR
def zDv (a b:ByteArray)(e1:(a.toList==b.toList)=false)(f:(a.toList==[45,105,110,102])=false)(g:(b.toList==[105,110,102])=true)(w:World):Calls prog 86 #[.string a,.string b] w (zab (.int .i64 (-1)) w):=by
 go_enter func86,ntmps86;exact zQaR
def zAA (a b:ByteArray)(e1:(a.toList==b.toList)=false)(f:(a.toList==[45,105,110,102])=false)(g:(b.toList==[105,110,102])=false)(h:(a.toList==[105,110,102])=true)(w:World):Calls prog 86 #[.string a,.string b] w (zab (.int .i64 1) w):=by
 go_enter func86,ntmps86;exact zQaR
def zDw (a b:ByteArray)(e1:(a.toList==b.toList)=false)(f:(a.toList==[45,105,110,102])=false)(g:(b.toList==[105,110,102])=false)(h:(a.toList==[105,110,102])=false)(i:(b.toList==[45,105,110,102])=true)(w:World):Calls prog 86 #[.string a,.string b] w (zab (.int .i64 1) w):=by
 go_enter func86,ntmps86;exact zQaR
def zHr (a b:ByteArray)(c:Int)(e1:(a.toList==b.toList)=false)(f:(a.toList==[45,105,110,102])=false)(g:(b.toList==[105,110,102])=false)(h:(a.toList==[105,110,102])=false)(i:(b.toList==[45,105,110,102])=false)(C:Hid (zDu a b c))(w:World):Calls prog 86 #[.string a,.string b] w (zab (.int .i64 c) w):=by
 go_enter func86,ntmps86;go_wp2_with fail;refine(C.out _).mono ?_;rintro e w1 ⟨rfl,hg⟩;have G1:=zHd (hg);clear hg;go_wp2;go_ret;exact⟨rfl,G1.out⟩
def zlp (a b:ByteArray)(c:Int):Prop:=∀ w,Calls prog 86 #[.string a,.string b] w (zab (.int .i64 c) w)
def zmz {a b:ByteArray}{u v:Ext}(ha:IsE a u)(hb:IsE b v):zlp a b (zcr u v):=fun w=>by
 have e1:(a.toList==b.toList)=decide (u=v):=by rw[zeY];exact zpP ha hb
 by_cases h:u=v
 ·rw[decide_eq_true h] at e1
  rw[(zfZ u v).2 h];exact zFY a b e1 w
 rw[zqcb h] at e1;have i:=zcT ha;have j:=zfk ha;have m:=zcT hb;have n:=zfk hb;rcases u with(_|_)|x <;> rcases v with(_|_)|y
 exact absurd rfl h;exact zAz a b e1 j w;exact zAz a b e1 j w;exact zAA a b e1 j m i w;exact absurd rfl h;exact zAA a b e1 j m i w;exact zDw a b e1 j m i n w;exact zDv a b e1 j m w;exact zHr a b _ e1 j m i n (zHd fun w=>ztG ha hb w) w
def zFZ (k:Int)(a b:ByteArray)(c:Int)(X:Hid (VB 48 k a true))(Y:Hid (VB 48 k b true))(k1:(k==1)=true)(C:Hid (zlp a b c))(w:World):Calls prog 81 #[.int .i64 k,.string a,.string b] w (zab (.int .i64 c) w):=by
 exact zQaM
def zDx (k:Int)(a b:ByteArray)(c:Int)(X:Hid (VB 48 k a true))(Y:Hid (VB 48 k b true))(k1:(k==1)=false)(C:Hid (zlp b a c))(w:World):Calls prog 81 #[.int .i64 k,.string a,.string b] w (zab (.int .i64 c) w):=by
 exact zQaM
def zHs {k:Int}{a b:ByteArray}{u v:Ext}(ha:Val k a u)(hb:Val k b v):SOp 81 k a b (.int .i64 (zcA k u v)):=fun w=>by
 unfold zcA;rcases zpX k with⟨k1,_,k2⟩|⟨k1,_,k2⟩
 ·rw[if_pos k2]
  exact zFZ k a b _ (zHd (zfl ha)) (zHd (zfl hb)) k1 (zHd (zmz ha.e hb.e)) w
 rw[if_neg k2];exact zDx k a b _ (zHd (zfl ha)) (zHd (zfl hb)) k1 (zHd (zmz hb.e ha.e)) w
def zDy (k:Int)(a b:ByteArray)(c:Int)(X:Hid (VB 48 k a true))(Y:Hid (VB 48 k b true))(k1:(k==2)=false)(k2:(k != 2)=true)(B:Hid (SOp 81 k b a (.int .i64 c)))(h:c<0)(w:World):Calls prog 59 #[.int .i64 k,.string a,.string b] w (zab (.tuple #[.string b,.int .i64 0]) w):=by
 exact zQaL
def zGa (k:Int)(a b:ByteArray)(c:Int)(X:Hid (VB 48 k a true))(Y:Hid (VB 48 k b true))(k1:(k==2)=false)(k2:(k != 2)=true)(B:Hid (SOp 81 k b a (.int .i64 c)))(h:¬ c<0)(w:World):Calls prog 59 #[.int .i64 k,.string a,.string b] w (zab (.tuple #[.string a,.int .i64 0]) w):=by
 exact zQaL
def zGb (k:Int)(a b:ByteArray)(X:Hid (VB 48 k a true))(Y:Hid (VB 48 k b true))(k1:(k==2)=true)(k2:(k != 2)=false)(f:(a.toList==[105,110,102])=true)(w:World):Calls prog 59 #[.int .i64 k,.string a,.string b] w (zab (.tuple #[.string zcU,.int .i64 0]) w):=by
 go_enter func59,ntmps59;go_wp2_with fail;refine(X.out _).mono ?_;rintro e w1 ⟨rfl,hg⟩;have G1:=zHd (hg);clear hg;go_wp2_with fail;refine(Y.out _).mono ?_;exact zQaK
def zGc (k:Int)(a b:ByteArray)(X:Hid (VB 48 k a true))(Y:Hid (VB 48 k b true))(k1:(k==2)=true)(k2:(k != 2)=false)(f:(a.toList==[105,110,102])=false)(g:(b.toList==[105,110,102])=true)(w:World):Calls prog 59 #[.int .i64 k,.string a,.string b] w (zab (.tuple #[.string zcU,.int .i64 0]) w):=by
 go_enter func59,ntmps59;go_wp2_with fail;refine(X.out _).mono ?_;rintro e w1 ⟨rfl,hg⟩;have G1:=zHd (hg);clear hg;go_wp2_with fail;refine(Y.out _).mono ?_;exact zQaK
def zHt (k:Int)(a b S:ByteArray)(E:Int)(X:Hid (VB 48 k a true))(Y:Hid (VB 48 k b true))(k1:(k==2)=true)(k2:(k != 2)=false)(f:(a.toList==[105,110,102])=false)(g:(b.toList==[105,110,102])=false)(C:Hid (∀ w,Calls prog 82 #[.string a,.string b] w (zab (.tuple #[.string S,.int .i64 E]) w)))(w:World):Calls prog 59 #[.int .i64 k,.string a,.string b] w (zab (.tuple #[.string S,.int .i64 E]) w):=by
 go_enter func59,ntmps59;go_wp2_with fail;refine(X.out _).mono ?_;rintro e w1 ⟨rfl,hg⟩;have G1:=zHd (hg);clear hg;go_wp2_with fail;refine(Y.out _).mono ?_;rintro e w2 ⟨rfl,hg⟩;have G2:=zHd (zaa G1.out hg);clear hg G1;go_wp2_with fail;refine(C.out _).mono ?_;exact zQbN
def zix {k:Int}{a b:ByteArray}{u v:Ext}(ha:Val k a u)(hb:Val k b v):SOp 59 k a b (zdm (zfR k u v)):=fun w=>by
 have X:=zHd (zfl ha);have Y:=zHd (zfl hb);have B:=zHd (zHs hb ha)
 by_cases h2:k=2
 ·subst h2
  have i:=zcT ha.e;have j:=zcT hb.e;show Calls _ _ _ w (zab (zdm (sumE u v)) w);rcases u with(_|_)|x
  cases ha.has;exact zGb 2 a b X Y rfl rfl i w;rcases v with(_|_)|y;cases hb.has;exact zGc 2 a b X Y rfl rfl i j w;obtain⟨S,E,e⟩:=zcR (x+y);have C:=fun w=>zoF ha.e hb.e w;show Calls _ _ _ w (zab (zec (x+y)) w);rw[e] at C ⊢;exact zHt 2 a b S E X Y rfl rfl i j (zHd C) w
 have k1:(k==2)=false:=by simpa using h2
 have k2:(k != 2)=true:=by simpa using h2
 have main:zfR k u v=if zcA k v u<0 then v else u:=by
  rcases ha.kind with rfl|rfl|rfl;rfl;exact absurd rfl h2;show zda u v=if zcr u v<0 then v else u
  unfold zda;have:=zfr u v
  by_cases q:zcr u v<0
  rw[if_pos q,if_pos (by omega)];rw[if_neg q,if_neg (by omega)]
 rw[main]
 by_cases q:zcA k v u<0
 ·rw[if_pos q,znC hb.e]
  exact zDy k a b _ X Y k1 k2 B q w
 rw[if_neg q,znC ha.e];exact zGa k a b _ X Y k1 k2 B q w
open Go.RowKit
open Go.Lib (nDigits decDigits)
def zmA (k:Int)(a b:ByteArray)(X:Hid (VB 48 k a true))(Y:Hid (VB 48 k b true))(O:Hid (∀ w,Calls prog 19 #[.int .i64 k] w (zab (.string ⟨#[105,110,102]⟩) w)))(k1:(k==1)=true)(z1:(a.toList==[105,110,102])=true)(w:World):Calls prog 61 #[.int .i64 k,.string a,.string b] w (zab (.tuple #[.string zcU,.int .i64 0]) w):=by
 exact zQaf
def zrR (k:Int)(a b:ByteArray)(X:Hid (VB 48 k a true))(Y:Hid (VB 48 k b true))(O:Hid (∀ w,Calls prog 19 #[.int .i64 k] w (zab (.string ⟨#[105,110,102]⟩) w)))(k1:(k==1)=true)(z1:(a.toList==[105,110,102])=false)(z2:(b.toList==[105,110,102])=true)(w:World):Calls prog 61 #[.int .i64 k,.string a,.string b] w (zab (.tuple #[.string zcU,.int .i64 0]) w):=by
 exact zQaf
def zrS (k:Int)(a b:ByteArray)(X:Hid (VB 48 k a true))(Y:Hid (VB 48 k b true))(O:Hid (∀ w,Calls prog 19 #[.int .i64 k] w (zab (.string ⟨#[105,110,102]⟩) w)))(k1:(k==1)=true)(z1:(a.toList==[105,110,102])=false)(z2:(b.toList==[105,110,102])=false)(l1:(a.toList==[45,105,110,102])=true)(w:World):Calls prog 61 #[.int .i64 k,.string a,.string b] w (zab (.tuple #[.string zhw,.int .i64 0]) w):=by
 exact zQaf
def zAB (k:Int)(a b:ByteArray)(X:Hid (VB 48 k a true))(Y:Hid (VB 48 k b true))(O:Hid (∀ w,Calls prog 19 #[.int .i64 k] w (zab (.string ⟨#[105,110,102]⟩) w)))(k1:(k==1)=true)(z1:(a.toList==[105,110,102])=false)(z2:(b.toList==[105,110,102])=false)(l1:(a.toList==[45,105,110,102])=false)(l2:(b.toList==[45,105,110,102])=true)(w:World):Calls prog 61 #[.int .i64 k,.string a,.string b] w (zab (.tuple #[.string zhw,.int .i64 0]) w):=by
 exact zQaf
def zDz (k:Int)(a b S:ByteArray)(E:Int)(X:Hid (VB 48 k a true))(Y:Hid (VB 48 k b true))(O:Hid (∀ w,Calls prog 19 #[.int .i64 k] w (zab (.string ⟨#[105,110,102]⟩) w)))(k1:(k==1)=true)(z1:(a.toList==[105,110,102])=false)(z2:(b.toList==[105,110,102])=false)(l1:(a.toList==[45,105,110,102])=false)(l2:(b.toList==[45,105,110,102])=false)(C:Hid (∀ w,Calls prog 82 #[.string a,.string b] w (zab (.tuple #[.string S,.int .i64 E]) w)))(w:World):Calls prog 61 #[.int .i64 k,.string a,.string b] w (zab (.tuple #[.string S,.int .i64 E]) w):=by
 exact zQaE
def zxB (k:Int)(a b:ByteArray)(X:Hid (VB 48 k a true))(Y:Hid (VB 48 k b true))(O:Hid (∀ w,Calls prog 19 #[.int .i64 k] w (zab (.string ⟨#[48]⟩) w)))(k1:(k==1)=false)(z1:(a.toList==[48])=true)(w:World):Calls prog 61 #[.int .i64 k,.string a,.string b] w (zab (.tuple #[.string zcD,.int .i64 0]) w):=by
 exact zQaf
def zxC (k:Int)(a b:ByteArray)(X:Hid (VB 48 k a true))(Y:Hid (VB 48 k b true))(O:Hid (∀ w,Calls prog 19 #[.int .i64 k] w (zab (.string ⟨#[48]⟩) w)))(k1:(k==1)=false)(z1:(a.toList==[48])=false)(z2:(b.toList==[48])=true)(w:World):Calls prog 61 #[.int .i64 k,.string a,.string b] w (zab (.tuple #[.string zcD,.int .i64 0]) w):=by
 exact zQaf
def zAC (k:Int)(a b:ByteArray)(X:Hid (VB 48 k a true))(Y:Hid (VB 48 k b true))(O:Hid (∀ w,Calls prog 19 #[.int .i64 k] w (zab (.string ⟨#[48]⟩) w)))(k1:(k==1)=false)(z1:(a.toList==[48])=false)(z2:(b.toList==[48])=false)(i1:(a.toList==[105,110,102])=true)(w:World):Calls prog 61 #[.int .i64 k,.string a,.string b] w (zab (.tuple #[.string zcU,.int .i64 0]) w):=by
 exact zQaf
def zAD (k:Int)(a b:ByteArray)(X:Hid (VB 48 k a true))(Y:Hid (VB 48 k b true))(O:Hid (∀ w,Calls prog 19 #[.int .i64 k] w (zab (.string ⟨#[48]⟩) w)))(k1:(k==1)=false)(z1:(a.toList==[48])=false)(z2:(b.toList==[48])=false)(i1:(a.toList==[105,110,102])=false)(i2:(b.toList==[105,110,102])=true)(w:World):Calls prog 61 #[.int .i64 k,.string a,.string b] w (zab (.tuple #[.string zcU,.int .i64 0]) w):=by
 exact zQaf
def zDA (k:Int)(a b S:ByteArray)(E:Int)(X:Hid (VB 48 k a true))(Y:Hid (VB 48 k b true))(O:Hid (∀ w,Calls prog 19 #[.int .i64 k] w (zab (.string ⟨#[48]⟩) w)))(k1:(k==1)=false)(z1:(a.toList==[48])=false)(z2:(b.toList==[48])=false)(i1:(a.toList==[105,110,102])=false)(i2:(b.toList==[105,110,102])=false)(l1:(a.toList==[45,105,110,102])=false)(l2:(b.toList==[45,105,110,102])=false)(C:Hid (∀ w,Calls prog 83 #[.string a,.string b] w (zab (.tuple #[.string S,.int .i64 E]) w)))(w:World):Calls prog 61 #[.int .i64 k,.string a,.string b] w (zab (.tuple #[.string S,.int .i64 E]) w):=by
 exact zQaE
def zrT {k:Int}(hk:k=2∨k=3){a b:ByteArray}{u v:Ext}(ha:Val k a u)(hb:Val k b v):SOp 61 k a b (zdm (zaX u v)):=fun w=>by
 have X:=zHd (zfl ha);have Y:=zHd (zfl hb)
 have O:Hid (∀ w,Calls prog 19 #[.int .i64 k] w (zab (.string ⟨#[48]⟩) w)):=zHd fun w=>by
  have:=zbj k w;unfold zaV at this;rw[if_neg (by omega),if_pos hk] at this;exact this
 have k1:(k==1)=false:=by
  have:k≠1:=by omega
  simpa using this
 have i:=zcT ha.e;have j:=zcT hb.e;have m:=zjC ha.e;have n:=zjC hb.e;have p:=zfk ha.e;have q:=zfk hb.e;have hu:zaD 2 u=true:=by rcases hk with rfl|rfl;exact ha.has;rw[zdi];exact ha.has
 have hv:zaD 2 v=true:=by rcases hk with rfl|rfl;exact hb.has;rw[zdi];exact hb.has
 unfold zaX
 by_cases zu:u=.inr 0
 ·rw[if_pos (.inl zu),zeroV]
  rw[(zft u).2 zu] at m;exact zxB k a b X Y O k1 m w
 have mu:isNil u=false:=by rw[<- Bool.not_eq_true,zft];exact zu
 rw[mu] at m
 by_cases zv:v=.inr 0
 ·rw[if_pos (.inr zv),zeroV]
  rw[(zft v).2 zv] at n;exact zxC k a b X Y O k1 m n w
 have mv:isNil v=false:=by rw[<- Bool.not_eq_true,zft];exact zv
 rw[mv] at n;rw[if_neg (fun h=>by rcases h with h|h;exact zu h;exact zv h)];rcases u with(_|_)|x
 cases hu;exact zAC k a b X Y O k1 m n i w;rcases v with(_|_)|y;cases hv;exact zAD k a b X Y O k1 m n i j w;obtain⟨S,E,e⟩:=zcR (x*y);have C:=fun w=>zDn ha.e hb.e w;show Calls _ _ _ w (zab (zec (x*y)) w);rw[e] at C ⊢;exact zDA k a b S E X Y O k1 m n i j p q (zHd C) w
def zAE {a b:ByteArray}{u v:Ext}(ha:Val 1 a u)(hb:Val 1 b v):SOp 61 1 a b (zdm (zcL u v)):=fun w=>by
 have X:=zHd (zfl ha);have Y:=zHd (zfl hb);have O:Hid (∀ w,Calls prog 19 #[.int .i64 1] w (zab (.string ⟨#[105,110,102]⟩) w)):=zHd fun w=>zbj 1 w;have i:=zcT ha.e;have j:=zcT hb.e;have p:=zfk ha.e;have q:=zfk hb.e;rcases u with(_|_)|x <;> rcases v with(_|_)|y
 exact zrS 1 a b X Y O rfl i j p w;exact zrR 1 a b X Y O rfl i j w;exact zrS 1 a b X Y O rfl i j p w;exact zmA 1 a b X Y O rfl i w;exact zmA 1 a b X Y O rfl i w;exact zmA 1 a b X Y O rfl i w;exact zAB 1 a b X Y O rfl i j p q w;exact zrR 1 a b X Y O rfl i j w;obtain⟨S,E,e⟩:=zcR (x+y);have C:=fun w=>zoF ha.e hb.e w;show Calls _ _ _ w (zab (zec (x+y)) w);rw[e] at C ⊢;exact zDz 1 a b S E X Y O rfl i j p q (zHd C) w
def zlq {k:Int}{a b:ByteArray}{u v:Ext}(ha:Val k a u)(hb:Val k b v):SOp 61 k a b (zdm (zbP k u v)):=by
 rcases ha.kind with rfl|rfl|rfl;exact zAE ha hb;exact zrT (.inl rfl) ha hb;exact zrT (.inr rfl) ha hb
def zDB (k:Int)(a:ByteArray)(c:Int)(X:Hid (VB 48 k a true))(O:Hid (∀ w,Calls prog 23 #[.int .i64 k] w (zab (.string ⟨#[48]⟩) w)))(k1:(k==1)=true)(C:Hid (zlp a ⟨#[48]⟩ c))(h:0<=c)(w:World):Calls prog 64 #[.int .i64 k,.string a] w (zab (.tuple #[.string zcD,.int .i64 0]) w):=by
 exact zQai
def zDC (k:Int)(a:ByteArray)(c:Int)(X:Hid (VB 48 k a true))(O:Hid (∀ w,Calls prog 23 #[.int .i64 k] w (zab (.string ⟨#[48]⟩) w)))(k1:(k==1)=true)(C:Hid (zlp a ⟨#[48]⟩ c))(h:¬ 0<=c)(w:World):Calls prog 64 #[.int .i64 k,.string a] w (zab (.tuple #[.string zhw,.int .i64 0]) w):=by
 exact zQai
def zDD (k:Int)(a:ByteArray)(c:Int)(X:Hid (VB 48 k a true))(O:Hid (∀ w,Calls prog 23 #[.int .i64 k] w (zab (.string ⟨#[49]⟩) w)))(k1:(k==1)=false)(k3:(k==3)=true)(C:Hid (zlp a ⟨#[49]⟩ c))(h:c<=0)(w:World):Calls prog 64 #[.int .i64 k,.string a] w (zab (.tuple #[.string zle,.int .i64 0]) w):=by
 exact zQai
def zDE (k:Int)(a:ByteArray)(c:Int)(X:Hid (VB 48 k a true))(O:Hid (∀ w,Calls prog 23 #[.int .i64 k] w (zab (.string ⟨#[49]⟩) w)))(k1:(k==1)=false)(k3:(k==3)=true)(C:Hid (zlp a ⟨#[49]⟩ c))(h:¬ c<=0)(w:World):Calls prog 64 #[.int .i64 k,.string a] w (zab (.tuple #[.string zcU,.int .i64 0]) w):=by
 exact zQai
def ztN (k:Int)(a:ByteArray)(c:Int)(X:Hid (VB 48 k a true))(O:Hid (∀ w,Calls prog 23 #[.int .i64 k] w (zab (.string ⟨#[49]⟩) w)))(k1:(k==1)=false)(k3:(k==3)=false)(C:Hid (zlp a ⟨#[49]⟩ c))(h:0<=c)(w:World):Calls prog 64 #[.int .i64 k,.string a] w (zab (.tuple #[.string zcU,.int .i64 0]) w):=by
 exact zQai
def zDF (k:Int)(a D S:ByteArray)(c E:Int)(X:Hid (VB 48 k a true))(O:Hid (∀ w,Calls prog 23 #[.int .i64 k] w (zab (.string ⟨#[49]⟩) w)))(k1:(k==1)=false)(k3:(k==3)=false)(C:Hid (zlp a ⟨#[49]⟩ c))(h:¬ 0<=c)(M:Hid (∀ w,Calls prog 87 #[.string ⟨#[49]⟩,.string a] w (zab (.tuple #[.string D,.int .i64 0]) w)))(N:Hid (∀ w,Calls prog 88 #[.string ⟨#[49]⟩,.string D] w (zab (.tuple #[.string S,.int .i64 E]) w)))(w:World):Calls prog 64 #[.int .i64 k,.string a] w (zab (.tuple #[.string S,.int .i64 E]) w):=by
 go_enter func64,ntmps64;go_wp2_with fail;refine(X.out _).mono ?_;rintro e w1 ⟨rfl,hg⟩;have G1:=zHd (hg);clear hg;go_wp2_with fail;refine(O.out _).mono ?_;rintro e w2 ⟨rfl,hg⟩;have G2:=zHd (zaa G1.out hg);clear hg G1;go_wp2_with fail;refine(C.out _).mono ?_;rintro e w3 ⟨rfl,hg⟩;have G3:=zHd (zaa G2.out hg);clear hg G2;go_wp2_with fail;refine(M.out _).mono ?_;rintro e w4 ⟨rfl,hg⟩;have G4:=zHd (zaa G3.out hg);clear hg G3;go_wp2_with fail;refine(N.out _).mono ?_;rintro e w5 ⟨rfl,hg⟩;have G5:=zHd (zaa G4.out hg);clear hg G4;go_wp2;go_ret2;exact⟨rfl,G5.out⟩
def ztO {k:Int}(hk:k=2∨k=3):Hid (∀ w,Calls prog 23 #[.int .i64 k] w (zab (.string ⟨#[49]⟩) w)):=zHd fun w=>by
 have:=zfz k w;unfold zak at this;rw[if_neg (by omega),if_pos hk] at this;exact this
def zrU {k:Int}{a:ByteArray}{u:Ext}(ha:Val k a u):zDs 64 k a (zdm (zkd k u)):=fun w=>by
 have X:=zHd (zfl ha);rcases ha.kind with rfl|rfl|rfl
 ·have C:=zHd (zmz ha.e zpG)
  show Calls _ _ _ w (zab (zdm (if zcr u (.inr 0)<0 then .inl false else .inr 0)) w);have O:Hid (∀ w,Calls prog 23 #[.int .i64 1] w (zab (.string ⟨#[48]⟩) w)):=zHd fun w=>zfz 1 w
  by_cases h:zcr u (.inr 0)<0
  ·rw[if_pos h]
   exact zDC 1 a _ X O rfl C (by omega) w
  rw[if_neg h,zeroV];exact zDB 1 a _ X O rfl C (by omega) w
 ·have C:=zHd (zmz ha.e zoz)
  have O:=ztO (k:=2) (.inl rfl);rcases zaP u ha.has with rfl|⟨x,rfl,hx⟩
  exact ztN 2 a _ X O rfl rfl C (by decide) w;show Calls _ _ _ w (zab (zdm (if x<1 then .inr (1/(1-x)) else .inl true)) w)
  have z:0<=zcr (.inr x) (.inr 1)↔¬ x<1:=by
   show 0<=zdv x 1↔_;rw[<- zhV];omega
  by_cases h:x<1
  ·rw[if_pos h]
   have hs:=zxb hx (Rat.le_of_lt h) (show zcd x from zaM.short ha.e);have hR:zaM (zfW (1-x)) (1-x):=⟨hs,rfl⟩;obtain⟨S,E,e⟩:=zcR (1/(1-x));show Calls _ _ _ w (zab (zec (1/(1-x))) w);have M:=fun w=>zDq zoz ha.e w;have N:=fun w=>zDo zoz hR (zwg h) w;rw[zjq hR] at M;rw[e] at N ⊢;exact zDF 2 a _ S _ E X O rfl rfl C (fun q=>z.1 q h) (zHd M) (zHd N) w
  rw[if_neg h];exact ztN 2 a _ X O rfl rfl C (z.2 h) w
 have C:=zHd (zmz ha.e zoz);have O:=ztO (k:=3) (.inr rfl);show Calls _ _ _ w (zab (zdm (if 0<zcr u (.inr 1) then .inl true else .inr 1)) w)
 by_cases h:0<zcr u (.inr 1)
 ·rw[if_pos h]
  exact zDE 3 a _ X O rfl rfl C (by omega) w
 rw[if_neg h,oneV];exact zDD 3 a _ X O rfl rfl C (by omega) w
variable {α:Type} {S:Sr α}
def zwl (f:Nat->α){n:Nat}{o:List Nat}(hn:o.Nodup)(hb:∀ x∈o,x<n):∀ k,k<=o.length->sm S k (fun r=>f (o.getD r 0))=sm S n (fun s=>if s∈o.take k then f s else S.zero)
 | 0,_=>(zdf S (fun s _=>by rw[List.take_zero];exact if_neg (by simp))).symm
 | k+1,hk=>by
  have hk2:k<o.length:=by omega
  have e1:o.getD k 0=o[k]:=by rw[zqaa,zqac hk2];rfl
  have hx:o[k]<n:=hb _ (List.getElem_mem hk2);have e2:=zdL (S:=S) hx (fun s=>if s=o[k] then f s else S.zero) (fun s _ hs=>if_neg hs);rw[if_pos rfl] at e2;show S.add (sm S k (fun r=>f (o.getD r 0))) (f (o.getD k 0))=_;rw[zwl f hn hb k (by omega),e1,<- e2,<- zdY];refine zar S (fun s _=>?_);rw[List.take_add_one,zqac hk2]
  by_cases h1:s=o[k]
  ·have h2:s ∉ o.take k:=fun h=>by
    obtain⟨i,hi,e⟩:=List.getElem_of_mem h;rw[zqan] at hi;rw[List.getElem_take] at e;rw[h1] at e;have g1:=hn.idxOf_getElem i (by omega);have g2:=hn.idxOf_getElem k hk2;rw[e] at g1;omega
   rw[if_neg h2,if_pos h1,if_pos (List.mem_append_right _ (by rw[h1];exact zqbk.2 rfl)),S.zero_add]
  rw[if_neg h1,S.add_zero]
  by_cases h2:s∈o.take k
  rw[if_pos h2,if_pos (List.mem_append_left _ h2)]
  rw[if_neg h2,if_neg (fun h=>by
   rcases zqbo.1 h with h|h;exact h2 h;exact h1 (zqbk.1 h))]
def zoe (f:Nat->α){n:Nat}{o:List Nat}(hn:o.Nodup)(hb:∀ x∈o,x<n):sm S o.length (fun r=>f (o.getD r 0))=sm S n (fun s=>if s∈o then f s else S.zero):=by
 have h:=zwl (S:=S) f hn hb o.length (zqab _);rw[List.take_length] at h;exact h
structure Sub (S:Sr α)(m m':Wm α)(o:List Nat):Prop where
 nodup:o.Nodup
 below:∀ x∈o,x<m.n
 size:m'.n=o.length
 E:∀ r s,r<o.length->s<o.length->m'.E r s=m.E (o.getD r 0) (o.getD s 0)
 T:∀ a b r s,r<o.length->s<o.length->m'.T a b r s=m.T a b (o.getD r 0) (o.getD s 0)
 F:∀ r,r<o.length->m'.F r=m.F (o.getD r 0)
 deadE:∀ q∈o,∀ s,s<m.n->s ∉ o->m.E q s≠S.zero->∀ u v,bk S m u v s=S.zero
 deadT:∀ q∈o,∀ s,s<m.n->s ∉ o->∀ a b,m.T a b q s≠S.zero->∀ u v,bk S m u v s=S.zero
section
variable {m m':Wm α} {o:List Nat} (h:Sub S m m' o)
def Sub.mem (h:Sub S m m' o){r:Nat}(hr:r<o.length):o.getD r 0∈o:=by
 rw[zqaa,zqac hr];exact List.getElem_mem hr
def Sub.sumT (h:Sub S m m' o)(a b:Nat){r:Nat}(hr:r<o.length)(u v:List Nat)(f:Nat->α)(hf:∀ s,s<o.length->f s=bk S m u v (o.getD s 0)) :
  sm S m'.n (fun s=>S.mul (m'.T a b r s) (f s))=sm S m.n (fun s=>S.mul (m.T a b (o.getD r 0) s) (bk S m u v s)):=by
 rw[h.size,zar S (g:=fun s=>(fun s=>S.mul (m.T a b (o.getD r 0) s) (bk S m u v s)) (o.getD s 0)) (fun s hs=>by rw[h.T a b r s hr hs,hf s hs]),zoe (fun s=>S.mul (m.T a b (o.getD r 0) s) (bk S m u v s)) h.nodup h.below];refine zar S (fun s hs=>?_)
 by_cases hm:s∈o
 rw[if_pos hm];rw[if_neg hm]
 by_cases hz:m.T a b (o.getD r 0) s=S.zero
 rw[hz,S.zero_mul];rw[h.deadT _ (h.mem hr) s hs hm a b hz u v,S.mul_zero]
def Sub.sumE (h:Sub S m m' o){r:Nat}(hr:r<o.length)(u v:List Nat)(X:Nat->α)(hX:∀ s,s<m.n->s ∉ o->X s=bk S m u v s) :
  sm S m.n (fun s=>S.mul (m.E (o.getD r 0) s) (X s))=sm S m'.n (fun s=>S.mul (m'.E r s) (X (o.getD s 0))):=by
 rw[h.size,zar S (f:=fun s=>S.mul (m'.E r s) (X (o.getD s 0))) (g:=fun s=>(fun s=>S.mul (m.E (o.getD r 0) s) (X s)) (o.getD s 0)) (fun s hs=>by rw[h.E r s hr hs]),zoe (fun s=>S.mul (m.E (o.getD r 0) s) (X s)) h.nodup h.below];refine zar S (fun s hs=>?_)
 by_cases hm:s∈o
 rw[if_pos hm];rw[if_neg hm]
 by_cases hz:m.E (o.getD r 0) s=S.zero
 rw[hz,S.zero_mul];rw[hX s hs hm,h.deadE _ (h.mem hr) s hs hm hz u v,S.mul_zero]
def Sub.nx (h:Sub S m m' o)(u v:List Nat)(ih:∀ u' v',u'.length+v'.length<u.length+v.length->∀ r,r<o.length->bk S m' u' v' r=bk S m u' v' (o.getD r 0)){r:Nat}(hr:r<o.length):nx S m' (bk S m') u v r=Proofs.YtadgpgofcjpnjaaGreatDoor.nx S m (bk S m) u v (o.getD r 0):=by
 cases u with
 | nil=>cases v with
  | nil=>exact h.F r hr
  | cons b v=>exact h.sumT 0 b hr [] v _ (ih [] v (by simp))
 | cons a u=>cases v with
  | nil=>exact h.sumT a 0 hr u [] _ (ih u [] (by simp))
  | cons b v =>
   show S.add (S.add _ _) _=S.add (S.add _ _) _;rw[h.sumT a 0 hr u (b::v) _ (ih u (b::v) (by simp)),h.sumT 0 b hr (a::u) v _ (ih (a::u) v (by simp)),h.sumT a b hr u v _ (ih u v (by simp;omega))]
def Sub.same1 (h:Sub S m m' o)(u v:List Nat)(ih:∀ u' v',u'.length+v'.length<u.length+v.length->∀ r,r<o.length->bk S m' u' v' r=bk S m u' v' (o.getD r 0)):∀ r,r<o.length->bk S m' u v r=bk S m u v (o.getD r 0):=by
 have hn:=fun r (hr:r<o.length)=>h.nx u v ih hr
 have below:∀ r,r<o.length->S.le (bk S m' u v r) (bk S m u v (o.getD r 0)):=fun r hr=>by
  refine zkZ S m' u v (fun r=>bk S m u v (o.getD r 0)) (fun q hq=>?_) (by rw[h.size];exact hr);rw[h.size] at hq;rw[hn q hq,<- h.sumE hq u v (bk S m u v) (fun _ _ _=>rfl),<- zgV S m u v (h.below _ (h.mem hq))];exact S.le_refl _
 have pos:∀ r,r<o.length->o.idxOf (o.getD r 0)=r:=fun r hr=>by
  rw[zqaa,zqac hr];exact h.nodup.idxOf_getElem r hr
 have back:∀ q,q∈o->o.getD (o.idxOf q) 0=q/\o.idxOf q<o.length:=fun q hq=>by
  have hl:=List.idxOf_lt_length_iff.2 hq;rw[zqaa,zqac hl];exact⟨List.getElem_idxOf hl,hl⟩
 refine fun r hr=>S.le_anti _ _ (below r hr) ?_;have key:=zkZ S m u v (fun s=>if s∈o then bk S m' u v (o.idxOf s) else bk S m u v s) (fun q hq=>?_) (h.below _ (h.mem hr))
 ·rw[if_pos (h.mem hr),pos r hr] at key
  exact key
 by_cases hm:q∈o
 ·obtain⟨g1,g2⟩:=back q hm
  have e:=h.sumE g2 u v (fun s=>if s∈o then bk S m' u v (o.idxOf s) else bk S m u v s) (fun s _ hs=>if_neg hs);rw[g1] at e;have e0:=hn _ g2;rw[g1] at e0
  rw[e,<- e0,zar S (g:=fun s=>S.mul (m'.E (o.idxOf q) s) (bk S m' u v s)) (fun s hs=>by
   rw[h.size] at hs;rw[if_pos (h.mem hs),pos s hs]),<- zgV S m' u v (by rw[h.size];exact g2)]
  rw[if_pos hm];exact S.le_refl _
 rw[if_neg hm]
 conv=>rhs;rw[zgV S m u v hq]
 refine S.add_mono _ _ _ _ (S.le_refl _) (znr S (fun s hs=>S.mul_mono _ _ _ ?_))
 by_cases h2:s∈o
 ·rw[if_pos h2]
  obtain⟨g1,g2⟩:=back s h2;have:=below _ g2
  rwa [g1] at this
 rw[if_neg h2];exact S.le_refl _
def Sub.same (h:Sub S m m' o):∀ (d:Nat) (u v:List Nat),u.length+v.length<=d->∀ r,r<o.length->bk S m' u v r=bk S m u v (o.getD r 0):=fun d=>by
 induction d with
 | zero=>exact fun u v hd=>h.same1 u v (fun u' v' h'=>by omega)
 | succ d ih=>exact fun u v hd=>h.same1 u v (fun u' v' h'=>ih u' v' (by omega))
end
open Go.RowKit
def natE (k:Int)(u v:Ext):Prop:=zcA k v u<=0
def zDG {u v t s:Ext}(hu:zaD 2 u=true)(hv:zaD 2 v=true)(ht:zaD 2 t=true)(hs:zaD 2 s=true)(h:leE u v)(k:leE t s):leE (sumE u t) (sumE v s):=by
 rcases zaP v hv with rfl|⟨y,rfl,hy⟩;rw[zcn];exact zdu _;rcases zaP s hs with rfl|⟨z,rfl,hz⟩;rw[zbO];exact zdu _;rcases zaP u hu with rfl|⟨x,rfl,hx⟩;exact absurd h (zcV _);rcases zaP t ht with rfl|⟨w,rfl,hw⟩;exact absurd k (zcV _);rw[zcS,zcS];refine(zcg _ _).2 ?_;have h1:=(zcg _ _).1 h;have h2:=(zcg _ _).1 k;exact zqar ((Rat.add_le_add_right (c:=w)).2 h1) ((Rat.add_le_add_left (c:=y)).2 h2)
def zpY (a b x:Ext)(h:leE x (zdz b (zcL a x))):leE x (zcL (zkd 1 a) b):=by
 obtain⟨h1,h2⟩:=(zhW x b (zcL a x)).1 h;show leE x (zcL (if zcr a (.inr 0)<0 then .inl false else .inr 0) b)
 by_cases ha:zcr a (.inr 0)<0
 ·rw[if_pos ha]
  rcases b with(_|_)|y
  ·
   show leE x (.inl false);rcases x with(_|_)|q
   exact zds _;exact absurd h1 zks;exact absurd h1 (zgH q)
  exact zdu x;show leE x (.inl false);rcases x with(_|_)|q;exact zds _;exact absurd h1 (zcV y);rcases a with(_|_)|r
  ·exact absurd h2 (zgH q)
  exact absurd (show(1:Int)<0 from ha) (by decide);have h3:q<=r+q:=(zcg _ _).1 h2;have h4:r<0:=(zhV r 0).1 ha;have h5:r+q<0+q:=(Rat.add_lt_add_right (c:=q)).2 h4;rw[Rat.zero_add] at h5;exact absurd h3 (Rat.not_le.2 h5)
 rw[if_neg ha,zmm,zmn];exact h1
def zof {r q:Rat}(hr:1<r)(hq:0<q):q<r*q:=by
 have h:=Rat.mul_lt_mul_of_pos_right hr hq
 rwa [Rat.one_mul] at h
def zpZ (a b x:Ext)(ha:zaD 2 a=true)(hb:zaD 2 b=true)(hx:zaD 2 x=true)(h:leE (zda b (zaX a x)) x):leE (zaX (zkd 3 a) b) x:=by
 obtain⟨h1,h2⟩:=(zhX x b (zaX a x)).1 h;show leE (zaX (if 0<zcr a (.inr 1) then .inl true else .inr 1) b) x
 by_cases hs:0<zcr a (.inr 1)
 ·rw[if_pos hs]
  rcases zaP x hx with rfl|⟨q,rfl,hq⟩;exact zdu _;rcases zaP b hb with rfl|⟨y,rfl,hy⟩;exact absurd h1 (zcV q)
  by_cases zy:y=0
  subst zy;rw[zaY];exact(zcg _ _).2 hq;have hyq:y<=q:=(zcg _ _).1 h1
  have hy0:0<y:=by
   rcases Rat.le_iff_lt_or_eq.1 hy with h|h;exact h;exact absurd h.symm zy
  have hq0:0<q:=Rat.not_le.1 (fun e=>Rat.not_le.2 hy0 (zqar hyq e));have hqn:q≠0:=fun e=>by rw[e] at hq0;exact Rat.lt_irrefl hq0
  rcases zaP a ha with rfl|⟨r,rfl,hr⟩;rw[zbd hqn] at h2;exact absurd h2 (zcV q);rw[zbT] at h2;have h3:r*q<=q:=(zcg _ _).1 h2
  have h4:1<r:=by
   have hc:0<zdv r 1:=hs;have:=zml r 1;exact(zhV 1 r).1 (by omega)
  exact absurd h3 (Rat.not_le.2 (zof h4 hq0))
 rw[if_neg hs,zmp _ _ (by decide +kernel) hb,zlg b hb];exact h1
def zrm (a b x:Ext)(ha:zaD 2 a=true)(hb:zaD 2 b=true)(hx:zaD 2 x=true)(h:leE (sumE b (zaX a x)) x):leE (zaX (zkd 2 a) b) x:=by
 rcases zaP x hx with rfl|⟨q,rfl,hq⟩;exact zdu _;rcases zaP b hb with rfl|⟨y,rfl,hy⟩;rw[zcn] at h;exact absurd h (zcV q);rcases zaP a ha with rfl|⟨r,rfl,hr⟩
 ·
  by_cases zq:q=0
  ·subst zq
   rw[zaY,zcS,Rat.add_zero] at h;have h1:y<=0:=(zcg _ _).1 h;have h2:y=0:=Rat.le_antisymm h1 hy;subst h2;rw[zaY];exact zds _
  rw[zbd zq,zbO] at h;exact absurd h (zcV q)
 rw[zbT,zcS] at h;have h1:y+r*q<=q:=(zcg _ _).1 h;show leE (zaX (if r<1 then .inr (1/(1-r)) else .inl true) (.inr y)) (.inr q)
 by_cases hr1:r<1
 ·rw[if_pos hr1,zbT]
  refine(zcg _ _).2 ?_;have h0:0<1-r:=(Rat.lt_iff_sub_pos r 1).1 hr1
  have h2:y<=q*(1-r):=by
   rw[Rat.sub_eq_add_neg,Rat.mul_add,Rat.mul_one,Rat.mul_neg,Rat.mul_comm q r];have h3:=(Rat.add_le_add_right (c := -(r*q))).2 h1
   rwa [Rat.add_assoc,Rat.add_neg_cancel,Rat.add_zero] at h3
  have h4:=zqai h2 (znZ hr1)
  have h5:1/(1-r)*(q*(1-r))=q:=by
   rw[Rat.mul_comm q,<- Rat.mul_assoc,Rat.div_mul_cancel (fun e=>by rw[e] at h0;exact Rat.lt_irrefl h0),Rat.one_mul]
  rwa [h5] at h4
 rw[if_neg hr1];have h2:1<=r:=Rat.not_lt.1 hr1
 have h3:q<=r*q:=by
  have:=Rat.mul_le_mul_of_nonneg_right h2 hq
  rwa [Rat.one_mul] at this
 have h4:y<=0:=by
  have h5:y+q<=y+r*q:=(Rat.add_le_add_left (c:=y)).2 h3;have h6:=zqar h5 h1;have h7:=(Rat.add_le_add_right (c := -q)).2 h6
  rwa [Rat.add_assoc,Rat.add_neg_cancel,Rat.add_zero] at h7
 have h8:y=0:=Rat.le_antisymm h4 hy;subst h8;rw[zaY];exact(zcg _ _).2 hq
def El (k:Int):Type := { v:Ext // zaD k v=true }
def srE (k:Int)(hk:zam k):Sr (El k) where
 add u v:=⟨zfR k u.1 v.1,zCZ hk u.2 v.2⟩
 mul u v:=⟨zbP k u.1 v.1,zzR hk u.2 v.2⟩
 zero:=⟨zkc k,zzS hk⟩
 one:=⟨ziu k,zDa hk⟩
 star u:=⟨zkd k u.1,zDc hk u.1 u.2⟩
 le u v:=natE k u.1 v.1
 add_comm u v:=Subtype.ext (zzT hk u.2 v.2)
 add_assoc u v t:=Subtype.ext (zxf hk u.2 v.2 t.2)
 add_zero u:=Subtype.ext (zzU hk u.2)
 mul_comm u v:=Subtype.ext (zhz hk u.2 v.2)
 mul_assoc u v t:=Subtype.ext (zvd hk u.2 v.2 t.2)
 mul_add u v t:=Subtype.ext (zxg hk u.2 v.2 t.2)
 mul_one u:=Subtype.ext (zzV hk u.2)
 mul_zero u:=Subtype.ext (zxh hk u.1)
 star_law u:=Subtype.ext (star_law hk u.1 u.2)
 le_refl u:=by show zcA k u.1 u.1<=0;rw[(znY k u.1 u.1).2 rfl];exact Int.le_refl 0
 le_trans u v t h j:=zty k t.1 v.1 u.1 j h
 le_anti u v h j:=Subtype.ext ((znY k u.1 v.1).1 (by
  have h1:zcA k v.1 u.1<=0:=h;have h2:zcA k u.1 v.1<=0:=j;have:=zve k u.1 v.1;omega))
 add_mono u v t s h j:=by
  rcases hk with rfl|rfl|rfl
  ·have h1:leE v.1 u.1:=h
   have h2:leE s.1 t.1:=j;show leE (zdz v.1 s.1) (zdz u.1 t.1);refine(zhW _ _ _).2 ⟨?_,?_⟩;exact zfs ((zhW _ _ _).1 (zds (zdz v.1 s.1))).1 h1;exact zfs ((zhW _ _ _).1 (zds (zdz v.1 s.1))).2 h2
  exact zDG u.2 v.2 t.2 s.2 h j;have h1:leE u.1 v.1:=h;have h2:leE t.1 s.1:=j;show leE (zda u.1 t.1) (zda v.1 s.1);refine(zhX _ _ _).2 ⟨?_,?_⟩;exact zfs h1 ((zhX _ _ _).1 (zds (zda v.1 s.1))).1;exact zfs h2 ((zhX _ _ _).1 (zds (zda v.1 s.1))).2
 mul_mono u v t h:=by
  have h2:=ztz hk v.2 u.2 t.2 h;show zcA k (zbP k t.1 v.1) (zbP k t.1 u.1)<=0;rw[zhz hk t.2 v.2,zhz hk t.2 u.2];exact h2
 zero_le u:=by
  rcases hk with rfl|rfl|rfl;exact zdu _
  ·rcases zaP u.1 u.2 with e|⟨x,e,hx⟩
   ·show leE (.inr 0) u.1;rw[e];exact zdu _
   show leE (.inr 0) u.1;rw[e];exact(zcg _ _).2 hx
  have hu:=u.2;rw[<- zdi] at hu;rcases zaP u.1 hu with e|⟨x,e,hx⟩
  ·show leE (.inr 0) u.1;rw[e];exact zdu _
  show leE (.inr 0) u.1;rw[e];exact(zcg _ _).2 hx
 star_least a b x h:=by
  rcases hk with rfl|rfl|rfl;exact zpY a.1 b.1 x.1 h;exact zrm a.1 b.1 x.1 a.2 b.2 x.2 h;have h1:=a.2;have h2:=b.2;have h3:=x.2;rw[<- zdi] at h1 h2 h3;exact zpZ a.1 b.1 x.1 h1 h2 h3 h
def rs:Nat->(Nat->Rat)->Rat
 | 0,_=>0
 | n+1,f=>rs n f+f n
def sk (c x:Nat):Nat:=if x<c then x else x+1
def sg7 (c:Nat):Rat:=if c%2=0 then 1 else -1
def dt:Nat->(Nat->Nat->Rat)->Rat
 | 0,_=>1
 | k+1,V=>rs (k+1) (fun c=>sg7 c*V 0 c*dt k (fun i x=>V (i+1) (sk c x)))
def up (V:Nat->Nat->Rat)(r:Nat)(u:Nat->Rat)(i x:Nat):Rat:=if i=r then u x else V i x
def d2 (k:Nat)(V:Nat->Nat->Rat)(a b:Nat):Rat:=dt k (fun i x=>V (i+2) (if a<b then sk a (sk (b-1) x) else sk b (sk (a-1) x)))
def s2 (a b:Nat):Rat:=if a=b then 0 else if a<b then sg7 a*sg7 (b-1) else sg7 a*sg7 b
end Go.Proofs.YtadgpgofcjpnjaaGreatDoor
namespace Go.Proofs.YtadgpgofcjpnjaaGreatDoor
open Go.Proofs.Tryz
open Go.RowKit
def zHR:zam 2:=.inr (.inl rfl)
def S2:Sr (El 2):=srE 2 zHR
def val (v:El 2):Rat:=match v.1 with
 | .inr x=>x
 | _=>0
open Go.RowKit
variable {α:Type}
open Classical in
noncomputable def onB (A:Nat->Nat->El 2)(k i j m:Nat):Bool:=decide (el S2 A k i m≠S2.zero/\el S2 A k m j≠S2.zero)
noncomputable def onL (A:Nat->Nat->El 2)(k i j:Nat):List Nat:=(List.range k).filter (onB A k i j)
noncomputable def nd (A:Nat->Nat->El 2)(k i j c:Nat):Nat:=if c=0 then i else (onL A k i j).getD (c-1) 0
section
variable {A:Nat->Nat->El 2} {k i j:Nat}
end
end Go.Proofs.YtadgpgofcjpnjaaGreatDoor
