/- Part. -/
import Derived.Test.YtiblmbpfcmcccaaGreatDoorKX05
set_option linter.unusedVariables false
set_option linter.defProp false
set_option linter.unusedSimpArgs false
set_option maxRecDepth 100000
set_option maxHeartbeats 16000000
namespace Go.Proofs.YtiblmbpfcmcccaaGreatDoor
open Go.Proofs.Tryz
open Go.RowKit
open Go.Lib (nDigits decDigits)
def zhk (s:ByteArray)(b:Bool):Prop:=∀ w,Calls prog 179 #[.string s] w fun e w'=>e=.returned (.bool b)/\w=w'
def zlw (a g Q R:ByteArray):Prop:=∀ w,Calls prog 180 #[.string a,.string g] w (zab (.tuple #[.string Q,.string R,.int .i64 0]) w)
def zAA (neg:Bool)(num den:ByteArray)(w:World)(V:Hid (zhk num false)) :
  Calls prog 142 #[.bool neg,.string num,.string den] w (zab (.tuple #[.string ⟨#[]⟩,.int .i64 1]) w):=by
 go_enter func142,ntmps142;go_wp2_with fail;refine(V.out _).mono ?_;rintro e w' ⟨rfl,rfl⟩;exact zQaY
def zAB (neg:Bool)(num den:ByteArray)(w:World)(V:Hid (zhk num true))(U:Hid (zhk den false)) :
  Calls prog 142 #[.bool neg,.string num,.string den] w (zab (.tuple #[.string ⟨#[]⟩,.int .i64 1]) w):=by
 go_enter func142,ntmps142;exact zQax
def zAC (neg:Bool)(num den:ByteArray)(w:World)(V:Hid (zhk num true))(U:Hid (zhk den true))(f:(den.toList==[48])=true) :
  Calls prog 142 #[.bool neg,.string num,.string den] w (zab (.tuple #[.string ⟨#[]⟩,.int .i64 1]) w):=by
 go_enter func142,ntmps142;exact zQax
def zxY (neg:Bool)(num den G A B R1 R2:ByteArray)(w:World)(V:Hid (zhk num true))(U:Hid (zhk den true))(f:(den.toList==[48])=false)(GC:Hid (zgy num den G))(D1:Hid (zlw num G A R1))(D2:Hid (zlw den G B R2))(h:(400:Int)<(A.size:Int)) :
  Calls prog 142 #[.bool neg,.string num,.string den] w (zab (.tuple #[.string ⟨#[]⟩,.int .i64 2]) w):=by
 exact zQad
def zxZ (neg:Bool)(num den G A B R1 R2:ByteArray)(w:World)(V:Hid (zhk num true))(U:Hid (zhk den true))(f:(den.toList==[48])=false)(GC:Hid (zgy num den G))(D1:Hid (zlw num G A R1))(D2:Hid (zlw den G B R2))(h:¬ (400:Int)<(A.size:Int))(h2:(400:Int)<(B.size:Int)) :
  Calls prog 142 #[.bool neg,.string num,.string den] w (zab (.tuple #[.string ⟨#[]⟩,.int .i64 2]) w):=by
 exact zQad
def zDz (neg c:Bool)(num den G A B R1 R2:ByteArray)(w:World)(V:Hid (zhk num true))(U:Hid (zhk den true))(f:(den.toList==[48])=false)(GC:Hid (zgy num den G))(D1:Hid (zlw num G A R1))(D2:Hid (zlw den G B R2))(h:¬ (400:Int)<(A.size:Int))(h2:¬ (400:Int)<(B.size:Int))(z1:(A.toList==[48]) = !c)(z2:(A.toList != [48])=c)(o1:(B.toList==[49])=true) :
  Calls prog 142 #[.bool neg,.string num,.string den] w (zab (.tuple #[.string (if neg&&c then ⟨#[45]⟩++A else A),.int .i64 0]) w):=by
 cases neg <;> cases c <;> simp only[Bool.not_true,Bool.not_false] at z1
 all_goals
  exact zQad
def zAD (neg c:Bool)(num den G A B R1 R2:ByteArray)(w:World)(V:Hid (zhk num true))(U:Hid (zhk den true))(f:(den.toList==[48])=false)(GC:Hid (zgy num den G))(D1:Hid (zlw num G A R1))(D2:Hid (zlw den G B R2))(h:¬ (400:Int)<(A.size:Int))(h2:¬ (400:Int)<(B.size:Int))(z1:(A.toList==[48]) = !c)(z2:(A.toList != [48])=c)(o1:(B.toList==[49])=false) :
  Calls prog 142 #[.bool neg,.string num,.string den] w (zab (.tuple #[.string ((if neg&&c then ⟨#[45]⟩++A else A)++⟨#[47]⟩++B),.int .i64 0]) w):=by
 cases neg <;> cases c <;> simp only[Bool.not_true,Bool.not_false] at z1
 all_goals
  exact zQad
def rVal (s:ByteArray)(hs:s.size<=maxLen):zhk s (zao s):=fun w=>zau s w hs
def rDiv (m n:Nat)(hm:nDigits m<=1000)(hn:nDigits n<=1000)(h:n≠0):zlw (zai m) (zai n) (zai (m/n)) (zai (m%n)):=fun w=>by
 have:=zvF (zai m) (zai n) w (zaV m hm) (zaV n hn);rw[zpd m n hm hn h] at this;exact this
def zDA (x:Rat)(h:zbr x):zcV x=.tuple #[.string ((if decide (x.num<0) then ⟨#[45]⟩++zai x.num.natAbs else zai x.num.natAbs)++(if x.den=1 then ⟨#[]⟩ else (⟨#[47]⟩++zai x.den))),.int .i64 0]:=by
 rw[ziX h,ztr]
def zDB (neg:Bool)(num den:ByteArray)(w:World)(hn:num.size<=maxLen)(hd:den.size<=maxLen) :
  Calls prog 142 #[.bool neg,.string num,.string den] w (zab (zhd neg num den) w):=by
 have va:=rVal num hn;have vb:=rVal den hd;unfold zhd;cases ha:zao num
 ·rw[ha] at va
  exact zAA neg num den w (zHd va)
 cases hb:zao den
 ·rw[ha] at va
  rw[hb] at vb;exact zAB neg num den w (zHd va) (zHd vb)
 rw[ha] at va;rw[hb] at vb;have hz:=(zem den hb).1
 by_cases h0:nv den=0
 ·rw[h0] at hz ⊢
  exact zAC neg num den w (zHd va) (zHd vb) (by simpa using hz)
 simp only[h0,Bool.and_self,Bool.true_and,decide_false,Bool.not_false,if_true];obtain⟨en,ln⟩:=zbZ num ha;obtain⟨ed,ld⟩:=zbZ den hb;have hg0:Nat.gcd (nv num) (nv den)≠0:=by have:=Nat.gcd_pos_of_pos_right (nv num) (Nat.pos_of_ne_zero h0);omega
 have hgl:Nat.gcd (nv num) (nv den)<=nv den:=Nat.le_of_dvd (Nat.pos_of_ne_zero h0) (Nat.gcd_dvd_right _ _);have hgd:nDigits (Nat.gcd (nv num) (nv den))<=1000:=zqam (zbA hgl) ld;have GC:=zHj num den ha hb;have D1:=rDiv (nv num) (Nat.gcd (nv num) (nv den)) ln hgd hg0;have D2:=rDiv (nv den) (Nat.gcd (nv num) (nv den)) ld hgd hg0;rw[<- en] at D1;rw[<- ed] at D2;have f:(den.toList==[48])=false:=by rw[hz];simpa using h0
 have e1:=zpU neg (nv num) (nv den) h0;have e2:=zpV neg (nv num) (nv den) h0;have e3:=zuZ neg (nv num) (nv den) h0;have s1:=zcs (nv num/Nat.gcd (nv num) (nv den));have s2:=zcs (nv den/Nat.gcd (nv num) (nv den))
 by_cases l1:nDigits (nv num/Nat.gcd (nv num) (nv den))<=400
 ·by_cases l2:nDigits (nv den/Nat.gcd (nv num) (nv den))<=400
  ·have hs:zbr (mkRat (sg neg (nv num)) (nv den)):=⟨by rw[e1];exact l1,by rw[e2];exact l2⟩
   have hq:(nv num/Nat.gcd (nv num) (nv den)=0)↔nv num=0:=by
    constructor
    ·intro h
     have:=Nat.div_mul_cancel (Nat.gcd_dvd_left (nv num) (nv den));rw[h] at this;omega
    intro h;rw[h];simp
   have zz:=zero_str' (nv num/Nat.gcd (nv num) (nv den))
   have zc:(neg && !decide (nv num/Nat.gcd (nv num) (nv den)=0))=decide ((mkRat (sg neg (nv num)) (nv den)).num<0):=by
    rw[Bool.eq_iff_iff,zqca,e3];simp[hq]
   rw[zDA _ hs,e1,e2,<- zc];have oo:=(zgJ (nv den/Nat.gcd (nv num) (nv den))).1
   by_cases o1:nv den/Nat.gcd (nv num) (nv den)=1
   ·have:=zDz neg (!decide (nv num/Nat.gcd (nv num) (nv den)=0)) num den _ _ _ _ _ w (zHd va) (zHd vb) f (zHd GC) (zHd D1) (zHd D2) (by omega) (by omega) (by rw[zz.1,Bool.not_not]) zz.2 (by rw[oo];simpa using o1)
    rw[if_pos o1];rw[show ∀ a:ByteArray,a++⟨#[]⟩=a from fun a=>by apply ByteArray.ext;apply Array.ext';rw[zln];simp];exact this
   have:=zAD neg (!decide (nv num/Nat.gcd (nv num) (nv den)=0)) num den _ _ _ _ _ w (zHd va) (zHd vb) f (zHd GC) (zHd D1) (zHd D2) (by omega) (by omega) (by rw[zz.1,Bool.not_not]) zz.2 (by rw[oo];simpa using o1);rw[if_neg o1,<- ByteArray.append_assoc];exact this
  have hs:¬ zbr (mkRat (sg neg (nv num)) (nv den)):=fun h=>l2 (by have:=h.2;rw[e2] at this;exact this);rw[zgE hs];exact zxZ neg num den _ _ _ _ _ w (zHd va) (zHd vb) f (zHd GC) (zHd D1) (zHd D2) (by omega) (by omega)
 have hs:¬ zbr (mkRat (sg neg (nv num)) (nv den)):=fun h=>l1 (by have:=h.1;rw[e1] at this;exact this);rw[zgE hs];exact zxY neg num den _ _ _ _ _ w (zHd va) (zHd vb) f (zHd GC) (zHd D1) (zHd D2) (by omega)
def zAE (m n:Nat)(w:World)(hm:nDigits m<=400)(hn:nDigits n<=400) :
  Calls prog 138 #[.string (zai m),.string (zai n)] w (zab (.string (zai (m*n))) w):=by
 have d:=zbU hm hn;refine zxU _ _ _ w (zHd fun w=>?_);have:=zHe (zai m) (zai n) w (zaV m (by omega)) (zaV n (by omega));rw[zvq m n (by omega) (by omega) (by omega)] at this;exact this
def zDC (p q:Bool)(A B C:ByteArray)(w:World)(h:(p==q)=true)(AD:Hid (∀ w,Calls prog 174 #[.string A,.string B] w (zab (.tuple #[.string C,.int .i64 0]) w))) :
  Calls prog 137 #[.bool p,.string A,.bool q,.string B] w (zab (.tuple #[.bool p,.string C]) w):=by
 go_enter func137,ntmps137;go_wp2_with fail;refine(AD.out _).mono ?_;exact zQaj
def zDD (p q:Bool)(A B C:ByteArray)(c:Int)(w:World)(h:(p==q)=false)(hc:0<=c)(CM:Hid (∀ w,Calls prog 175 #[.string A,.string B] w (zob c w)))(SU:Hid (∀ w,Calls prog 176 #[.string A,.string B] w (zab (.tuple #[.string C,.int .i64 0]) w))) :
  Calls prog 137 #[.bool p,.string A,.bool q,.string B] w (zab (.tuple #[.bool p,.string C]) w):=by
 go_enter func137,ntmps137;go_wp2_with fail;refine(CM.out _).mono ?_;rintro e w1 ⟨rfl,hg⟩;have G1:=zHd hg;clear hg;go_wp2_with fail;refine(SU.out _).mono ?_;exact zQaE
def zDE (p q:Bool)(A B C:ByteArray)(c:Int)(w:World)(h:(p==q)=false)(hc:¬ 0<=c)(CM:Hid (∀ w,Calls prog 175 #[.string A,.string B] w (zob c w)))(SU:Hid (∀ w,Calls prog 176 #[.string B,.string A] w (zab (.tuple #[.string C,.int .i64 0]) w))) :
  Calls prog 137 #[.bool p,.string A,.bool q,.string B] w (zab (.tuple #[.bool q,.string C]) w):=by
 go_enter func137,ntmps137;go_wp2_with fail;refine(CM.out _).mono ?_;rintro e w1 ⟨rfl,hg⟩;have G1:=zHd hg;clear hg;go_wp2_with fail;refine(SU.out _).mono ?_;exact zQaE
def zfF (p:Bool)(m:Nat)(q:Bool)(n:Nat):Bool×Nat:=if p==q then (p,m+n) else if m<n then (q,n-m) else (p,m-n)
def zzd (p:Bool)(m:Nat)(q:Bool)(n:Nat):sg (zfF p m q n).1 (zfF p m q n).2=sg p m+sg q n:=by
 unfold zfF
 by_cases h:p=q
 subst h;simp only[BEq.rfl,if_true];exact zyX p m n;rw[if_neg (by simpa using h)];split
 ·rename_i hl;exact zyY p q m n h hl
 rename_i hl;exact zyZ p q m n h hl
def zya (p:Bool)(m:Nat)(q:Bool)(n:Nat)(hm:nDigits m<=800)(hn:nDigits n<=800):nDigits (zfF p m q n).2<=801:=by
 unfold zfF;split;exact zhZ m n 800 hm hn;split
 ·have:=zbA (Nat.sub_le n m);exact zqam this (by omega)
 have:=zbA (Nat.sub_le m n);exact zqam this (by omega)
def zvH (p:Bool)(m:Nat)(q:Bool)(n:Nat)(w:World)(hm:nDigits m<=800)(hn:nDigits n<=800) :
  Calls prog 137 #[.bool p,.string (zai m),.bool q,.string (zai n)] w (zab (.tuple #[.bool (zfF p m q n).1,.string (zai (zfF p m q n).2)]) w):=by
 unfold zfF;cases h:(p==q)
 ·simp only[Bool.false_eq_true,if_false]
  have cm:=fun w=>zGD (zai m) (zai n) w (zaV m (by omega)) (zaV n (by omega));rw[zod m n (by omega) (by omega)] at cm
  by_cases hl:m<n
  ·rw[if_pos hl]
   have su:=fun w=>zvm (zai n) (zai m) w (zaV n (by omega)) (zaV m (by omega));rw[zoe n m (by omega) (by omega) (by omega)] at su;exact zDE p q _ _ _ _ w h (by have:=(zfn m n).2 hl;omega) (zHd cm) (zHd su)
  rw[if_neg hl];have su:=fun w=>zvm (zai m) (zai n) w (zaV m (by omega)) (zaV n (by omega));rw[zoe m n (by omega) (by omega) (by omega)] at su;exact zDD p q _ _ _ _ w h (by have:=(zfn m n);omega) (zHd cm) (zHd su)
 simp only[if_true];have d:=zhZ m n 800 hm hn;have ad:=fun w=>zGI (zai m) (zai n) w (zaV m (by omega)) (zaV n (by omega));rw[zvi _ _ (zai (m+n)) (zaZ _ (by omega)) (zaZ _ (by omega)) (zaZ _ (by omega)) (by rw[zaS,zaS,zaS])] at ad;exact zDC p q _ _ _ w h (zHd ad)
def zdy (a:ByteArray)(p:Bool)(A B:ByteArray)(k:Bool):Prop:=∀ w,Calls prog 136 #[.string a] w (zab (.tuple #[.bool p,.string A,.string B,.bool k]) w)
def ztt (a:ByteArray)(p:Bool)(A B:ByteArray)(k:Bool)(w:World)(R:Hid (zdy a p A B k)) :
  Calls prog 93 #[.string a] w (zab (.bool k) w):=by
 go_enter func93,ntmps93;go_wp2_with fail;refine(R.out _).mono ?_;exact zQau
def zDF (a b:ByteArray)(p q:Bool)(A B C D:ByteArray)(X Y c:ByteArray)(ng:Bool)(w:World)(R1:Hid (zdy a p A B true))(R2:Hid (zdy b q C D true))(T1:Hid (∀ w,Calls prog 138 #[.string A,.string D] w (zab (.string X) w)))(T2:Hid (∀ w,Calls prog 138 #[.string C,.string B] w (zab (.string Y) w)))(SM:Hid (∀ w,Calls prog 137 #[.bool p,.string X,.bool (!q),.string Y] w (zab (.tuple #[.bool ng,.string c]) w)))(f:(c.toList==[48])=true) :
  Calls prog 94 #[.string a,.string b] w (zab (.int .i64 0) w):=by
 exact zQar
def zDG (a b:ByteArray)(p q:Bool)(A B C D:ByteArray)(X Y c:ByteArray)(ng:Bool)(w:World)(R1:Hid (zdy a p A B true))(R2:Hid (zdy b q C D true))(T1:Hid (∀ w,Calls prog 138 #[.string A,.string D] w (zab (.string X) w)))(T2:Hid (∀ w,Calls prog 138 #[.string C,.string B] w (zab (.string Y) w)))(SM:Hid (∀ w,Calls prog 137 #[.bool p,.string X,.bool (!q),.string Y] w (zab (.tuple #[.bool ng,.string c]) w)))(f:(c.toList==[48])=false) :
  Calls prog 94 #[.string a,.string b] w (zab (.int .i64 (if ng then -1 else 1)) w):=by
 cases ng
 all_goals
  exact zQar
def zHk (a b:ByteArray)(p q:Bool)(A B C D:ByteArray)(X Y Z c S:ByteArray)(ng:Bool)(E:Int)(w:World)(R1:Hid (zdy a p A B true))(R2:Hid (zdy b q C D true))(T1:Hid (∀ w,Calls prog 138 #[.string A,.string D] w (zab (.string X) w)))(T2:Hid (∀ w,Calls prog 138 #[.string C,.string B] w (zab (.string Y) w)))(SM:Hid (∀ w,Calls prog 137 #[.bool p,.string X,.bool q,.string Y] w (zab (.tuple #[.bool ng,.string c]) w)))(T3:Hid (∀ w,Calls prog 138 #[.string B,.string D] w (zab (.string Z) w)))(MK:Hid (∀ w,Calls prog 142 #[.bool ng,.string c,.string Z] w (zab (.tuple #[.string S,.int .i64 E]) w))) :
  Calls prog 97 #[.string a,.string b] w (zab (.tuple #[.string S,.int .i64 E]) w):=by
 go_enter func97,ntmps97;go_wp2_with fail;refine(R1.out _).mono ?_;rintro e w1 ⟨rfl,hg⟩;have G1:=zHd hg;clear hg;go_wp2_with fail;refine(R2.out _).mono ?_;rintro e w2 ⟨rfl,hg⟩;have G2:=zHd (zaa G1.out hg);clear hg G1;go_wp2_with fail;refine(T1.out _).mono ?_;rintro e w3 ⟨rfl,hg⟩;have G3:=zHd (zaa G2.out hg);clear hg G2;go_wp2_with fail;refine(T2.out _).mono ?_;rintro e w4 ⟨rfl,hg⟩;have G4:=zHd (zaa G3.out hg);clear hg G3;go_wp2_with fail;refine(SM.out _).mono ?_;rintro e w5 ⟨rfl,hg⟩;have G5:=zHd (zaa G4.out hg);clear hg G4;go_wp2_with fail;refine(T3.out _).mono ?_;rintro e w6 ⟨rfl,hg⟩;have G6:=zHd (zaa G5.out hg);clear hg G5;go_wp2_with fail;refine(MK.out _).mono ?_;rintro e w7 ⟨rfl,hg⟩;have G7:=zHd (zaa G6.out hg);clear hg G6;go_wp2;go_ret2;exact⟨rfl,G7.out⟩
def zHl (a b:ByteArray)(p q:Bool)(A B C D:ByteArray)(X Y S:ByteArray)(E:Int)(w:World)(R1:Hid (zdy a p A B true))(R2:Hid (zdy b q C D true))(T1:Hid (∀ w,Calls prog 138 #[.string A,.string C] w (zab (.string X) w)))(T2:Hid (∀ w,Calls prog 138 #[.string B,.string D] w (zab (.string Y) w)))(MK:Hid (∀ w,Calls prog 142 #[.bool (p != q),.string X,.string Y] w (zab (.tuple #[.string S,.int .i64 E]) w))) :
  Calls prog 98 #[.string a,.string b] w (zab (.tuple #[.string S,.int .i64 E]) w):=by
 go_enter func98,ntmps98;exact zQat
def zHm (a b:ByteArray)(p q:Bool)(A B C D:ByteArray)(X Y S:ByteArray)(E:Int)(w:World)(R1:Hid (zdy a p A B true))(R2:Hid (zdy b q C D true))(f:(C.toList==[48])=false)(T1:Hid (∀ w,Calls prog 138 #[.string A,.string D] w (zab (.string X) w)))(T2:Hid (∀ w,Calls prog 138 #[.string B,.string C] w (zab (.string Y) w)))(MK:Hid (∀ w,Calls prog 142 #[.bool (p != q),.string X,.string Y] w (zab (.tuple #[.string S,.int .i64 E]) w))) :
  Calls prog 141 #[.string a,.string b] w (zab (.tuple #[.string S,.int .i64 E]) w):=by
 go_enter func141,ntmps141;exact zQat
def zHn (a:ByteArray)(p:Bool)(A B S:ByteArray)(E:Int)(w:World)(R1:Hid (zdy a p A B true))(MK:Hid (∀ w,Calls prog 142 #[.bool (!p),.string A,.string B] w (zab (.tuple #[.string S,.int .i64 E]) w))) :
  Calls prog 178 #[.string a] w (zab (.tuple #[.string S,.int .i64 E]) w):=by
 go_enter func178,ntmps178;go_wp2_with fail;refine(R1.out _).mono ?_;rintro e w1 ⟨rfl,hg⟩;have G1:=zHd hg;clear hg;go_wp2_with fail;refine(MK.out _).mono ?_;exact zQaE
def zHo (a b c S:ByteArray)(E:Int)(w:World)(NG:Hid (∀ w,Calls prog 178 #[.string b] w (zab (.tuple #[.string c,.int .i64 0]) w)))(VA:Hid (∀ w,Calls prog 93 #[.string a] w (zab (.bool true) w)))(AD:Hid (∀ w,Calls prog 97 #[.string a,.string c] w (zab (.tuple #[.string S,.int .i64 E]) w))) :
  Calls prog 140 #[.string a,.string b] w (zab (.tuple #[.string S,.int .i64 E]) w):=by
 go_enter func140,ntmps140;go_wp2_with fail;refine(NG.out _).mono ?_;rintro e w1 ⟨rfl,hg⟩;have G1:=zHd hg;clear hg;go_wp2_with fail;refine(VA.out _).mono ?_;rintro e w2 ⟨rfl,hg⟩;have G2:=zHd (zaa G1.out hg);clear hg G1;go_wp2_with fail;refine(AD.out _).mono ?_;exact zQaF
open Go.RowKit
open Go.Lib (nDigits decDigits)
def zch {a:ByteArray}{x:Rat}(h:zaA a x):zdy a (sgn x) (zai x.num.natAbs) (zai x.den) true:=fun w=>zAz h w
def zAF {a:ByteArray}(h:zeo a)(ha:a.size<=maxLen):zdy a false ⟨#[]⟩ ⟨#[]⟩ false:=fun w=>zDy h ha w
def zqH {a:ByteArray}{x:Rat}(h:zaA a x)(w:World):Calls prog 93 #[.string a] w (zab (.bool true) w):=ztt a _ _ _ _ w (zHd (zch h))
def zDH {a:ByteArray}(h:zeo a)(ha:a.size<=maxLen)(w:World):Calls prog 93 #[.string a] w (zab (.bool false) w):=ztt a _ _ _ _ w (zHd (zAF h ha))
def rtm (m n:Nat)(hm:nDigits m<=400)(hn:nDigits n<=400):Hid (∀ w,Calls prog 138 #[.string (zai m),.string (zai n)] w (zab (.string (zai (m*n))) w)):=zHd fun w=>zAE m n w hm hn
def rmk (neg:Bool)(n d:Nat)(hn:nDigits n<=1000)(hd:nDigits d<=1000)(h0:d≠0){z:Rat}(hz:mkRat (sg neg n) d=z){S:ByteArray}{E:Int}(e:zcV z=.tuple #[.string S,.int .i64 E]) :
  Hid (∀ w,Calls prog 142 #[.bool neg,.string (zai n),.string (zai d)] w (zab (.tuple #[.string S,.int .i64 E]) w)):=zHd fun w=>by
 have:=zDB neg (zai n) (zai d) w (zaV _ hn) (zaV _ hd);unfold zhd at this;rw[zaZ n hn,zaZ d hd,zaS,zaS] at this;simp only[Bool.and_self,Bool.true_and,h0,decide_false,Bool.not_false,if_true,hz,e] at this;exact this
def zDI (x y:Rat):sg (zfF (sgn x) (x.num.natAbs*y.den) (sgn y) (y.num.natAbs*x.den)).1 (zfF (sgn x) (x.num.natAbs*y.den) (sgn y) (y.num.natAbs*x.den)).2=sg (sgn x) (x.num.natAbs*y.den)+sg (sgn y) (y.num.natAbs*x.den):=zzd _ _ _ _
def zDJ (q:Bool)(n:Nat):sg (!q) n = - sg q n:=by cases q <;> simp[sg]
def zLr (x y:Rat):zcz x y=if (zfF (sgn x) (x.num.natAbs*y.den) (!sgn y) (y.num.natAbs*x.den)).2=0 then 0 else if (zfF (sgn x) (x.num.natAbs*y.den) (!sgn y) (y.num.natAbs*x.den)).1 then -1 else 1:=by
 have h:=zzd (sgn x) (x.num.natAbs*y.den) (!sgn y) (y.num.natAbs*x.den);rw[zDJ,zoc,zoc,<- zei,<- zei] at h;generalize zfF (sgn x) (x.num.natAbs*y.den) (!sgn y) (y.num.natAbs*x.den)=r at *;obtain⟨ng,c⟩:=r;simp only at h ⊢;unfold zcz;simp only[Rat.lt_iff];generalize x.num*(y.den:Int)=u at *;generalize y.num*(x.den:Int)=v at *;unfold sg at h;cases ng <;> simp only[Bool.false_eq_true,if_false,if_true] at h ⊢
 all_goals
  split <;> (try split) <;> (try split) <;> omega
def zvI {a b:ByteArray}{x y:Rat}(ha:zaA a x)(hb:zaA b y)(w:World):Calls prog 94 #[.string a,.string b] w (zab (.int .i64 (zcz x y)) w):=by
 have hx:=ha.short;have hy:=hb.short;have d1:=zbU hx.1 hy.2;have d2:=zbU hy.1 hx.2;have SM:=zHd fun w=>zvH (sgn x) (x.num.natAbs*y.den) (!sgn y) (y.num.natAbs*x.den) w d1 d2;have e:=zLr x y;have f:=(zero_str' (zfF (sgn x) (x.num.natAbs*y.den) (!sgn y) (y.num.natAbs*x.den)).2).1
 by_cases h0:(zfF (sgn x) (x.num.natAbs*y.den) (!sgn y) (y.num.natAbs*x.den)).2=0
 ·rw[if_pos h0] at e
  rw[e];exact zDF a b _ _ _ _ _ _ _ _ _ _ w (zHd (zch ha)) (zHd (zch hb)) (rtm _ _ hx.1 hy.2) (rtm _ _ hy.1 hx.2) SM (by rw[f];simpa using h0)
 rw[if_neg h0] at e;rw[e];exact zDG a b _ _ _ _ _ _ _ _ _ _ w (zHd (zch ha)) (zHd (zch hb)) (rtm _ _ hx.1 hy.2) (rtm _ _ hy.1 hx.2) SM (by rw[f];simpa using h0)
def zph {a b:ByteArray}{x y:Rat}(ha:zaA a x)(hb:zaA b y)(w:World):Calls prog 97 #[.string a,.string b] w (zab (zcV (x+y)) w):=by
 have hx:=ha.short;have hy:=hb.short;have d1:=zbU hx.1 hy.2;have d2:=zbU hy.1 hx.2;have d3:=zbU hx.2 hy.2;have d4:=zya (sgn x) (x.num.natAbs*y.den) (sgn y) (y.num.natAbs*x.den) d1 d2;have SM:=zHd fun w=>zvH (sgn x) (x.num.natAbs*y.den) (sgn y) (y.num.natAbs*x.den) w d1 d2;obtain⟨S,E,e⟩:=zbx (x+y);have MK:=rmk (zfF (sgn x) (x.num.natAbs*y.den) (sgn y) (y.num.natAbs*x.den)).1 (zfF (sgn x) (x.num.natAbs*y.den) (sgn y) (y.num.natAbs*x.den)).2 (x.den*y.den) (by omega) (by omega) (zge x y) (zgK x y _ (zDI x y)) e;rw[e];exact zHk a b _ _ _ _ _ _ _ _ _ _ _ _ _ w (zHd (zch ha)) (zHd (zch hb)) (rtm _ _ hx.1 hy.2) (rtm _ _ hy.1 hx.2) SM (rtm _ _ hx.2 hy.2) MK
def zHp {a b:ByteArray}{x y:Rat}(ha:zaA a x)(hb:zaA b y)(w:World):Calls prog 98 #[.string a,.string b] w (zab (zcV (x*y)) w):=by
 have hx:=ha.short;have hy:=hb.short;have d1:=zbU hx.1 hy.1;have d2:=zbU hx.2 hy.2;obtain⟨S,E,e⟩:=zbx (x*y);have MK:=rmk (sgn x != sgn y) (x.num.natAbs*y.num.natAbs) (x.den*y.den) (by omega) (by omega) (zge x y) (zmG x y) e;rw[e];exact zHl a b _ _ _ _ _ _ _ _ _ _ w (zHd (zch ha)) (zHd (zch hb)) (rtm _ _ hx.1 hy.1) (rtm _ _ hx.2 hy.2) MK
def zHq {a b:ByteArray}{x y:Rat}(ha:zaA a x)(hb:zaA b y)(h:y.num≠0)(w:World):Calls prog 141 #[.string a,.string b] w (zab (zcV (x/y)) w):=by
 have hx:=ha.short;have hy:=hb.short;have d1:=zbU hx.1 hy.2;have d2:=zbU hx.2 hy.1;obtain⟨S,E,e⟩:=zbx (x/y);have MK:=rmk (sgn x != sgn y) (x.num.natAbs*y.den) (x.den*y.num.natAbs) (by omega) (by omega) (Nat.mul_ne_zero x.den_nz (by omega)) (zmH x y h) e;rw[e];exact zHm a b _ _ _ _ _ _ _ _ _ _ w (zHd (zch ha)) (zHd (zch hb)) (by rw[(zero_str' _).1];simpa using h) (rtm _ _ hx.1 hy.2) (rtm _ _ hx.2 hy.1) MK
def zHr {a:ByteArray}{x:Rat}(ha:zaA a x)(w:World):Calls prog 178 #[.string a] w (zab (.tuple #[.string (zeE (-x)),.int .i64 0]) w):=by
 have hx:=ha.short;have s1:=hx.1;have s2:=hx.2;have ez:mkRat (sg (!sgn x) x.num.natAbs) x.den = -x:=by rw[zDJ,<- zei,<- Rat.neg_mkRat,Rat.mkRat_self]
 exact zHn a _ _ _ _ _ w (zHd (zch ha)) (rmk (!sgn x) x.num.natAbs x.den (by omega) (by omega) x.den_nz ez (ziX (zmI hx)))
def zLs {a:ByteArray}{x:Rat}(ha:zaA a x):zaA (zeE (-x)) (-x):=⟨zmI ha.short,rfl⟩
def zHs {a b:ByteArray}{x y:Rat}(ha:zaA a x)(hb:zaA b y)(w:World):Calls prog 140 #[.string a,.string b] w (zab (zcV (x-y)) w):=by
 rw[Rat.sub_eq_add_neg];obtain⟨S,E,e⟩:=zbx (x + -y);have AD:=fun w=>zph ha (zLs hb) w;rw[e] at AD ⊢;exact zHo a b _ _ _ w (zHd fun w=>zHr hb w) (zHd fun w=>zqH ha w) (zHd AD)
open Go.RowKit
open Go.Lib (nDigits decDigits)
def zdg:ByteArray:=⟨#[105,110,102]⟩
def zgz:ByteArray:=⟨#[45,105,110,102]⟩
def zdM:ByteArray:=⟨#[48]⟩
def zkr:ByteArray:=⟨#[49]⟩
abbrev Ext:=Sum Bool Rat
def IsE (a:ByteArray):Ext->Prop
 | .inl true=>a=zdg
 | .inl false=>a=zgz
 | .inr x=>zaA a x
def zbI:Ext->Value
 | .inl true=>.tuple #[.string zdg,.int .i64 0]
 | .inl false=>.tuple #[.string zgz,.int .i64 0]
 | .inr x=>zcV x
def zgM {a:ByteArray}{v:Ext}(h:IsE a v):zbI v=.tuple #[.string a,.int .i64 0]:=by
 rcases v with(_|_)|x;cases h;rfl;cases h;rfl;exact zhA h
def zsq:∀ x,¬ zaA zdg x:=fun x h=>by
 have h1:=(zmt h).n
 revert h1
 decide +kernel
def zsr:∀ x,¬ zaA zgz x:=fun x h=>by
 have h1:=(zmt h).n
 revert h1
 decide +kernel
def zze:zgz≠zdg:=by decide +kernel
def IsE.uniq {a:ByteArray}{u v:Ext}(h:IsE a u)(k:IsE a v):u=v:=by
 rcases u with(_|_)|x <;> rcases v with(_|_)|y;rfl;exact absurd (h.symm.trans k) zze;cases h;exact absurd k (zsr y);exact absurd (k.symm.trans h) zze;rfl;cases h;exact absurd k (zsq y);cases k;exact absurd h (zsr x);cases k;exact absurd h (zsq x);rw[zaA.uniq h k]
def IsE.same {a b:ByteArray}{v:Ext}(h:IsE a v)(k:IsE b v):a=b:=by
 rcases v with(_|_)|x;exact h.trans k.symm;exact h.trans k.symm;exact h.eq.trans k.eq.symm
def IsE.len {a:ByteArray}{v:Ext}(h:IsE a v):a.size<=maxLen:=by
 rcases v with(_|_)|x;cases h;decide;cases h;decide;exact zkO h
def zof:IsE zdM (.inr 0):=zlp
def zhG:IsE zkr (.inr 1):=⟨by decide +kernel,by decide +kernel⟩
def topE:IsE zdg (.inl true):=rfl
def lowE:IsE zgz (.inl false):=rfl
def zAG:Ext->Int
 | .inl true=>1
 | .inl false => -1
 | .inr _=>0
def cmpI (m n:Int):Int:=if m<n then -1 else if n<m then 1 else 0
def zbu:Ext->Ext->Int
 | .inr x,.inr y=>zcz x y
 | u,v=>cmpI (zAG u) (zAG v)
def zDK (x:Rat):zcz x x=0:=by unfold zcz;rw[if_neg (Rat.lt_irrefl),if_neg (Rat.lt_irrefl)]
def zfG (x y:Rat):zcz x y<0↔x<y:=by
 unfold zcz;split
 ·simp_all
 split <;> simp_all
def zmM (x y:Rat):zcz y x = -zcz x y:=by
 unfold zcz
 by_cases h:x<y
 rw[if_pos h,if_neg (Rat.not_lt.2 (Rat.le_of_lt h)),if_pos h];rfl
 by_cases k:y<x
 ·rw[if_pos k,if_neg h,if_pos k]
 rw[if_neg k,if_neg h,if_neg h,if_neg k];rfl
def zpi (x y:Rat):0<zcz x y↔y<x:=by
 rw[<- zfG,zmM];omega
def ztu (x y:Rat):zcz x y=0↔x=y:=by
 constructor
 ·intro h
  have h1:¬ x<y:=fun k=>by have:=(zfG x y).2 k;omega
  have h2:¬ y<x:=fun k=>by have:=(zpi x y).2 k;omega
  exact Rat.le_antisymm (Rat.not_lt.1 h2) (Rat.not_lt.1 h1)
 rintro rfl;exact zDK x
def zog (x y:Rat):zcz x y<=0↔x<=y:=by
 rw[<- Rat.not_lt,<- zpi];omega
def zeT (u v:Ext):zbu v u = -zbu u v:=by
 rcases u with(_|_)|x <;> rcases v with(_|_)|y
 all_goals first|exact zmM x y|rfl
def zfH (u v:Ext):zbu u v=0↔u=v:=by
 rcases u with(_|_)|x <;> rcases v with(_|_)|y
 all_goals first
  | exact⟨fun h=>zqbz _ ((ztu x y).1 h),fun h=>(ztu x y).2 (Sum.inr.inj h)⟩
  | exact⟨fun h=>absurd (show(-1:Int)=0 from h) (by decide),fun h=>by cases h⟩
  | exact⟨fun h=>absurd (show(1:Int)=0 from h) (by decide),fun h=>by cases h⟩
  | exact⟨fun _=>rfl,fun _=>rfl⟩
def zlx (u v t:Ext)(h:zbu u v<=0)(k:zbu v t<=0):zbu u t<=0:=by
 rcases u with(_|_)|x <;> rcases v with(_|_)|y <;> rcases t with(_|_)|z
 all_goals first
  | exact(zog x z).2 (zqar ((zog x y).1 h) ((zog y z).1 k))
  | exact absurd (show(1:Int)<=0 from h) (by decide)
  | exact absurd (show(1:Int)<=0 from k) (by decide)
  | exact(show(-1:Int)<=0 by decide)
  | exact(show(0:Int)<=0 by decide)
def zcY (k:Int):Bool:=decide (k=1) || (decide (k=2) || decide (k=3))
def zaq (k:Int):Ext->Bool
 | .inl true=>zcY k
 | .inl false=>decide (k=1)
 | .inr x=>decide (k=1) || ((decide (k=2) || decide (k=3))&&decide (0<=x))
def zfc (k:Int):Ext->Bool
 | .inl _=>false
 | .inr x=>decide (k=1) || ((decide (k=2) || decide (k=3))&&decide (0<x))
def zic (k:Int):Ext:=if k=1 then .inl true else .inr 0
def ziq (k:Int):Ext:=if k=1 then .inr 0 else .inr 1
def zct (u v:Ext):Ext:=if zbu v u<0 then v else u
def zbR (u v:Ext):Ext:=if 0<zbu v u then v else u
def zco:Ext->Ext->Ext
 | .inr x,.inr y=>.inr (x+y)
 | .inl true,_=>.inl true
 | _,.inl true=>.inl true
 | _,_=>.inl false
def zdr:Ext->Ext->Ext
 | .inr x,.inr y=>.inr (x+y)
 | _,_=>.inl true
def zaP (u v:Ext):Ext:=if u=.inr 0∨v=.inr 0 then .inr 0 else match u,v with
 | .inr x,.inr y=>.inr (x*y)
 | _,_=>.inl true
def zcI (k:Int)(u v:Ext):Ext:=if k=1 then zct u v else if k=2 then zdr u v else zbR u v
def zbi (k:Int)(u v:Ext):Ext:=if k=1 then zco u v else zaP u v
def zcJ (k:Int)(u:Ext):Ext :=
 if k=1 then (if zbu u (.inr 0)<0 then .inl false else .inr 0)
 else if k=2 then (match u with
  | .inr x=>if x<1 then .inr (1/(1-x)) else .inl true
  | _=>.inl true)
 else (if 0<zbu u (.inr 1) then .inl true else .inr 1)
def zbV (k:Int)(u v:Ext):Int:=if k=1 then zbu u v else zbu v u
structure Val (k:Int)(a:ByteArray)(v:Ext):Prop where
 e:IsE a v
 has:zaq k v=true
structure Wgt (k:Int)(a:ByteArray)(v:Ext):Prop where
 e:IsE a v
 has:zfc k v=true
def zqI (k:Int)(a:ByteArray):Prop:=∀ v,IsE a v->zaq k v=false
def zuO (k:Int)(a:ByteArray):Prop:=∀ v,IsE a v->zfc k v=false
def zDL (k:Int)(a:ByteArray):(∃ v,Val k a v)∨zqI k a:=by
 by_cases h:∃ v,Val k a v
 exact .inl h;refine .inr fun v hv=>?_;cases hk:zaq k v;rfl;exact absurd ⟨v,hv,hk⟩ h
def zDM (k:Int)(a:ByteArray):(∃ v,Wgt k a v)∨zuO k a:=by
 by_cases h:∃ v,Wgt k a v
 exact .inl h;refine .inr fun v hv=>?_;cases hk:zfc k v;rfl;exact absurd ⟨v,hv,hk⟩ h
def zKd {k:Int}{v:Ext}(h:zfc k v=true):zaq k v=true:=by
 rcases v with(_|_)|x;cases h;cases h;unfold zfc at h;unfold zaq;simp only[Bool.or_eq_true,zqbb,zqca] at h ⊢;rcases h with h|⟨h1,h2⟩
 exact .inl h;exact .inr ⟨h1,Rat.le_of_lt h2⟩
def Wgt.val {k:Int}{a:ByteArray}{v:Ext}(h:Wgt k a v):Val k a v:=⟨h.e,zKd h.has⟩
def zss {k:Int}(h1:k≠1)(h2:k≠2)(h3:k≠3)(v:Ext):zaq k v=false:=by
 rcases v with(_|_)|x <;> simp[zaq,zcY,h1,h2,h3]
def Val.kind {k:Int}{a:ByteArray}{v:Ext}(h:Val k a v):k=1∨k=2∨k=3:=by
 by_cases h1:k=1
 exact .inl h1
 by_cases h2:k=2
 exact .inr (.inl h2)
 by_cases h3:k=3
 exact .inr (.inr h3);have:=zss h1 h2 h3 v;rw[h.has] at this;cases this
def zcD (v:Ext):zaq 2 v=zaq 3 v:=by rcases v with(_|_)|x <;> rfl
def zzf (v:Ext):zfc 2 v=zfc 3 v:=by rcases v with(_|_)|x <;> rfl
def zoh (v:Ext):zaq 1 v=true:=by rcases v with(_|_)|x <;> rfl
def zaE (v:Ext)(h:zaq 2 v=true):v=.inl true∨∃ x,v=.inr x/\0<=x:=by
 rcases v with(_|_)|x;cases h;exact .inl rfl;refine .inr ⟨x,rfl,?_⟩;simpa [zaq] using h
open Go.RowKit
open Go.Lib (nDigits decDigits)
def zdh (n:Nat)(x:Rat):Prop:=nDigits x.num.natAbs<=n/\nDigits x.den<=n
def zdh.mono {m n:Nat}{x:Rat}(h:zdh m x)(k:m<=n):zdh n x:=⟨zqam h.1 k,zqam h.2 k⟩
def zHt (z:Int)(d:Nat)(hd:d≠0):(mkRat z d).num.natAbs<=z.natAbs/\(mkRat z d).den<=d:=by
 have e:sg (decide (z<0)) z.natAbs=z:=by
  unfold sg
  by_cases h:z<0
  rw[if_pos (by simpa using h)];omega;rw[if_neg (by simpa using h)];omega
 have h1:=zpU (decide (z<0)) z.natAbs d hd;have h2:=zpV (decide (z<0)) z.natAbs d hd;rw[e] at h1 h2;rw[h1,h2];exact⟨Nat.div_le_self _ _,Nat.div_le_self _ _⟩
def zoi (z:Int)(d n:Nat)(hd:d≠0)(h1:nDigits z.natAbs<=n)(h2:nDigits d<=n):zdh n (mkRat z d):=by
 obtain⟨k1,k2⟩:=zHt z d hd;exact⟨zqam (zbA k1) h1,zqam (zbA k2) h2⟩
def dig_mul' {x y m n:Nat}(hx:nDigits x<=m)(hy:nDigits y<=n):nDigits (x*y)<=m+n:=by have:=zoH x y;omega
def zDN (x y:Rat):x.den*y.den≠0:=Nat.mul_ne_zero x.den_nz y.den_nz
def zHu {m n:Nat}{x y:Rat}(hx:zdh m x)(hy:zdh n y):zdh (m+n) (x*y):=by
 rw[<- zmG x y];refine zoi _ _ _ (zDN x y) ?_ (dig_mul' hx.2 hy.2);rw[zjk];exact dig_mul' hx.1 hy.1
def zpj {m n:Nat}{x y:Rat}(hx:zdh m x)(hy:zdh n y):zdh (m+n+1) (x+y):=by
 rw[<- zgK x y _ rfl];refine zoi _ _ _ (zDN x y) ?_ (Nat.le_succ_of_le (dig_mul' hx.2 hy.2));have d1:=dig_mul' hx.1 hy.2;have d2:nDigits (y.num.natAbs*x.den)<=m+n:=by have:=dig_mul' hy.1 hx.2;omega
 refine zqam (zbA ?_) (zhZ _ _ _ d1 d2);have e1:=zjk (sgn x) (x.num.natAbs*y.den);have e2:=zjk (sgn y) (y.num.natAbs*x.den);omega
def zHv {n:Nat}{x:Rat}(hx:zdh n x):zdh n (-x):=by
 unfold zdh at *;rw[Rat.neg_num,Rat.neg_den,Int.natAbs_neg];exact hx
def zHw {m n:Nat}{x y:Rat}(hx:zdh m x)(hy:zdh n y):zdh (m+n+1) (x-y):=by
 rw[Rat.sub_eq_add_neg];exact zpj hx (zHv hy)
def zHx {m n:Nat}{x y:Rat}(hx:zdh m x)(hy:zdh n y)(h:y.num≠0):zdh (m+n) (x/y):=by
 rw[<- zmH x y h];refine zoi _ _ _ (Nat.mul_ne_zero x.den_nz (by omega)) ?_ (dig_mul' hx.2 hy.1);rw[zjk];exact dig_mul' hx.1 hy.2
def zDO:zdh 1 (0:Rat):=by unfold zdh;decide +kernel
def zpk:zdh 1 (1:Rat):=by unfold zdh;decide +kernel
def zAH {x:Rat}:(1-x)=mkRat ((x.den:Int)-x.num) x.den:=by
 have e:=zgK 1 (-x) _ rfl;rw[Rat.sub_eq_add_neg,<- e]
 have h1:sg (sgn 1) ((1:Rat).num.natAbs*(-x).den)=(x.den:Int):=by
  rw[Rat.neg_den,show sgn 1=false by decide +kernel,show(1:Rat).num.natAbs=1 by decide +kernel];unfold sg;simp
 have h2:sg (sgn (-x)) ((-x).num.natAbs*(1:Rat).den) = -x.num:=by
  rw[show(1:Rat).den=1 by decide +kernel,Nat.mul_one,<- Rat.neg_num];exact zuY (-x)
 rw[h1,h2,show(1:Rat).den*(-x).den=x.den by rw[Rat.neg_den,show(1:Rat).den=1 by decide +kernel,Nat.one_mul],Int.sub_eq_add_neg]
def zqJ {x:Rat}(h0:0<=x)(h1:x<=1)(h:zbr x):zbr (1-x):=by
 rw[zAH];have k0:=Rat.num_nonneg.2 h0
 have k1:x.num<=x.den:=by
  have:=(Rat.le_iff x 1).1 h1;rw[show(1:Rat).num=1 by decide +kernel,show(1:Rat).den=1 by decide +kernel] at this;omega
 refine zoi _ _ 400 x.den_nz ?_ h.2;refine zqam (zbA ?_) h.2;omega
def zoj {x:Rat}(h:x<1):(1-x).num≠0:=fun k=>by
 rw[Rat.num_eq_zero] at k;have:=Rat.sub_add_cancel (a:=1) (b:=x);rw[k,Rat.zero_add] at this;rw[this] at h;exact Rat.lt_irrefl h
open Go.RowKit
open Go.Lib (nDigits decDigits)
def leE (u v:Ext):Prop:=zbu u v<=0
def zcO (u:Ext):leE u u:=by unfold leE;rw[(zfH u u).2 rfl];decide
def zeU {u v t:Ext}(h:leE u v)(k:leE v t):leE u t:=zlx u v t h k
def zgN (u v:Ext):leE u v∨leE v u:=by
 unfold leE;have:=zeT u v;omega
def zvJ {u v:Ext}(h:leE u v)(k:leE v u):u=v:=by
 unfold leE at *;have:=zeT u v;exact(zfH u v).1 (by omega)
def zbH (x y:Rat):leE (.inr x) (.inr y)↔x<=y:=zog x y
def zcE (u:Ext):leE u (.inl true):=by
 rcases u with(_|_)|x;exact(show(-1:Int)<=0 by decide);exact(show(0:Int)<=0 by decide);exact(show(-1:Int)<=0 by decide)
def zzg (u:Ext):leE (.inl false) u:=by
 rcases u with(_|_)|x;exact(show(0:Int)<=0 by decide);exact(show(-1:Int)<=0 by decide);exact(show(-1:Int)<=0 by decide)
def zci (x:Rat):¬ leE (.inl true) (.inr x):=fun h=>absurd (show(1:Int)<=0 from h) (by decide)
def zks:¬ leE (.inl true) (.inl false):=fun h=>absurd (show(1:Int)<=0 from h) (by decide)
def zgl (x:Rat):¬ leE (.inr x) (.inl false):=fun h=>absurd (show(1:Int)<=0 from h) (by decide)
def zgO {u v:Ext}(h:leE u v):zct u v=u:=by
 unfold zct;unfold leE at h;have:=zeT u v;rw[if_neg (by omega)]
def zhl {u v:Ext}(h:leE v u):zct u v=v:=by
 unfold zct
 by_cases k:zbu v u<0
 rw[if_pos k];rw[if_neg k];unfold leE at h;exact((zfH v u).1 (by omega)).symm
def zgP {u v:Ext}(h:leE v u):zbR u v=u:=by
 unfold zbR;unfold leE at h;rw[if_neg (by omega)]
def zhm {u v:Ext}(h:leE u v):zbR u v=v:=by
 unfold zbR
 by_cases k:0<zbu v u
 rw[if_pos k];rw[if_neg k];unfold leE at h;have:=zeT u v;exact(zfH u v).1 (by omega)
def zhH (t u v:Ext):leE t (zct u v)↔leE t u/\leE t v:=by
 rcases zgN u v with h|h;rw[zgO h];exact⟨fun k=>⟨k,zeU k h⟩,fun k=>k.1⟩;rw[zhl h];exact⟨fun k=>⟨zeU k h,k⟩,fun k=>k.2⟩
def zhI (t u v:Ext):leE (zbR u v) t↔leE u t/\leE v t:=by
 rcases zgN u v with h|h;rw[zhm h];exact⟨fun k=>⟨zeU h k,k⟩,fun k=>k.2⟩;rw[zgP h];exact⟨fun k=>⟨k,zeU h k⟩,fun k=>k.1⟩
def zvK {u v:Ext}(h:∀ t,leE t u↔leE t v):u=v:=zvJ ((h u).1 (zcO u)) ((h v).2 (zcO v))
def zvL {u v:Ext}(h:∀ t,leE u t↔leE v t):u=v:=zvJ ((h v).2 (zcO v)) ((h u).1 (zcO u))
def zDP (u v:Ext):zct u v=zct v u:=zvK fun t=>by rw[zhH,zhH];exact and_comm
def zDQ (u v:Ext):zbR u v=zbR v u:=zvL fun t=>by rw[zhI,zhI];exact and_comm
def zAJ (u v t:Ext):zct (zct u v) t=zct u (zct v t):=zvK fun s=>by simp only[zhH,and_assoc]
def zAK (u v t:Ext):zbR (zbR u v) t=zbR u (zbR v t):=zvL fun s=>by simp only[zhI,and_assoc]
def zst (u v:Ext):zct u v=u∨zct u v=v:=by rcases zgN u v with h|h;exact .inl (zgO h);exact .inr (zhl h)
def zok (u v:Ext):zbR u v=u∨zbR u v=v:=by rcases zgN u v with h|h;exact .inr (zhm h);exact .inl (zgP h)
def zHy (u:Ext):zco (.inl true) u=.inl true:=by rcases u with(_|_)|x <;> rfl
def zmN (u v:Ext):zco u v=zco v u:=by
 rcases u with(_|_)|x <;> rcases v with(_|_)|y
 all_goals first|exact zqbz Sum.inr (Rat.add_comm x y)|rfl
def zAL (u v t:Ext):zco (zco u v) t=zco u (zco v t):=by
 rcases u with(_|_)|x <;> rcases v with(_|_)|y <;> rcases t with(_|_)|z
 all_goals first|exact zqbz Sum.inr (Rat.add_assoc x y z)|rfl
def zmO (u:Ext):zco u (.inr 0)=u:=by
 rcases u with(_|_)|x;rfl;rfl;exact zqbz Sum.inr (Rat.add_zero x)
def zmP (t u v:Ext)(h:leE u v):leE (zco t u) (zco t v):=by
 rcases t with(_|_)|z <;> rcases u with(_|_)|x <;> rcases v with(_|_)|y
 all_goals first
  | exact zcE _
  | exact zzg _
  | exact absurd h zks
  | exact absurd h (zci _)
  | exact absurd h (zgl _)
  | exact(zbH _ _).2 (Rat.add_le_add_left.2 ((zbH _ _).1 h))
def zDR (t u v:Ext):zco t (zct u v)=zct (zco t u) (zco t v):=by
 rcases zgN u v with h|h;rw[zgO h,zgO (zmP t u v h)];rw[zhl h,zhl (zmP t v u h)]
def zbt (x y:Rat):zaP (.inr x) (.inr y)=.inr (x*y):=by
 unfold zaP
 by_cases hx:x=0
 subst hx;rw[if_pos (.inl rfl),Rat.zero_mul]
 by_cases hy:y=0
 subst hy;rw[if_pos (.inr rfl),Rat.mul_zero];rw[if_neg (fun h=>by rcases h with h|h;exact hx (Sum.inr.inj h);exact hy (Sum.inr.inj h))]
def zbq (u:Ext):zaP (.inr 0) u=.inr 0:=if_pos (.inl rfl)
def zaN (u:Ext):zaP u (.inr 0)=.inr 0:=if_pos (.inr rfl)
def zaT {x:Rat}(h:x≠0):zaP (.inl true) (.inr x)=.inl true:=by
 unfold zaP;rw[if_neg (fun k=>by rcases k with k|k;cases k;exact h (Sum.inr.inj k))]
def zaW {x:Rat}(h:x≠0):zaP (.inr x) (.inl true)=.inl true:=by
 unfold zaP;rw[if_neg (fun k=>by rcases k with k|k;exact h (Sum.inr.inj k);cases k)]
def zbC:zaP (.inl true) (.inl true)=.inl true:=by
 unfold zaP;rw[if_neg (fun k=>by rcases k with k|k <;> cases k)]
def zmQ (u v:Ext)(hu:zaq 2 u=true)(hv:zaq 2 v=true):zaP u v=zaP v u:=by
 rcases zaE u hu with rfl|⟨x,rfl,hx⟩ <;> rcases zaE v hv with rfl|⟨y,rfl,hy⟩;rfl
 ·by_cases h:y=0
  ·subst h;rw[zbq,zaN]
  rw[zaT h,zaW h]
 ·by_cases h:x=0
  ·subst h;rw[zbq,zaN]
  rw[zaT h,zaW h]
 rw[zbt,zbt,Rat.mul_comm]
def zDS {x y:Rat}(hx:x≠0)(hy:y≠0):x*y≠0:=fun h=>by rcases Rat.mul_eq_zero.1 h with h|h;exact hx h;exact hy h
def zqK (u v t:Ext)(hu:zaq 2 u=true)(hv:zaq 2 v=true)(ht:zaq 2 t=true):zaP (zaP u v) t=zaP u (zaP v t):=by
 by_cases zu:u=.inr 0
 subst zu;rw[zbq,zbq,zbq]
 by_cases zv:v=.inr 0
 subst zv;rw[zbq,zaN,zbq]
 by_cases zt:t=.inr 0
 subst zt;rw[zaN,zaN,zaN];rcases zaE u hu with rfl|⟨x,rfl,hx⟩ <;> rcases zaE v hv with rfl|⟨y,rfl,hy⟩ <;> rcases zaE t ht with rfl|⟨z,rfl,hz⟩;rw[zbC];rw[zbC,zaT (fun h=>zt (zqbz _ h)),zbC];rw[zaT (fun h=>zv (zqbz _ h)),zaW (fun h=>zv (zqbz _ h))];rw[zaT (fun h=>zv (zqbz _ h)),zaT (fun h=>zt (zqbz _ h)),zbt,zaT (zDS (fun h=>zv (zqbz _ h)) (fun h=>zt (zqbz _ h)))];rw[zaW (fun h=>zu (zqbz _ h)),zbC,zaW (fun h=>zu (zqbz _ h))];rw[zaW (fun h=>zu (zqbz _ h)),zaT (fun h=>zt (zqbz _ h)),zaW (fun h=>zu (zqbz _ h))];rw[zbt,zaW (fun h=>zv (zqbz _ h)),zaW (fun h=>zu (zqbz _ h)),zaW (zDS (fun h=>zu (zqbz _ h)) (fun h=>zv (zqbz _ h)))];rw[zbt,zbt,zbt,zbt,Rat.mul_assoc]
def zly (u:Ext)(hu:zaq 2 u=true):zaP u (.inr 1)=u:=by
 rcases zaE u hu with rfl|⟨x,rfl,hx⟩;exact zaT (by decide +kernel);rw[zbt,Rat.mul_one]
def zjW (t u v:Ext)(ht:zaq 2 t=true)(hu:zaq 2 u=true)(hv:zaq 2 v=true)(h:leE u v):leE (zaP t u) (zaP t v):=by
 by_cases zt:t=.inr 0
 subst zt;rw[zbq,zbq];exact zcO _;rcases zaE v hv with rfl|⟨y,rfl,hy⟩
 ·rcases zaE t ht with rfl|⟨z,rfl,hz⟩
  ·rw[zbC];exact zcE _
  rw[zaW (fun h=>zt (zqbz _ h))];exact zcE _
 rcases zaE u hu with rfl|⟨x,rfl,hx⟩;exact absurd h (zci _);have k:=(zbH _ _).1 h;rcases zaE t ht with rfl|⟨z,rfl,hz⟩
 ·by_cases zx:x=0
  ·subst zx
   rw[zaN]
   by_cases zy:y=0
   subst zy;rw[zaN];exact zcO _;rw[zaT zy];exact zcE _
  have zy:y≠0:=fun e=>zx (Rat.le_antisymm (e▸k) hx);rw[zaT zx,zaT zy];exact zcO _
 rw[zbt,zbt];exact(zbH _ _).2 (zqai k hz)
def zDT (t u v:Ext)(ht:zaq 2 t=true)(hu:zaq 2 u=true)(hv:zaq 2 v=true):zaP t (zbR u v)=zbR (zaP t u) (zaP t v):=by
 rcases zgN u v with h|h;rw[zhm h,zhm (zjW t u v ht hu hv h)];rw[zgP h,zgP (zjW t v u ht hv hu h)]
def zbW (x y:Rat):zdr (.inr x) (.inr y)=.inr (x+y):=rfl
def zbD (u:Ext):zdr (.inl true) u=.inl true:=by rcases u with(_|_)|x <;> rfl
def zbs (u:Ext):zdr u (.inl true)=.inl true:=by rcases u with(_|_)|x <;> rfl
def zHz (u v:Ext)(hu:zaq 2 u=true)(hv:zaq 2 v=true):zdr u v=zdr v u:=by
 rcases zaE u hu with rfl|⟨x,rfl,hx⟩ <;> rcases zaE v hv with rfl|⟨y,rfl,hy⟩;rfl;rfl;rfl;rw[zbW,zbW,Rat.add_comm]
def zDU (u v t:Ext)(hu:zaq 2 u=true)(hv:zaq 2 v=true)(ht:zaq 2 t=true):zdr (zdr u v) t=zdr u (zdr v t):=by
 rcases zaE u hu with rfl|⟨x,rfl,hx⟩;rw[zbD,zbD,zbD];rcases zaE v hv with rfl|⟨y,rfl,hy⟩;rw[zbs,zbD,zbs];rcases zaE t ht with rfl|⟨z,rfl,hz⟩;rw[zbs,zbs,zbs];rw[zbW,zbW,zbW,zbW,Rat.add_assoc]
def zHA (u:Ext)(hu:zaq 2 u=true):zdr u (.inr 0)=u:=by
 rcases zaE u hu with rfl|⟨x,rfl,hx⟩;rfl;rw[zbW,Rat.add_zero]
def zKe {x y:Rat}(hx:0<=x)(hy:0<=y)(h:x+y=0):x=0/\y=0:=by
 have h1:x<=x+y:=by
  have:=(Rat.add_le_add_left (c:=x)).2 hy
  rwa [Rat.add_zero] at this
 have h2:y<=x+y:=by
  have:=(Rat.add_le_add_right (c:=y)).2 hx
  rwa [Rat.zero_add] at this
 rw[h] at h1 h2;exact⟨Rat.le_antisymm h1 hx,Rat.le_antisymm h2 hy⟩
def zHB (t u v:Ext)(ht:zaq 2 t=true)(hu:zaq 2 u=true)(hv:zaq 2 v=true):zaP t (zdr u v)=zdr (zaP t u) (zaP t v):=by
 rcases zaE t ht with rfl|⟨z,rfl,hz⟩
 ·rcases zaE u hu with rfl|⟨x,rfl,hx⟩
  ·rw[zbD,zbC,zbD]
  rcases zaE v hv with rfl|⟨y,rfl,hy⟩;rw[zbs,zbC,zbs];rw[zbW]
  by_cases zx:x=0
  ·subst zx
   rw[Rat.zero_add,zaN]
   by_cases zy:y=0
   subst zy;rw[zaN,zbW,Rat.zero_add];rw[zaT zy];rfl
  rw[zaT zx,zbD];exact zaT (fun h=>zx (zKe hx hy h).1)
 by_cases zz:z=0
 ·subst zz;rw[zbq,zbq,zbq,zbW,Rat.zero_add]
 rcases zaE u hu with rfl|⟨x,rfl,hx⟩;rw[zbD,zaW zz,zbD];rcases zaE v hv with rfl|⟨y,rfl,hy⟩;rw[zbs,zaW zz,zbs];rw[zbW,zbt,zbt,zbt,zbW,Rat.mul_add]
def zsu {x:Rat}(h:0<=x):zaq 2 (.inr x)=true:=by simp[zaq,h]
def zvM {u v:Ext}(hu:zaq 2 u=true)(hv:zaq 2 v=true):zaq 2 (zaP u v)=true:=by
 by_cases zu:u=.inr 0
 subst zu;rw[zbq];exact hu
 by_cases zv:v=.inr 0
 subst zv;rw[zaN];exact hv;rcases zaE u hu with rfl|⟨x,rfl,hx⟩ <;> rcases zaE v hv with rfl|⟨y,rfl,hy⟩;rw[zbC];rfl;rw[zaT (fun h=>zv (zqbz _ h))];rfl;rw[zaW (fun h=>zu (zqbz _ h))];rfl;rw[zbt];exact zsu (Rat.mul_nonneg hx hy)
def zKf {u v:Ext}(hu:zaq 2 u=true)(hv:zaq 2 v=true):zaq 2 (zdr u v)=true:=by
 rcases zaE u hu with rfl|⟨x,rfl,hx⟩;rw[zbD];rfl;rcases zaE v hv with rfl|⟨y,rfl,hy⟩;rw[zbs];rfl;rw[zbW];exact zsu (Rat.add_nonneg hx hy)
abbrev zad (k:Int):Prop:=k=1∨k=2∨k=3
def zHC {k:Int}(hk:zad k){u v:Ext}(hu:zaq k u=true)(hv:zaq k v=true):zaq k (zcI k u v)=true:=by
 rcases hk with rfl|rfl|rfl;exact zoh _;exact zKf hu hv;show zaq 3 (zbR u v)=true;rcases zok u v with h|h <;> rw[h] <;> assumption
def zDV {k:Int}(hk:zad k){u v:Ext}(hu:zaq k u=true)(hv:zaq k v=true):zaq k (zbi k u v)=true:=by
 rcases hk with rfl|rfl|rfl;exact zoh _;exact zvM hu hv;rw[<- zcD] at *;exact zvM hu hv
def zDW {k:Int}(hk:zad k):zaq k (zic k)=true:=by rcases hk with rfl|rfl|rfl <;> decide +kernel
def zHD {k:Int}(hk:zad k):zaq k (ziq k)=true:=by rcases hk with rfl|rfl|rfl <;> decide +kernel
def zDX {k:Int}(hk:zad k){u v:Ext}(hu:zaq k u=true)(hv:zaq k v=true):zcI k u v=zcI k v u:=by
 rcases hk with rfl|rfl|rfl;exact zDP u v;exact zHz u v hu hv;exact zDQ u v
def zAM {k:Int}(hk:zad k){u v t:Ext}(hu:zaq k u=true)(hv:zaq k v=true)(ht:zaq k t=true):zcI k (zcI k u v) t=zcI k u (zcI k v t):=by
 rcases hk with rfl|rfl|rfl;exact zAJ u v t;exact zDU u v t hu hv ht;exact zAK u v t
def zhn {k:Int}(hk:zad k){u v:Ext}(hu:zaq k u=true)(hv:zaq k v=true):zbi k u v=zbi k v u:=by
 rcases hk with rfl|rfl|rfl;exact zmN u v;exact zmQ u v hu hv;rw[<- zcD] at *;exact zmQ u v hu hv
def zyb {k:Int}(hk:zad k){u v t:Ext}(hu:zaq k u=true)(hv:zaq k v=true)(ht:zaq k t=true):zbi k (zbi k u v) t=zbi k u (zbi k v t):=by
 rcases hk with rfl|rfl|rfl;exact zAL u v t;exact zqK u v t hu hv ht;rw[<- zcD] at *;exact zqK u v t hu hv ht
def zAN {k:Int}(hk:zad k){u v t:Ext}(hu:zaq k u=true)(hv:zaq k v=true)(ht:zaq k t=true):zbi k u (zcI k v t)=zcI k (zbi k u v) (zbi k u t):=by
 rcases hk with rfl|rfl|rfl;exact zDR u v t;exact zHB u v t hu hv ht;rw[<- zcD] at *;exact zDT u v t hu hv ht
def zDY {k:Int}(hk:zad k){u:Ext}(hu:zaq k u=true):zcI k u (zic k)=u:=by
 rcases hk with rfl|rfl|rfl;exact zgO (zcE u);exact zHA u hu;rw[<- zcD] at hu;refine zgP ?_;rcases zaE u hu with rfl|⟨x,rfl,hx⟩
 exact zcE _;exact(zbH _ _).2 hx
def zDZ {k:Int}(hk:zad k){u:Ext}(hu:zaq k u=true):zbi k u (ziq k)=u:=by
 rcases hk with rfl|rfl|rfl;exact zmO u;exact zly u hu;rw[<- zcD] at hu;exact zly u hu
def zAO {k:Int}(hk:zad k)(u:Ext):zbi k u (zic k)=zic k:=by
 rcases hk with rfl|rfl|rfl
 ·show zco u (.inl true)=.inl true
  rw[zmN,zHy]
 exact zaN u;exact zaN u
def zyc (k:Int)(u v:Ext):zbV k v u = -zbV k u v:=by
 unfold zbV;split;exact zeT u v;exact zeT v u
def zoJ (k:Int)(u v:Ext):zbV k u v=0↔u=v:=by
 unfold zbV;split;exact zfH u v;exact(zfH v u).trans ⟨Eq.symm,Eq.symm⟩
def zvN (k:Int)(u v t:Ext)(h:zbV k u v<=0)(j:zbV k v t<=0):zbV k u t<=0:=by
 by_cases hk:k=1
 subst hk;exact zlx u v t h j;have e:∀ a b,zbV k a b=zbu b a:=fun a b=>if_neg hk;rw[e] at *;exact zlx t v u j h
def zvO {k:Int}(hk:zad k){u v t:Ext}(hu:zaq k u=true)(hv:zaq k v=true)(ht:zaq k t=true)(h:zbV k u v<=0):zbV k (zbi k u t) (zbi k v t)<=0:=by
 rw[zhn hk hu ht,zhn hk hv ht];rcases hk with rfl|rfl|rfl
 exact zmP t u v h;exact zjW t v u ht hv hu h;rw[<- zcD] at *;exact zjW t v u ht hv hu h
def zHE {x:Rat}(h:x<1):1/(1-x)=1+x*(1/(1-x)):=by
 have hne:(1-x)≠0:=fun k=>zoj h (by rw[k];rfl);have e:1/(1-x)*(1-x)=1:=Rat.div_mul_cancel hne;generalize 1/(1-x)=s at *;rw[Rat.sub_eq_add_neg,Rat.mul_add,Rat.mul_one,Rat.mul_neg] at e;have e2:s + -(s*x)+s*x=1+s*x:=by rw[e]
 rw[Rat.add_assoc,Rat.neg_add_cancel,Rat.add_zero] at e2;rw[Rat.mul_comm x s];exact e2
def zoK {x:Rat}(h:x<1):0<=1/(1-x):=by
 have h1:0<1-x:=(Rat.lt_iff_sub_pos x 1).1 h;rw[Rat.div_def,Rat.one_mul];exact Rat.le_of_lt (Rat.inv_pos.2 h1)
def zHF {k:Int}(hk:zad k)(u:Ext)(hu:zaq k u=true):zaq k (zcJ k u)=true:=by
 rcases hk with rfl|rfl|rfl;exact zoh _
 ·rcases zaE u hu with rfl|⟨x,rfl,hx⟩
  ·rfl
  show zaq 2 (if x<1 then .inr (1/(1-x)) else .inl true)=true
  by_cases h:x<1
  rw[if_pos h];exact zsu (zoK h);rw[if_neg h];rfl
 show zaq 3 (if 0<zbu u (.inr 1) then .inl true else .inr 1)=true;split <;> decide +kernel
def star_law {k:Int}(hk:zad k)(u:Ext)(hu:zaq k u=true):zcI k (ziq k) (zbi k u (zcJ k u))=zcJ k u:=by
 rcases hk with rfl|rfl|rfl
 ·show zct (.inr 0) (zco u (if zbu u (.inr 0)<0 then .inl false else .inr 0))=if zbu u (.inr 0)<0 then .inl false else .inr 0
  by_cases h:zbu u (.inr 0)<0
  ·rw[if_pos h]
   have:zco u (.inl false)=.inl false:=by
    rcases u with(_|_)|x;rfl;exact absurd (show(1:Int)<0 from h) (by decide);rfl
   rw[this];exact zhl (zzg _)
  rw[if_neg h,zmO];refine zgO ?_;unfold leE;have:=zeT u (.inr 0);omega
 ·rcases zaE u hu with rfl|⟨x,rfl,hx⟩
  ·show zdr (.inr 1) (zaP (.inl true) (.inl true))=.inl true
   rw[zbC];rfl
  show zdr (.inr 1) (zaP (.inr x) (if x<1 then .inr (1/(1-x)) else .inl true))=if x<1 then .inr (1/(1-x)) else .inl true
  by_cases h:x<1
  rw[if_pos h,zbt,zbW,<- zHE h];rw[if_neg h,zaW (fun e=>by subst e;exact h (by decide +kernel)),zbs]
 rw[<- zcD] at hu;show zbR (.inr 1) (zaP u (if 0<zbu u (.inr 1) then .inl true else .inr 1))=if 0<zbu u (.inr 1) then .inl true else .inr 1
 by_cases h:0<zbu u (.inr 1)
 ·rw[if_pos h]
  have:zaP u (.inl true)=.inl true:=by
   rcases zaE u hu with rfl|⟨x,rfl,hx⟩;exact zbC;exact zaW (fun e=>by subst e;revert h;decide +kernel)
  rw[this];exact zhm (zcE _)
 rw[if_neg h,zly u hu];exact zgP (by unfold leE;omega)
def zax (n:Nat):Ext->Prop
 | .inr x=>zdh n x
 | _=>True
def Fits:Ext->Prop
 | .inr x=>zbr x
 | _=>True
def zsv:Ext->ByteArray
 | .inl true=>zdg
 | .inl false=>zgz
 | .inr x=>zeE x
def zzh {v:Ext}(h:Fits v):IsE (zsv v) v:=by
 rcases v with(_|_)|x;rfl;rfl;exact⟨h,rfl⟩
def zmR {v:Ext}(h:Fits v):zbI v=.tuple #[.string (zsv v),.int .i64 0]:=zgM (zzh h)
def IsE.text {a:ByteArray}{v:Ext}(h:IsE a v):a=zsv v:=by
 rcases v with(_|_)|x;exact h;exact h;exact h.eq
def zax.mono {m n:Nat}{v:Ext}(h:zax m v)(k:m<=n):zax n v:=by
 rcases v with(_|_)|x;trivial;trivial;exact zdh.mono h k
def zax.fits {n:Nat}{v:Ext}(h:zax n v)(k:n<=400):Fits v:=by
 rcases v with(_|_)|x;trivial;trivial;exact zdh.mono h k
def zAP (k:Int){m n:Nat}{u v:Ext}(hu:zax m u)(hv:zax n v):zax (m+n+1) (zcI k u v):=by
 unfold zcI;split
 ·rcases zst u v with h|h <;> rw[h]
  ·exact hu.mono (by omega)
  exact hv.mono (by omega)
 split
 ·rcases u with(_|_)|x <;> rcases v with(_|_)|y
  all_goals first|exact zpj hu hv|trivial
 rcases zok u v with h|h <;> rw[h]
 ·exact hu.mono (by omega)
 exact hv.mono (by omega)
def zho:zax 1 (.inr 0):=zDO
def zmS:zax 1 (.inr 1):=zpk
def zAQ {m n:Nat}{u v:Ext}(hm:1<=m)(hu:zax m u)(hv:zax n v):zax (m+n) (zaP u v):=by
 unfold zaP;split;exact zho.mono (by omega);rcases u with(_|_)|x <;> rcases v with(_|_)|y
 all_goals first|exact zHu hu hv|trivial
def zcj (k:Int){m n:Nat}{u v:Ext}(hm:1<=m)(hu:zax m u)(hv:zax n v):zax (m+n+1) (zbi k u v):=by
 unfold zbi;split
 ·rcases u with(_|_)|x <;> rcases v with(_|_)|y
  all_goals first|exact zpj hu hv|trivial
 exact(zAQ hm hu hv).mono (by omega)
def zdR (k:Int):zax 1 (zic k):=by unfold zic;split;trivial;exact zho
def zhp (k:Int):zax 1 (ziq k):=by unfold ziq;split;exact zho;exact zmS
def zAR (k:Int){m:Nat}{u:Ext}(hm:1<=m)(hu:zax m u):zax (m+3) (zcJ k u):=by
 unfold zcJ;split
 ·split
  ·trivial
  exact zho.mono (by omega)
 split
 ·rcases u with(_|_)|x
  ·trivial
  trivial;show zax (m+3) (if x<1 then .inr (1/(1-x)) else .inl true)
  by_cases h:x<1
  ·rw[if_pos h]
   exact zdh.mono (zHx zpk (zHw zpk hu) (zoj h)) (by omega)
  rw[if_neg h];trivial
 split
 ·trivial
 exact zmS.mono (by omega)
open Go.RowKit
def natE (k:Int)(u v:Ext):Prop:=zbV k v u<=0
def zHG {u v t s:Ext}(hu:zaq 2 u=true)(hv:zaq 2 v=true)(ht:zaq 2 t=true)(hs:zaq 2 s=true)(h:leE u v)(k:leE t s):leE (zdr u t) (zdr v s):=by
 rcases zaE v hv with rfl|⟨y,rfl,hy⟩;rw[zbD];exact zcE _;rcases zaE s hs with rfl|⟨z,rfl,hz⟩;rw[zbs];exact zcE _;rcases zaE u hu with rfl|⟨x,rfl,hx⟩;exact absurd h (zci _);rcases zaE t ht with rfl|⟨w,rfl,hw⟩;exact absurd k (zci _);rw[zbW,zbW];refine(zbH _ _).2 ?_;have h1:=(zbH _ _).1 h;have h2:=(zbH _ _).1 k;exact zqar ((Rat.add_le_add_right (c:=w)).2 h1) ((Rat.add_le_add_left (c:=y)).2 h2)
def zqL (a b x:Ext)(h:leE x (zct b (zco a x))):leE x (zco (zcJ 1 a) b):=by
 obtain⟨h1,h2⟩:=(zhH x b (zco a x)).1 h;show leE x (zco (if zbu a (.inr 0)<0 then .inl false else .inr 0) b)
 by_cases ha:zbu a (.inr 0)<0
 ·rw[if_pos ha]
  rcases b with(_|_)|y
  ·
   show leE x (.inl false);rcases x with(_|_)|q
   exact zcO _;exact absurd h1 zks;exact absurd h1 (zgl q)
  exact zcE x;show leE x (.inl false);rcases x with(_|_)|q;exact zcO _;exact absurd h1 (zci y);rcases a with(_|_)|r
  ·exact absurd h2 (zgl q)
  exact absurd (show(1:Int)<0 from ha) (by decide);have h3:q<=r+q:=(zbH _ _).1 h2;have h4:r<0:=(zfG r 0).1 ha;have h5:r+q<0+q:=(Rat.add_lt_add_right (c:=q)).2 h4;rw[Rat.zero_add] at h5;exact absurd h3 (Rat.not_le.2 h5)
 rw[if_neg ha,zmN,zmO];exact h1
def zoL {r q:Rat}(hr:1<r)(hq:0<q):q<r*q:=by
 have h:=Rat.mul_lt_mul_of_pos_right hr hq
 rwa [Rat.one_mul] at h
def zqM (a b x:Ext)(ha:zaq 2 a=true)(hb:zaq 2 b=true)(hx:zaq 2 x=true)(h:leE (zbR b (zaP a x)) x):leE (zaP (zcJ 3 a) b) x:=by
 obtain⟨h1,h2⟩:=(zhI x b (zaP a x)).1 h;show leE (zaP (if 0<zbu a (.inr 1) then .inl true else .inr 1) b) x
 by_cases hs:0<zbu a (.inr 1)
 ·rw[if_pos hs]
  rcases zaE x hx with rfl|⟨q,rfl,hq⟩;exact zcE _;rcases zaE b hb with rfl|⟨y,rfl,hy⟩;exact absurd h1 (zci q)
  by_cases zy:y=0
  subst zy;rw[zaN];exact(zbH _ _).2 hq;have hyq:y<=q:=(zbH _ _).1 h1
  have hy0:0<y:=by
   rcases Rat.le_iff_lt_or_eq.1 hy with h|h;exact h;exact absurd h.symm zy
  have hq0:0<q:=Rat.not_le.1 (fun e=>Rat.not_le.2 hy0 (zqar hyq e));have hqn:q≠0:=fun e=>by rw[e] at hq0;exact Rat.lt_irrefl hq0
  rcases zaE a ha with rfl|⟨r,rfl,hr⟩;rw[zaT hqn] at h2;exact absurd h2 (zci q);rw[zbt] at h2;have h3:r*q<=q:=(zbH _ _).1 h2
  have h4:1<r:=by
   have hc:0<zcz r 1:=hs;have:=zmM r 1;exact(zfG 1 r).1 (by omega)
  exact absurd h3 (Rat.not_le.2 (zoL h4 hq0))
 rw[if_neg hs,zmQ _ _ (by decide +kernel) hb,zly b hb];exact h1
def zsw (a b x:Ext)(ha:zaq 2 a=true)(hb:zaq 2 b=true)(hx:zaq 2 x=true)(h:leE (zdr b (zaP a x)) x):leE (zaP (zcJ 2 a) b) x:=by
 rcases zaE x hx with rfl|⟨q,rfl,hq⟩;exact zcE _;rcases zaE b hb with rfl|⟨y,rfl,hy⟩;rw[zbD] at h;exact absurd h (zci q);rcases zaE a ha with rfl|⟨r,rfl,hr⟩
 ·
  by_cases zq:q=0
  ·subst zq
   rw[zaN,zbW,Rat.add_zero] at h;have h1:y<=0:=(zbH _ _).1 h;have h2:y=0:=Rat.le_antisymm h1 hy;subst h2;rw[zaN];exact zcO _
  rw[zaT zq,zbs] at h;exact absurd h (zci q)
 rw[zbt,zbW] at h;have h1:y+r*q<=q:=(zbH _ _).1 h;show leE (zaP (if r<1 then .inr (1/(1-r)) else .inl true) (.inr y)) (.inr q)
 by_cases hr1:r<1
 ·rw[if_pos hr1,zbt]
  refine(zbH _ _).2 ?_;have h0:0<1-r:=(Rat.lt_iff_sub_pos r 1).1 hr1
  have h2:y<=q*(1-r):=by
   rw[Rat.sub_eq_add_neg,Rat.mul_add,Rat.mul_one,Rat.mul_neg,Rat.mul_comm q r];have h3:=(Rat.add_le_add_right (c := -(r*q))).2 h1
   rwa [Rat.add_assoc,Rat.add_neg_cancel,Rat.add_zero] at h3
  have h4:=zqai h2 (zoK hr1)
  have h5:1/(1-r)*(q*(1-r))=q:=by
   rw[Rat.mul_comm q,<- Rat.mul_assoc,Rat.div_mul_cancel (fun e=>by rw[e] at h0;exact Rat.lt_irrefl h0),Rat.one_mul]
  rwa [h5] at h4
 rw[if_neg hr1];have h2:1<=r:=Rat.not_lt.1 hr1
 have h3:q<=r*q:=by
  have:=Rat.mul_le_mul_of_nonneg_right h2 hq
  rwa [Rat.one_mul] at this
 have h4:y<=0:=by
  have h5:y+q<=y+r*q:=(Rat.add_le_add_left (c:=y)).2 h3;have h6:=zqar h5 h1;have h7:=(Rat.add_le_add_right (c := -q)).2 h6
  rwa [Rat.add_assoc,Rat.add_neg_cancel,Rat.add_zero] at h7
 have h8:y=0:=Rat.le_antisymm h4 hy;subst h8;rw[zaN];exact(zbH _ _).2 hq
def El (k:Int):Type := { v:Ext // zaq k v=true }
def srE (k:Int)(hk:zad k):Sr (El k) where
 add u v:=⟨zcI k u.1 v.1,zHC hk u.2 v.2⟩
 mul u v:=⟨zbi k u.1 v.1,zDV hk u.2 v.2⟩
 zero:=⟨zic k,zDW hk⟩
 one:=⟨ziq k,zHD hk⟩
 star u:=⟨zcJ k u.1,zHF hk u.1 u.2⟩
 le u v:=natE k u.1 v.1
 add_comm u v:=Subtype.ext (zDX hk u.2 v.2)
 add_assoc u v t:=Subtype.ext (zAM hk u.2 v.2 t.2)
 add_zero u:=Subtype.ext (zDY hk u.2)
 mul_comm u v:=Subtype.ext (zhn hk u.2 v.2)
 mul_assoc u v t:=Subtype.ext (zyb hk u.2 v.2 t.2)
 mul_add u v t:=Subtype.ext (zAN hk u.2 v.2 t.2)
 mul_one u:=Subtype.ext (zDZ hk u.2)
 mul_zero u:=Subtype.ext (zAO hk u.1)
 star_law u:=Subtype.ext (star_law hk u.1 u.2)
 le_refl u:=by show zbV k u.1 u.1<=0;rw[(zoJ k u.1 u.1).2 rfl];exact Int.le_refl 0
 le_trans u v t h j:=zvN k t.1 v.1 u.1 j h
 le_anti u v h j:=Subtype.ext ((zoJ k u.1 v.1).1 (by
  have h1:zbV k v.1 u.1<=0:=h;have h2:zbV k u.1 v.1<=0:=j;have:=zyc k u.1 v.1;omega))
 add_mono u v t s h j:=by
  rcases hk with rfl|rfl|rfl
  ·have h1:leE v.1 u.1:=h
   have h2:leE s.1 t.1:=j;show leE (zct v.1 s.1) (zct u.1 t.1);refine(zhH _ _ _).2 ⟨?_,?_⟩;exact zeU ((zhH _ _ _).1 (zcO (zct v.1 s.1))).1 h1;exact zeU ((zhH _ _ _).1 (zcO (zct v.1 s.1))).2 h2
  exact zHG u.2 v.2 t.2 s.2 h j;have h1:leE u.1 v.1:=h;have h2:leE t.1 s.1:=j;show leE (zbR u.1 t.1) (zbR v.1 s.1);refine(zhI _ _ _).2 ⟨?_,?_⟩;exact zeU h1 ((zhI _ _ _).1 (zcO (zbR v.1 s.1))).1;exact zeU h2 ((zhI _ _ _).1 (zcO (zbR v.1 s.1))).2
 mul_mono u v t h:=by
  have h2:=zvO hk v.2 u.2 t.2 h;show zbV k (zbi k t.1 v.1) (zbi k t.1 u.1)<=0;rw[zhn hk t.2 v.2,zhn hk t.2 u.2];exact h2
 zero_le u:=by
  rcases hk with rfl|rfl|rfl;exact zcE _
  ·rcases zaE u.1 u.2 with e|⟨x,e,hx⟩
   ·show leE (.inr 0) u.1;rw[e];exact zcE _
   show leE (.inr 0) u.1;rw[e];exact(zbH _ _).2 hx
  have hu:=u.2;rw[<- zcD] at hu;rcases zaE u.1 hu with e|⟨x,e,hx⟩
  ·show leE (.inr 0) u.1;rw[e];exact zcE _
  show leE (.inr 0) u.1;rw[e];exact(zbH _ _).2 hx
 star_least a b x h:=by
  rcases hk with rfl|rfl|rfl;exact zqL a.1 b.1 x.1 h;exact zsw a.1 b.1 x.1 a.2 b.2 x.2 h;have h1:=a.2;have h2:=b.2;have h3:=x.2;rw[<- zcD] at h1 h2 h3;exact zqM a.1 b.1 x.1 h1 h2 h3 h
def rs:Nat->(Nat->Rat)->Rat
 | 0,_=>0
 | n+1,f=>rs n f+f n
def zbj {f g:Nat->Rat}:∀ {n:Nat},(∀ m,m<n->f m=g m)->rs n f=rs n g
 | 0,_=>rfl
 | n+1,h=>by unfold rs;rw[zbj (fun m hm=>h m (by omega)),h n (by omega)]
def zhq (f g:Nat->Rat):∀ n,rs n (fun m=>f m+g m)=rs n f+rs n g
 | 0=>(Rat.add_zero 0).symm
 | n+1=>by unfold rs;rw[zhq f g n];grind
def zdZ (c:Rat)(f:Nat->Rat):∀ n,rs n (fun m=>c*f m)=c*rs n f
 | 0=>by simp[rs]
 | n+1=>by unfold rs;rw[zdZ c f n];grind
def zja {f:Nat->Rat}:∀ {n:Nat},(∀ m,m<n->f m=0)->rs n f=0
 | 0,_=>rfl
 | n+1,h=>by unfold rs;rw[zja (fun m hm=>h m (by omega)),h n (by omega)];grind
def zzi (f:Nat->Nat->Rat)(n:Nat):∀ k,rs n (fun i=>rs k (fun j=>f i j))=rs k (fun j=>rs n (fun i=>f i j))
 | 0=>zja (fun _ _=>rfl)
 | k+1=>by
  show rs n (fun i=>rs k (fun j=>f i j)+f i k)=rs k (fun j=>rs n (fun i=>f i j))+rs n (fun i=>f i k);rw[zhq,zzi f n k]
def zjX {f g:Nat->Rat}:∀ {n:Nat},(∀ m,m<n->f m<=g m)->rs n f<=rs n g
 | 0,_=>Rat.le_refl
 | n+1,h=>by
  have h1:=zjX (n:=n) (fun m hm=>h m (by omega));have h2:=h n (by omega);unfold rs;grind
def sk (c x:Nat):Nat:=if x<c then x else x+1
def zMf (c x:Nat):sk c x≠c:=by unfold sk;split <;> omega
def zJl {c x n:Nat}(h:x<n):sk c x<n+1:=by unfold sk;split <;> omega
def zJm (f:Nat->Rat){c:Nat}:∀ {n:Nat},c<=n->rs n (fun x=>f (sk c x))=rs (n+1) (fun b=>if b=c then 0 else f b)
 | 0,h=>by
  have:c=0:=by omega
  subst this;exact(Rat.add_zero 0).symm
 | n+1,h=>by
  by_cases e:c=n+1
  ·subst e
   show rs (n+1) (fun x=>f (sk (n+1) x))=rs (n+1) (fun b=>if b=n+1 then 0 else f b)+(if n+1=n+1 then 0 else f (n+1));rw[if_pos rfl,Rat.add_zero];refine zbj (fun m hm=>?_);rw[if_neg (by omega)];unfold sk;rw[if_pos hm]
  have ih:=zJm f (c:=c) (n:=n) (by omega);show rs n (fun x=>f (sk c x))+f (sk c n)=rs (n+1) (fun b=>if b=c then 0 else f b)+(if n+1=c then 0 else f (n+1));rw[ih,if_neg (fun h=>e h.symm)];have:sk c n=n+1:=by unfold sk;rw[if_neg (by omega)]
  rw[this]
def sg7 (c:Nat):Rat:=if c%2=0 then 1 else -1
def zvP (c:Nat):sg7 (c+1) = -sg7 c:=by unfold sg7;split <;> split <;> (try omega) <;> grind
def dt:Nat->(Nat->Nat->Rat)->Rat
 | 0,_=>1
 | k+1,V=>rs (k+1) (fun c=>sg7 c*V 0 c*dt k (fun i x=>V (i+1) (sk c x)))
def zbE:∀ {k:Nat} {V W:Nat->Nat->Rat},(∀ i x,i<k->x<k->V i x=W i x)->dt k V=dt k W
 | 0,_,_,_=>rfl
 | k+1,V,W,h=>by
  unfold dt;refine zbj (fun c hc=>?_);rw[h 0 c (by omega) hc,zbE (fun i x hi hx=>h (i+1) (sk c x) (by omega) (zJl hx))]
def up (V:Nat->Nat->Rat)(r:Nat)(u:Nat->Rat)(i x:Nat):Rat:=if i=r then u x else V i x
def zgQ:∀ {k:Nat} (V:Nat->Nat->Rat) {r:Nat} (u w:Nat->Rat) (s t:Rat),r<k->dt k (up V r (fun x=>s*u x+t*w x))=s*dt k (up V r u)+t*dt k (up V r w)
 | k+1,V,r,u,w,s,t,h=>by
  unfold dt;rw[<- zdZ,<- zdZ,<- zhq];refine zbj (fun c hc=>?_)
  by_cases e:r=0
  ·subst e
   have e1:∀ z:Nat->Rat,dt k (fun i x=>up V 0 z (i+1) (sk c x))=dt k (fun i x=>V (i+1) (sk c x)):=fun z=>zbE (fun i x _ _=>by unfold up;rw[if_neg (by omega)]);rw[e1,e1,e1];simp only[up,if_true];grind
  obtain⟨r',rfl⟩:∃ r',r=r'+1:=⟨r-1,by omega⟩
  have e1:∀ z:Nat->Rat,dt k (fun i x=>up V (r'+1) z (i+1) (sk c x))=dt k (up (fun i x=>V (i+1) (sk c x)) r' (fun x=>z (sk c x))):=fun z=>zbE (fun i x _ _=>by
   unfold up
   by_cases e2:i=r'
   rw[if_pos (by omega),if_pos e2];rw[if_neg (by omega),if_neg e2])
  rw[e1,e1,e1,zgQ (fun i x=>V (i+1) (sk c x)) (fun x=>u (sk c x)) (fun x=>w (sk c x)) s t (by omega)];have e3:∀ z:Nat->Rat,up V (r'+1) z 0 c=V 0 c:=fun z=>by unfold up;rw[if_neg (by omega)]
  rw[e3,e3,e3];grind
def zMg {a b x:Nat}(h:a<b):sk a (sk (b-1) x)=sk b (sk a x):=by
 unfold sk
 by_cases h1:x<a
 rw[if_pos h1,if_pos (show x<b-1 by omega),if_pos h1,if_pos (by omega)];rw[if_neg h1]
 by_cases h2:x<b-1
 rw[if_pos h2,if_neg h1,if_pos (by omega)];rw[if_neg h2,if_neg (by omega),if_neg (by omega)]
def d2 (k:Nat)(V:Nat->Nat->Rat)(a b:Nat):Rat:=dt k (fun i x=>V (i+2) (if a<b then sk a (sk (b-1) x) else sk b (sk (a-1) x)))
def s2 (a b:Nat):Rat:=if a=b then 0 else if a<b then sg7 a*sg7 (b-1) else sg7 a*sg7 b
def zKg (a b:Nat):s2 b a = -s2 a b:=by
 unfold s2
 by_cases e:a=b
 subst e;rw[if_pos rfl];grind;rw[if_neg e,if_neg (Ne.symm e)]
 by_cases h:a<b
 ·rw[if_pos h,if_neg (by omega)]
  obtain⟨c,rfl⟩:∃ c,b=c+1:=⟨b-1,by omega⟩;rw[zvP,Nat.add_sub_cancel];grind
 rw[if_neg h,if_pos (by omega)];obtain⟨c,rfl⟩:∃ c,a=c+1:=⟨a-1,by omega⟩;rw[zvP,Nat.add_sub_cancel];grind
def zKh (k:Nat)(V:Nat->Nat->Rat){a b:Nat}(h:a≠b):d2 k V a b=d2 k V b a:=by
 unfold d2
 by_cases h1:a<b
 simp only[h1,show ¬ b<a by omega,if_true,if_false];simp only[h1,show b<a by omega,if_true,if_false]
def zEa (k:Nat)(V:Nat->Nat->Rat):dt (k+2) V=rs (k+2) (fun a=>rs (k+2) (fun b=>s2 a b*V 0 a*V 1 b*d2 k V a b)):=by
 show rs (k+2) (fun a=>sg7 a*V 0 a*dt (k+1) (fun i x=>V (i+1) (sk a x)))=_;refine zbj (fun a ha=>?_);have h:=zJm (fun b=>s2 a b*V 0 a*V 1 b*d2 k V a b) (c:=a) (n:=k+1) (by omega)
 have h0:rs (k+2) (fun b=>if b=a then 0 else s2 a b*V 0 a*V 1 b*d2 k V a b)=rs (k+2) (fun b=>s2 a b*V 0 a*V 1 b*d2 k V a b):=by
  refine zbj (fun b _=>?_)
  by_cases e:b=a
  subst e;rw[if_pos rfl];unfold s2;rw[if_pos rfl];grind;rw[if_neg e]
 rw[<- h0];refine Eq.trans ?_ h;show sg7 a*V 0 a*rs (k+1) (fun c=>sg7 c*V 1 (sk a c)*dt k (fun i x=>V (i+2) (sk a (sk c x))))=_;rw[<- zdZ];refine zbj (fun c hc=>?_);unfold s2 d2;rw[if_neg (Ne.symm (zMf a c))]
 by_cases h1:c<a
 ·have e:sk a c=c:=by unfold sk;rw[if_pos h1]
  have n1:¬ a<c:=by omega
  rw[e];simp only[n1,if_false];have e2:dt k (fun i x=>V (i+2) (sk a (sk c x)))=dt k (fun i x=>V (i+2) (sk c (sk (a-1) x))):=zbE (fun i x _ _=>by rw[zMg h1]);rw[e2];grind
 have e:sk a c=c+1:=by unfold sk;rw[if_neg h1]
 have n1:a<c+1:=by omega
 rw[e];simp only[n1,if_true,Nat.add_sub_cancel];grind
def zHH (k:Nat)(V W:Nat->Nat->Rat)(h0:∀ x,W 0 x=V 1 x)(h1:∀ x,W 1 x=V 0 x)(h:∀ i x,W (i+2) x=V (i+2) x):dt (k+2) W = -dt (k+2) V:=by
 rw[zEa,zEa,zzi]
 have e:(-(rs (k+2) (fun a=>rs (k+2) (fun b=>s2 a b*V 0 a*V 1 b*d2 k V a b))))=rs (k+2) (fun a=>rs (k+2) (fun b => -(s2 a b*V 0 a*V 1 b*d2 k V a b))):=by
  have h3:=zdZ (-1) (fun a=>rs (k+2) (fun b=>s2 a b*V 0 a*V 1 b*d2 k V a b)) (k+2)
  have h4:∀ a,(-1:Rat)*rs (k+2) (fun b=>s2 a b*V 0 a*V 1 b*d2 k V a b)=rs (k+2) (fun b => -(s2 a b*V 0 a*V 1 b*d2 k V a b)):=fun a=>by
   rw[<- zdZ];exact zbj (fun b _=>by grind)
  rw[zbj (fun a _=>h4 a)] at h3;grind
 rw[e];refine zbj (fun a _=>zbj (fun b _=>?_));rw[h0,h1,zKg]
 by_cases e:a=b
 ·subst e;have:s2 a a=0:=by unfold s2;rw[if_pos rfl]
  rw[this];grind
 have e2:d2 k W b a=d2 k V a b:=by
  rw[zKh k V e];unfold d2;exact zbE (fun i x _ _=>h i _)
 rw[e2];grind
def zsx:∀ (k:Nat) (V W:Nat->Nat->Rat) {r:Nat},r+1<k->(∀ x,W r x=V (r+1) x)->(∀ x,W (r+1) x=V r x)->(∀ i x,i≠r->i≠r+1->W i x=V i x)->dt k W = -dt k V
 | k+1,V,W,0,hr,h0,h1,h=>by
  obtain⟨k',rfl⟩:∃ k',k=k'+1:=⟨k-1,by omega⟩;exact zHH k' V W h0 h1 (fun i x=>h (i+2) x (by omega) (by omega))
 | k+1,V,W,r+1,hr,h0,h1,h=>by
  unfold dt
  have e : -(rs (k+1) (fun c=>sg7 c*V 0 c*dt k (fun i x=>V (i+1) (sk c x))))=rs (k+1) (fun c => -(sg7 c*V 0 c*dt k (fun i x=>V (i+1) (sk c x)))):=by
   have h3:=zdZ (-1) (fun c=>sg7 c*V 0 c*dt k (fun i x=>V (i+1) (sk c x))) (k+1);rw[zbj (g:=fun c => -(sg7 c*V 0 c*dt k (fun i x=>V (i+1) (sk c x)))) (fun c _=>by grind)] at h3;grind
  rw[e];refine zbj (fun c hc=>?_);rw[h 0 c (by omega) (by omega),zsx k (fun i x=>V (i+1) (sk c x)) (fun i x=>W (i+1) (sk c x)) (r:=r) (by omega) (fun x=>h0 _) (fun x=>h1 _) (fun i x hi hi2=>h (i+1) _ (by omega) (by omega))];grind
def zjs:∀ (d k:Nat) (V:Nat->Nat->Rat) {r:Nat},r+d+1<k->(∀ x,V r x=V (r+d+1) x)->dt k V=0
 | 0,k,V,r,hr,h=>by
  have h1:=zsx k V V (r:=r) hr h (fun x=>(h x).symm) (fun _ _ _ _=>rfl);grind
 | d+1,k,V,r,hr,h=>by
  have h1:=zsx k V (fun i x=>if i=r+d+1 then V (r+d+2) x else if i=r+d+2 then V (r+d+1) x else V i x) (r:=r+d+1) (by omega) (fun x=>by rw[if_pos rfl]) (fun x=>by rw[if_neg (by omega),if_pos rfl]) (fun i x hi hi2=>by rw[if_neg hi,if_neg hi2])
  have h2:=zjs d k (fun i x=>if i=r+d+1 then V (r+d+2) x else if i=r+d+2 then V (r+d+1) x else V i x) (r:=r) (by omega) (fun x=>by
   rw[if_neg (by omega),if_neg (by omega),if_pos rfl];exact h x)
  grind
def zHI {k:Nat}(V:Nat->Nat->Rat){r s:Nat}(t:Rat)(hr:r<k)(hs:s<r):dt k (up V r (fun x=>V r x+t*V s x))=dt k V:=by
 have h:=zgQ V (V r) (V s) 1 t hr;have e1:dt k (up V r (V r))=dt k V:=zbE (fun i x _ _=>by unfold up;split;rename_i e;rw[e];rfl)
 have e2:dt k (up V r (V s))=0:=by
  obtain⟨d,rfl⟩:∃ d,r=s+d+1:=⟨r-s-1,by omega⟩;exact zjs d k _ (r:=s) hr (fun x=>by unfold up;rw[if_neg (by omega),if_pos rfl])
 rw[e1,e2] at h;rw[zbE (W:=up V r (fun x=>1*V r x+t*V s x)) (fun i x _ _=>by unfold up;split;grind;rfl),h];grind
def zEb {k:Nat}(V:Nat->Nat->Rat)(x:Nat->Rat)(e:Nat->Rat)(h:∀ c,c<k+1->e c=rs (k+1) (fun i=>x i*V i c)):dt (k+1) (up V 0 e)=x 0*dt (k+1) V:=by
 have step:∀ n,n<=k+1->dt (k+1) (up V 0 (fun c=>rs n (fun i=>x i*V i c)))=if n=0 then 0 else x 0*dt (k+1) V:=fun n=>by
  induction n with
  | zero =>
   intro _;rw[if_pos rfl];have h2:=zgQ V (k:=k+1) (r:=0) (fun _=>0) (fun _=>0) 0 0 (by omega);rw[zbE (W:=up V 0 (fun x=>(0:Rat)*0+0*0)) (fun i x _ _=>by unfold up;split;exact(show(0:Rat)=0*0+0*0 by grind);rfl),h2];grind
  | succ n ih =>
   intro hn;rw[if_neg (Nat.succ_ne_zero n)];have h2:=zgQ V (k:=k+1) (r:=0) (fun c=>rs n (fun i=>x i*V i c)) (V n) 1 (x n) (by omega);rw[zbE (W:=up V 0 (fun c=>1*rs n (fun i=>x i*V i c)+x n*V n c)) (fun i c _ _=>by unfold up;split;exact(show rs n (fun i=>x i*V i c)+x n*V n c=1*rs n (fun i=>x i*V i c)+x n*V n c by grind);rfl),h2,ih (by omega)]
   by_cases e:n=0
   ·subst e
    rw[if_pos rfl];have e1:dt (k+1) (up V 0 (V 0))=dt (k+1) V:=zbE (fun i x _ _=>by unfold up;split;rename_i e;rw[e];rfl);rw[e1];grind
   rw[if_neg e]
   have e2:dt (k+1) (up V 0 (V n))=0:=by
    obtain⟨d,rfl⟩:∃ d,n=0+d+1:=⟨n-1,by omega⟩;exact zjs d (k+1) _ (r:=0) (by omega) (fun x=>by unfold up;rw[if_pos rfl,if_neg (by omega)])
   rw[e2];grind
 have h1:=step (k+1) (zqab _);rw[if_neg (by omega)] at h1;exact zQbU
def zsy:∀ {k:Nat} (V:Nat->Nat->Rat) {x:Nat},x<k->(∀ i,V i x=0)->dt k V=0
 | k+1,V,x,hx,h=>by
  unfold dt;refine zja (fun c hc=>?_)
  by_cases e:c=x
  subst e;rw[h 0];grind
  have:dt k (fun i y=>V (i+1) (sk c y))=0:=by
   by_cases hcx:c<x
   ·refine zsy _ (x:=x-1) (by omega) (fun i=>?_)
    have:sk c (x-1)=x:=by unfold sk;rw[if_neg (by omega)];omega
    rw[this];exact h _
   refine zsy _ (x:=x) (by omega) (fun i=>?_);have:sk c x=x:=by unfold sk;rw[if_pos (by omega)]
   rw[this];exact h _
  rw[this];grind
def isI (x:Rat):Prop:=∃ z:Int,x=z
def zkP {x y:Rat}(hx:isI x)(hy:isI y):isI (x+y):=by obtain⟨a,rfl⟩:=hx;obtain⟨b,rfl⟩:=hy;exact⟨a+b,by rw[Rat.intCast_add]⟩
def zcT {x y:Rat}(hx:isI x)(hy:isI y):isI (x*y):=by obtain⟨a,rfl⟩:=hx;obtain⟨b,rfl⟩:=hy;exact⟨a*b,by rw[Rat.intCast_mul]⟩
def zEc {f:Nat->Rat}:∀ {n:Nat},(∀ m,m<n->isI (f m))->isI (rs n f)
 | 0,_=>⟨0,rfl⟩
 | n+1,h=>zkP (zEc (fun m hm=>h m (by omega))) (h n (by omega))
def zKi (c:Nat):isI (sg7 c):=by unfold sg7;split;exact⟨1,rfl⟩;exact⟨-1,rfl⟩
def zmT:∀ {k:Nat} {V:Nat->Nat->Rat},(∀ i x,i<k->x<k->isI (V i x))->isI (dt k V)
 | 0,_,_=>⟨1,rfl⟩
 | k+1,V,h=>zEc (fun c hc=>zcT (zcT (zKi c) (h 0 c (by omega) hc)) (zmT (fun i x hi hx=>h (i+1) _ (by omega) (zJl hx))))
def ab (x:Rat):Rat:=if 0<=x then x else -x
def zcF (x:Rat):0<=ab x:=by unfold ab;split <;> grind
def zAS {x y:Rat}(h1:x<=y)(h2 : -x<=y):ab x<=y:=by unfold ab;split <;> grind
def zAT (x:Rat):x<=ab x:=by unfold ab;split <;> grind
def zmU (x:Rat) : -x<=ab x:=by unfold ab;split <;> grind
def zgr {x:Rat}(h:0<=x):ab x=x:=by unfold ab;rw[if_pos h]
def zEd (x y:Rat):ab (x+y)<=ab x+ab y:=by
 have:=zAT x;have:=zAT y;have:=zmU x;have:=zmU y;refine zAS ?_ ?_ <;> grind
def zkQ (x y:Rat):ab (x*y)=ab x*ab y:=by
 unfold ab
 by_cases hx:0<=x <;> by_cases hy:0<=y
 rw[if_pos hx,if_pos hy,if_pos (Rat.mul_nonneg hx hy)]
 ·rw[if_pos hx,if_neg hy]
  have h:=Rat.mul_nonneg hx (show 0 <= -y by grind);split <;> grind
 ·rw[if_neg hx,if_pos hy]
  have h:=Rat.mul_nonneg (show 0 <= -x by grind) hy;split <;> grind
 rw[if_neg hx,if_neg hy];have h:=Rat.mul_nonneg (show 0 <= -x by grind) (show 0 <= -y by grind);split <;> grind
def zLt (c:Nat):ab (sg7 c)=1:=by unfold ab sg7;split <;> split <;> grind
def zJn (f:Nat->Rat):∀ n,ab (rs n f)<=rs n (fun m=>ab (f m))
 | 0=>by unfold ab rs;simp
 | n+1=>by
  have h1:=zJn f n;have h2:=zEd (rs n f) (f n);unfold rs;grind
def zdS {f:Nat->Rat}:∀ {n:Nat},(∀ m,m<n->0<=f m)->0<=rs n f
 | 0,_=>Rat.le_refl
 | n+1,h=>by
  have h1:=zdS (n:=n) (fun m hm=>h m (by omega));have h2:=h n (by omega);unfold rs;grind
def rp:Nat->(Nat->Rat)->Rat
 | 0,_=>1
 | n+1,f=>rp n f*f n
def zjt {f g:Nat->Rat}:∀ {n:Nat},(∀ m,m<n->f m=g m)->rp n f=rp n g
 | 0,_=>rfl
 | n+1,h=>by unfold rp;rw[zjt (fun m hm=>h m (by omega)),h n (by omega)]
def ztv {f:Nat->Rat}:∀ {n:Nat},(∀ m,m<n->0<=f m)->0<=rp n f
 | 0,_=>by unfold rp;grind
 | n+1,h=>Rat.mul_nonneg (ztv (fun m hm=>h m (by omega))) (h n (by omega))
def zjY {f g:Nat->Rat}:∀ {n:Nat},(∀ m,m<n->0<=f m)->(∀ m,m<n->f m<=g m)->rp n f<=rp n g
 | 0,_,_=>Rat.le_refl
 | n+1,h0,h=>by
  have h1:=zjY (n:=n) (fun m hm=>h0 m (by omega)) (fun m hm=>h m (by omega));have h2:=h n (by omega);have h3:=ztv (n:=n) (fun m hm=>h0 m (by omega));have h4:=h0 n (by omega);have h5:=Rat.mul_le_mul_of_nonneg_right h1 h4;have h6:=zqai h2 (zqar h3 h1);unfold rp;exact zqar h5 h6
def zJo {s:Nat->Rat}{c n:Nat}(h:c<=n):rp (n+1) (fun x=>s (sk c x))=rp n (fun x=>s (sk c x))*s (n+1):=by
 show rp n (fun x=>s (sk c x))*s (sk c n)=_;have:sk c n=n+1:=by unfold sk;rw[if_neg (by omega)]
 rw[this]
def ztw {a s:Nat->Rat}(ha:∀ x,0<=a x)(hs:∀ x,0<=s x):∀ n,rs (n+1) (fun c=>a c*rp n (fun x=>s (sk c x)))<=rp (n+1) (fun x=>a x+s x)
 | 0=>by
  have:=hs 0;show 0+a 0*1<=1*(a 0+s 0);grind
 | n+1=>by
  have ih:=ztw ha hs n
  have e1:rs (n+1) (fun c=>a c*rp (n+1) (fun x=>s (sk c x)))=s (n+1)*rs (n+1) (fun c=>a c*rp n (fun x=>s (sk c x))):=by
   rw[<- zdZ];refine zbj (fun c hc=>?_);rw[zJo (by omega)];grind
  have e2:rp (n+1) (fun x=>s (sk (n+1) x))=rp (n+1) s:=zjt (fun m hm=>by unfold sk;rw[if_pos hm]);show rs (n+1) (fun c=>a c*rp (n+1) (fun x=>s (sk c x)))+a (n+1)*rp (n+1) (fun x=>s (sk (n+1) x))<=rp (n+1) (fun x=>a x+s x)*(a (n+1)+s (n+1));rw[e1,e2];have h1:=zqai ih (hs (n+1));have h2:=zjY (f:=s) (g:=fun x=>a x+s x) (n:=n+1) (fun m _=>hs m) (fun m _=>by have:=ha m;grind);have h3:=zqai h2 (ha (n+1));grind
def zju:∀ (k:Nat) (V:Nat->Nat->Rat),ab (dt k V)<=rp k (fun x=>rs k (fun i=>ab (V i x)))
 | 0,V=>by unfold ab dt rp;grind
 | k+1,V=>by
  have h1:=zJn (fun c=>sg7 c*V 0 c*dt k (fun i x=>V (i+1) (sk c x))) (k+1)
  have h2:rs (k+1) (fun c=>ab (sg7 c*V 0 c*dt k (fun i x=>V (i+1) (sk c x))))<=rs (k+1) (fun c=>ab (V 0 c)*rp k (fun x=>rs k (fun i=>ab (V (i+1) (sk c x))))):=by
   refine zjX (fun c hc=>?_);rw[zkQ,zkQ,zLt,Rat.one_mul];exact zqai (zju k (fun i x=>V (i+1) (sk c x))) (zcF _)
  have h3:=ztw (a:=fun x=>ab (V 0 x)) (s:=fun x=>rs k (fun i=>ab (V (i+1) x))) (fun x=>zcF _) (fun x=>zdS (fun m _=>zcF _)) k;refine zqar h1 (zqar h2 (zqar h3 ?_));refine zjY (fun m _=>?_) (fun m _=>?_);have:=zcF (V 0 m);have:=zdS (f:=fun i=>ab (V (i+1) m)) (n:=k) (fun m _=>zcF _);grind
  have e:∀ n,rs (n+1) (fun i=>ab (V i m))=ab (V 0 m)+rs n (fun i=>ab (V (i+1) m)):=fun n=>by
   induction n with
   | zero=>show 0+ab (V 0 m)=ab (V 0 m)+0;grind
   | succ n ih =>
    show rs (n+1) (fun i=>ab (V i m))+ab (V (n+1) m)=ab (V 0 m)+(rs n (fun i=>ab (V (i+1) m))+ab (V (n+1) m));rw[ih];grind
  rw[e];exact Rat.le_refl
def ztx (k:Nat)(V:Nat->Nat->Rat)(t:Nat->Rat):∀ r,r<=k->dt (k+1) (fun i x=>if 0<i/\i<=r then V i x+t i*V 0 x else V i x)=dt (k+1) V
 | 0,_=>zbE (fun i x _ _=>by rw[if_neg (by omega)])
 | r+1,h=>by
  have ih:=ztx k V t r (by omega);have h2:=zHI (k:=k+1) (fun i x=>if 0<i/\i<=r then V i x+t i*V 0 x else V i x) (r:=r+1) (s:=0) (t (r+1)) (by omega) (by omega);rw[ih] at h2;rw[<- h2];refine zbE (fun i x _ _=>?_);unfold up
  by_cases e:i=r+1
  ·subst e
   rw[if_pos rfl];dsimp only;rw[if_pos (show 0<r+1/\r+1<=r+1 by omega),if_neg (show ¬ (0<r+1/\r+1<=r) by omega),if_neg (show ¬ (0<0/\0<=r) by omega)]
  rw[if_neg e];dsimp only
  by_cases e2:0<i/\i<=r
  rw[if_pos (show 0<i/\i<=r+1 by omega),if_pos e2];rw[if_neg (show ¬ (0<i/\i<=r+1) by omega),if_neg e2]
def zpl (a:Nat->Nat->Rat)(x y:Nat):Rat:=a (x+1) (y+1)+a (x+1) 0*a 0 (y+1)/(1-a 0 0)
def idV (a:Nat->Nat->Rat)(y x:Nat):Rat:=(if x=y then 1 else 0)-a x y
def zHJ (k:Nat)(a:Nat->Nat->Rat)(h:1-a 0 0≠0):dt (k+1) (idV a)=(1-a 0 0)*dt k (idV (zpl a)):=by
 rw[<- ztx k (idV a) (fun y=>a 0 y/(1-a 0 0)) k (zqab k)]
 have hz:∀ y,0<y->idV a y 0+a 0 y/(1-a 0 0)*idV a 0 0=0:=fun y hy=>by
  unfold idV;rw[if_neg (by omega),if_pos rfl,Rat.div_mul_cancel h];grind
 have e:∀ n,rs (n+1) (fun c=>sg7 c*(if 0<0/\0<=k then idV a 0 c+a 0 0/(1-a 0 0)*idV a 0 c else idV a 0 c)*dt k (fun i x=>if 0<i+1/\i+1<=k then idV a (i+1) (sk c x)+a 0 (i+1)/(1-a 0 0)*idV a 0 (sk c x) else idV a (i+1) (sk c x)))=(1-a 0 0)*dt k (idV (zpl a))∨k<n:=fun n=>by
  induction n with
  | zero =>
   left;show 0+sg7 0*(if 0<0/\0<=k then idV a 0 0+a 0 0/(1-a 0 0)*idV a 0 0 else idV a 0 0)*dt k (fun i x=>if 0<i+1/\i+1<=k then idV a (i+1) (sk 0 x)+a 0 (i+1)/(1-a 0 0)*idV a 0 (sk 0 x) else idV a (i+1) (sk 0 x))=_;rw[if_neg (by omega)];have e0:sg7 0=1:=rfl;have e1:idV a 0 0=1-a 0 0:=by unfold idV;rw[if_pos rfl]
   have e2:dt k (fun i x=>if 0<i+1/\i+1<=k then idV a (i+1) (sk 0 x)+a 0 (i+1)/(1-a 0 0)*idV a 0 (sk 0 x) else idV a (i+1) (sk 0 x))=dt k (idV (zpl a)):=by
    refine zbE (fun i x hi hx=>?_);rw[if_pos (by omega)];have:sk 0 x=x+1:=by unfold sk;rw[if_neg (by omega)]
    rw[this];unfold idV zpl;rw[if_neg (show ¬ x+1=0 by omega)]
    by_cases e:x=i
    ·rw[if_pos e,if_pos (by omega)]
     rw[Rat.div_def,Rat.div_def];grind
    rw[if_neg e,if_neg (by omega)];rw[Rat.div_def,Rat.div_def];grind
   rw[e0,e1,e2];grind
  | succ n ih =>
   rcases ih with ih|ih
   ·by_cases hn:k<n+1
    ·exact .inr hn
    left
    have h0:dt k (fun i x=>if 0<i+1/\i+1<=k then idV a (i+1) (sk (n+1) x)+a 0 (i+1)/(1-a 0 0)*idV a 0 (sk (n+1) x) else idV a (i+1) (sk (n+1) x))=0:=by
     rw[zbE (W:=fun i x=>idV a (i+1) (sk (n+1) x)+a 0 (i+1)/(1-a 0 0)*idV a 0 (sk (n+1) x)) (fun i x hi hx=>by rw[if_pos (by omega)])];refine zsy _ (x:=0) (by omega) (fun i=>?_);have:sk (n+1) 0=0:=by unfold sk;rw[if_pos (by omega)]
     rw[this];exact hz (i+1) (by omega)
    unfold rs;rw[ih];dsimp only;rw[h0];grind
   exact .inr (by omega)
 rcases e k with h1|h1;exact h1;omega
open Go.RowKit
def zMh:zad 2:=.inr (.inl rfl)
def S2:Sr (El 2):=srE 2 zMh
def zav (v:El 2):Prop:=∃ x,v.1=.inr x
def val (v:El 2):Rat:=match v.1 with
 | .inr x=>x
 | _=>0
def El2.cases (v:El 2):v.1=.inl true∨∃ x,v.1=.inr x/\0<=x:=by
 rcases zaE v.1 v.2 with h|⟨x,h,hx⟩;exact .inl h;exact .inr ⟨x,h,hx⟩
def zdi {v:El 2}:¬ zav v↔v.1=.inl true:=by
 constructor
 ·intro h
  rcases El2.cases v with h2|⟨x,h2,_⟩;exact h2;exact absurd ⟨x,h2⟩ h
 rintro h ⟨x,h2⟩;rw[h] at h2;cases h2
def zjv {v:El 2}{x:Rat}(h:v.1=.inr x):val v=x:=by unfold val;rw[h]
def zdV {v:El 2}(h:zav v):v.1=.inr (val v):=by obtain⟨x,hx⟩:=h;rw[zjv hx];exact hx
def zcp (v:El 2):0<=val v:=by
 rcases El2.cases v with h|⟨x,h,hx⟩;unfold val;rw[h];exact Rat.le_refl;rw[zjv h];exact hx
def zjw:zav S2.zero:=⟨0,rfl⟩
def zeA:val S2.zero=0:=rfl
def zzj {v:El 2}(hf:zav v)(h:v≠S2.zero):val v≠0:=fun e=>h (Subtype.ext (by rw[zdV hf,e];rfl))
def zjb {u v:El 2}:zav (S2.add u v)↔zav u/\zav v:=by
 constructor
 ·intro h
  refine⟨?_,?_⟩
  ·refine Classical.byContradiction (fun hn=>zdi.2 ?_ h)
   show zdr u.1 v.1=_;rw[zdi.1 hn,zbD]
  refine Classical.byContradiction (fun hn=>zdi.2 ?_ h);show zdr u.1 v.1=_;rw[zdi.1 hn,zbs]
 rintro ⟨⟨x,hx⟩,y,hy⟩;exact⟨x+y,by show zdr u.1 v.1=_;rw[hx,hy,zbW]⟩
def zjc {u v:El 2}(hu:zav u)(hv:zav v):val (S2.add u v)=val u+val v:=zjv (by show zdr u.1 v.1=_;rw[zdV hu,zdV hv,zbW])
def zgR {u v:El 2}(hu:zav u)(hv:zav v):zav (S2.mul u v):=⟨val u*val v,by show zaP u.1 v.1=_;rw[zdV hu,zdV hv,zbt]⟩
def zjd {u v:El 2}(hu:zav u)(hv:zav v):val (S2.mul u v)=val u*val v:=zjv (by show zaP u.1 v.1=_;rw[zdV hu,zdV hv,zbt])
def zsz {u v:El 2}(hu:u≠S2.zero)(hv:v.1=.inl true):(S2.mul u v).1=.inl true:=by
 show zaP u.1 v.1=_;rw[hv];rcases El2.cases u with h|⟨x,h,hx⟩
 rw[h,zbC];rw[h,zaW (fun e=>hu (Subtype.ext (by rw[h,e];rfl)))]
def zgf {u v:El 2}(h:zav (S2.mul u v))(hu:u≠S2.zero):zav v:=Classical.byContradiction (fun hn=>zdi.2 (zsz hu (zdi.1 hn)) h)
def zid {u v:El 2}(h:zav (S2.mul u v))(hv:v≠S2.zero):zav u:=zgf (S2.mul_comm u v▸h) hv
def zkR (u v:El 2)(hu:u≠S2.zero)(hv:v≠S2.zero):S2.mul u v≠S2.zero:=by
 intro e
 by_cases hf:zav v
 ·by_cases hg:zav u
  ·have h:=zqbz val e
   rw[zjd hg hf,zeA] at h;rcases Rat.mul_eq_zero.1 h with h|h
   exact zzj hg hu h;exact zzj hf hv h
  have h:=zsz hv (zdi.1 hg);rw[S2.mul_comm,e] at h;cases h
 have h:=zsz hu (zdi.1 hf);rw[e] at h;cases h
def zqN {u v:El 2}(h:S2.le u v)(hv:zav v):zav u:=by
 refine Classical.byContradiction (fun hn=>?_);have h1:leE u.1 v.1:=h;rw[zdi.1 hn,zdV hv] at h1;exact zci _ h1
def zkS {f:Nat->El 2}:∀ {n:Nat},zav (sm S2 n f)↔∀ m,m<n->zav (f m)
 | 0=>⟨fun _ m hm=>by omega,fun _=>zjw⟩
 | n+1=>by
  show zav (S2.add (sm S2 n f) (f n))↔_;rw[zjb,zkS];constructor
  ·rintro ⟨h1,h2⟩ m hm
   by_cases e:m=n
   rw[e];exact h2;exact h1 m (by omega)
  intro h;exact⟨fun m hm=>h m (by omega),h n (by omega)⟩
def zvQ {f:Nat->El 2}:∀ {n:Nat},(∀ m,m<n->zav (f m))->val (sm S2 n f)=rs n (fun m=>val (f m))
 | 0,_=>rfl
 | n+1,h=>by
  show val (S2.add (sm S2 n f) (f n))=_;rw[zjc (zkS.2 (fun m hm=>h m (by omega))) (h n (by omega)),zvQ (fun m hm=>h m (by omega))];rfl
def zvR {u:El 2}(h:zav (S2.mul (S2.star u) u)):zav u/\val u<1/\zav (S2.star u)/\val (S2.star u)=1/(1-val u):=by
 have key:∀ x:Rat,u.1=.inr x->x<1->zav u/\val u<1/\zav (S2.star u)/\val (S2.star u)=1/(1-val u):=fun x hx h1=>by
  have e:(S2.star u).1=.inr (1/(1-x)):=by
   show zcJ 2 u.1=_;rw[hx];show(if x<1 then Sum.inr (1/(1-x)) else .inl true)=_;rw[if_pos h1]
  rw[zjv hx,zjv e];exact⟨⟨x,hx⟩,h1,⟨_,e⟩,rfl⟩
 by_cases hz:u=S2.zero
 exact key 0 (by rw[hz];rfl) (by decide +kernel);have hs:zav (S2.star u):=zid h hz
 have hsn:S2.star u≠S2.zero:=fun e=>by
  have h1:=S2.star_law u;rw[e] at h1;have h2:=S2.zero_left h1;have h3:=zqbz val h2;rw[zeA] at h3;have:val S2.one=1:=rfl;rw[this] at h3
  revert h3;decide +kernel
 have hu:zav u:=zgf h hsn;refine key (val u) (zdV hu) (Classical.byContradiction (fun hn=>zdi.2 ?_ hs));show zcJ 2 u.1=_;rw[zdV hu];show(if val u<1 then Sum.inr (1/(1-val u)) else .inl true)=_;rw[if_neg hn]
def zAU:∀ (r:Nat) (a:Nat->Nat->El 2),(∀ t x y,t<=r->x<r->y<r->zav (el S2 a t x y))->dt r (idV (fun x y=>val (a x y)))≠0
 | 0,a,_=>by show(1:Rat)≠0;decide +kernel
 | r+1,a,h=>by
  have h1:zav (S2.mul (S2.star (el S2 a 0 0 0)) (el S2 a 0 0 0)):=by
   have:=h 1 0 0 (by omega) (by omega) (by omega)
   rwa [zmv] at this
  obtain⟨hu,hlt,hsf,hsv⟩:=zvR h1;have hlt2:val (a 0 0)<1:=hlt;have hne:1-val (a 0 0)≠0:=fun e=>by grind
  rw[zHJ r (fun x y=>val (a x y)) hne]
  have ih:=zAU r (fun x y=>el S2 a 1 (x+1) (y+1)) (fun t x y ht hx hy=>by
   rw[zgw];exact h (t+1) (x+1) (y+1) (by omega) (by omega) (by omega))
  have e:dt r (idV (zpl (fun x y=>val (a x y))))=dt r (idV (fun x y=>val (el S2 a 1 (x+1) (y+1)))):=by
   refine zbE (fun i x hi hx=>?_);unfold idV;congr 1;show zpl (fun x y=>val (a x y)) x i=val (S2.add (a (x+1) (i+1)) (S2.mul (S2.mul (a (x+1) 0) (S2.star (a 0 0))) (a 0 (i+1))));have f1:zav (a (x+1) (i+1)):=h 0 (x+1) (i+1) (by omega) (by omega) (by omega);have f2:zav (a (x+1) 0):=h 0 (x+1) 0 (by omega) (by omega) (by omega);have f3:zav (a 0 (i+1)):=h 0 0 (i+1) (by omega) (by omega) (by omega);have hsf2:zav (S2.star (a 0 0)):=hsf;have hsv2:val (S2.star (a 0 0))=1/(1-val (a 0 0)):=hsv;rw[zjc f1 (zgR (zgR f2 hsf2) f3),zjd (zgR f2 hsf2) f3,zjd f2 hsf2,hsv2];unfold zpl;rw[Rat.div_def,Rat.div_def];grind
  rw[e];intro h0;rcases Rat.mul_eq_zero.1 h0 with h0|h0
  exact hne h0;exact ih h0
open Go.RowKit
variable {α:Type}
def zvS (S:Sr α)(f:Nat->α):∀ n,sm S (n+1) f=S.add (f 0) (sm S n (fun m=>f (m+1)))
 | 0=>by show S.add S.zero (f 0)=S.add (f 0) S.zero;rw[S.add_comm]
 | n+1=>by
  show S.add (sm S (n+1) f) (f (n+1))=S.add (f 0) (S.add (sm S n (fun m=>f (m+1))) (f (n+1)));rw[zvS S f n,S.add_assoc]
def zlz (f:Nat->Rat):∀ n,rs (n+1) f=f 0+rs n (fun m=>f (m+1))
 | 0=>by show 0+f 0=f 0+0;grind
 | n+1=>by
  show rs (n+1) f+f (n+1)=f 0+(rs n (fun m=>f (m+1))+f (n+1));rw[zlz f n];grind
def zvT (f:Nat->Rat):∀ n,rp (n+1) f=f 0*rp n (fun m=>f (m+1))
 | 0=>by show 1*f 0=f 0*1;grind
 | n+1=>by
  show rp (n+1) f*f (n+1)=f 0*(rp n (fun m=>f (m+1))*f (n+1));rw[zvT f n];grind
def zol (f:Nat->Rat):∀ {n c:Nat},c<n->rs n (fun y=>f y*(if c=y then 1 else 0))=f c
 | n+1,c,h=>by
  show rs n (fun y=>f y*(if c=y then 1 else 0))+f n*(if c=n then 1 else 0)=_
  by_cases e:c=n
  ·subst e
   rw[if_pos rfl,zja (fun m hm=>by rw[if_neg (by omega)];grind)];grind
  rw[if_neg e,zol f (by omega)];grind
def zzk (f:Nat->Rat)(p:Nat->Bool):∀ k,rs ((List.range k).filter p).length (fun x=>f (((List.range k).filter p).getD x 0))=rs k (fun m=>if p m=true then f m else 0)
 | 0=>rfl
 | k+1=>by
  have ih:=zzk f p k;show _=rs k (fun m=>if p m=true then f m else 0)+(if p k=true then f k else 0);rw[<- ih,List.range_succ,List.filter_append]
  by_cases hk:p k=true
  ·rw[if_pos hk]
   have e1:[k].filter p=[k]:=by simp[hk]
   rw[e1,zqag,zqbq];show rs ((List.range k).filter p).length (fun x=>f ((((List.range k).filter p)++[k]).getD x 0))+f ((((List.range k).filter p)++[k]).getD ((List.range k).filter p).length 0)=_
   have e2:(((List.range k).filter p)++[k]).getD ((List.range k).filter p).length 0=k:=by
    exact zQbS
   rw[e2];congr 1;refine zbj (fun m hm=>?_);rw[zqaa,zqaa,zqal hm]
  rw[if_neg hk];have e1:[k].filter p=[]:=by simp[hk]
  rw[e1,List.append_nil];grind
def zzl (f:Nat->Rat)(p:Nat->Bool):∀ k,rp ((List.range k).filter p).length (fun x=>f (((List.range k).filter p).getD x 0))=rp k (fun m=>if p m=true then f m else 1)
 | 0=>rfl
 | k+1=>by
  have ih:=zzl f p k;show _=rp k (fun m=>if p m=true then f m else 1)*(if p k=true then f k else 1);rw[<- ih,List.range_succ,List.filter_append]
  by_cases hk:p k=true
  ·rw[if_pos hk]
   have e1:[k].filter p=[k]:=by simp[hk]
   rw[e1,zqag,zqbq];show rp ((List.range k).filter p).length (fun x=>f ((((List.range k).filter p)++[k]).getD x 0))*f ((((List.range k).filter p)++[k]).getD ((List.range k).filter p).length 0)=_
   have e2:(((List.range k).filter p)++[k]).getD ((List.range k).filter p).length 0=k:=by
    exact zQbS
   rw[e2];congr 1;refine zjt (fun m hm=>?_);rw[zqaa,zqaa,zqal hm]
  rw[if_neg hk];have e1:[k].filter p=[]:=by simp[hk]
  rw[e1,List.append_nil];grind
def zHK {p:Nat->Bool}{k x:Nat}(h:x<((List.range k).filter p).length):((List.range k).filter p).getD x 0<k/\p (((List.range k).filter p).getD x 0)=true:=by
 rw[zqaa,zqac h];have:=List.mem_filter.1 (List.getElem_mem h);exact⟨List.mem_range.1 this.1,this.2⟩
def zjZ {f:Nat->Rat}:∀ {n:Nat},(∀ m,m<n->1<=f m)->1<=rp n f
 | 0,_=>by unfold rp;grind
 | n+1,h=>by
  have h1:=zjZ (n:=n) (fun m hm=>h m (by omega));have h2:=h n (by omega);have h3:=zqai h2 (show 0<=rp n f by grind);unfold rp;grind
def zzm {f:Nat->Rat}{n:Nat}:∀ d,(∀ m,m<n+d->1<=f m)->rp n f<=rp (n+d) f
 | 0,_=>Rat.le_refl
 | d+1,h=>by
  have h1:=zzm (f:=f) (n:=n) d (fun m hm=>h m (by omega));have h2:=h (n+d) (by omega);have h3:=zjZ (n:=n+d) (fun m hm=>h m (by omega));have h4:=zqai h2 (show 0<=rp (n+d) f by grind);show rp n f<=rp (n+d) f*f (n+d);grind
def zEe (D:Nat->Rat):∀ {n c:Nat},c<=n->rp (n+1) D=D c*rp n (fun x=>D (sk c x))
 | 0,c,h=>by
  have:c=0:=by omega
  subst this;show 1*D 0=D 0*1;grind
 | n+1,c,h=>by
  by_cases e:c=n+1
  ·subst e
   rw[zjt (f:=fun x=>D (sk (n+1) x)) (g:=D) (fun m hm=>by unfold sk;rw[if_pos hm])];show rp (n+1) D*D (n+1)=_;grind
  have ih:=zEe D (c:=c) (n:=n) (by omega);rw[zJo (by omega)];show rp (n+1) D*D (n+1)=_;rw[ih];grind
def zpm:∀ (k:Nat) (D:Nat->Rat) (V:Nat->Nat->Rat),dt k (fun i x=>D x*V i x)=rp k D*dt k V
 | 0,D,V=>by show(1:Rat)=1*1;grind
 | k+1,D,V=>by
  show rs (k+1) (fun c=>sg7 c*(D c*V 0 c)*dt k (fun i x=>D (sk c x)*V (i+1) (sk c x)))=rp (k+1) D*rs (k+1) (fun c=>sg7 c*V 0 c*dt k (fun i x=>V (i+1) (sk c x)));rw[<- zdZ];refine zbj (fun c hc=>?_);rw[zpm k (fun x=>D (sk c x)) (fun i x=>V (i+1) (sk c x)),zEe D (c:=c) (n:=k) (by omega)];grind
def zhJ {A:Nat->Nat->El 2}{k i j:Nat}(h:zav (el S2 A k i j)):zav (A i j)/\∀ m,m<k->zav (S2.mul (A i m) (el S2 A k m j)):=by
 rw[zcu S2 A k i j] at h;have h2:=zjb.1 h;exact⟨h2.1,zkS.1 h2.2⟩
def zlA {A:Nat->Nat->El 2}{k i j m:Nat}(hr:Rch S2 A k i m)(hm:m<k)(h:zav (el S2 A k i j)):zav (el S2 A k m j):=by
 induction hr with
 | one h1=>exact zgf ((zhJ h).2 _ hm) h1
 | more hl h1 _ ih=>exact ih hm (zgf ((zhJ h).2 _ hl) h1)
def zlB {A:Nat->Nat->El 2}{k x j v:Nat}(hv:v<k)(hn:el S2 A k v j≠S2.zero)(h:zav (el S2 A k x j)):zav (el S2 A k x v):=by
 have h1:Rch S2 (fun a b=>A b a) k j v:=zhe S2 _ k j v (by rw[zfm];exact hn);have h2:=zlA (A:=fun a b=>A b a) (j:=x) h1 hv (by rw[zfm];exact h)
 rwa [zfm] at h2
open Classical in
noncomputable def onB (A:Nat->Nat->El 2)(k i j m:Nat):Bool:=decide (el S2 A k i m≠S2.zero/\el S2 A k m j≠S2.zero)
def zzn {A:Nat->Nat->El 2}{k i j m:Nat}:onB A k i j m=true↔el S2 A k i m≠S2.zero/\el S2 A k m j≠S2.zero:=by unfold onB;simp
noncomputable def onL (A:Nat->Nat->El 2)(k i j:Nat):List Nat:=(List.range k).filter (onB A k i j)
noncomputable def nd (A:Nat->Nat->El 2)(k i j c:Nat):Nat:=if c=0 then i else (onL A k i j).getD (c-1) 0
noncomputable def onA (A:Nat->Nat->El 2)(k i j x y:Nat):El 2:=if y=0 then S2.zero else A (nd A k i j x) (nd A k i j y)
def zkT (A:Nat->Nat->El 2)(k i j c:Nat):nd A k i j (c+1)=(onL A k i j).getD c 0:=by unfold nd;rw[if_neg (by omega),Nat.add_sub_cancel]
def zqO {A:Nat->Nat->El 2}{k i j c:Nat}(h:c<(onL A k i j).length):nd A k i j (c+1)<k/\el S2 A k i (nd A k i j (c+1))≠S2.zero/\el S2 A k (nd A k i j (c+1)) j≠S2.zero:=by
 rw[zkT];have:=zHK h;exact⟨this.1,zzn.1 this.2⟩
section
variable {A:Nat->Nat->El 2} {k i j:Nat}
def zkU (h:zav (el S2 A k i j)){c:Nat}(hc:c<(onL A k i j).length+1):zav (el S2 A k (nd A k i j c) j):=by
 cases c with
 | zero=>exact h
 | succ c =>
  obtain⟨h1,h2,_⟩:=zqO (show c<(onL A k i j).length by omega);exact zlA (zhe S2 A k i _ h2) h1 h
def zvU (h:zav (el S2 A k i j)){c y:Nat}(hc:c<(onL A k i j).length+1)(hy:y<(onL A k i j).length):zav (A (nd A k i j c) (nd A k i j (y+1))):=by
 obtain⟨h1,_,h3⟩:=zqO hy;exact zid ((zhJ (zkU h hc)).2 _ h1) h3
def zHL (h:zav (el S2 A k i j)){c m:Nat}(hc:c<(onL A k i j).length+1)(hm:m<k)(hp:¬ onB A k i j m=true):S2.mul (A (nd A k i j c) m) (el S2 A k m j)=S2.zero:=by
 refine Classical.byContradiction (fun hn=>hp (zzn.2 ?_));have h1:A (nd A k i j c) m≠S2.zero:=fun e=>hn (by rw[e,S2.zero_mul]);have h2:el S2 A k m j≠S2.zero:=fun e=>hn (by rw[e,S2.mul_zero]);refine⟨?_,h2⟩;cases c with
 | zero=>exact zkL S2 zkR A (.one h1)
 | succ c =>
  obtain⟨g1,g2,_⟩:=zqO (show c<(onL A k i j).length by omega);exact zkL S2 zkR A ((zhe S2 A k i _ g2).trans g1 (.one h1))
def zLu (h:zav (el S2 A k i j)){c:Nat}(hc:c<(onL A k i j).length+1) :
  sm S2 (onL A k i j).length (fun y=>S2.mul (A (nd A k i j c) (nd A k i j (y+1))) (el S2 A k (nd A k i j (y+1)) j))=sm S2 k (fun m=>S2.mul (A (nd A k i j c) m) (el S2 A k m j)):=by
 have e:=zrK S2 (fun m=>S2.mul (A (nd A k i j c) m) (el S2 A k m j)) (onB A k i j) k;rw[zat S2 (g:=fun x=>S2.mul (A (nd A k i j c) ((onL A k i j).getD x 0)) (el S2 A k ((onL A k i j).getD x 0) j)) (fun y _=>by rw[zkT])];refine e.trans (zat S2 (fun m hm=>?_))
 by_cases hp:onB A k i j m=true
 rw[if_pos hp];rw[if_neg hp];exact(zHL h hc hm hp).symm
def zLv (h:zav (el S2 A k i j)){t x y:Nat}(ht:t<=(onL A k i j).length+1)(hx:x<(onL A k i j).length+1)(hy:y<(onL A k i j).length+1):zav (el S2 (onA A k i j) t x y):=by
 have hfull:zav (el S2 (onA A k i j) ((onL A k i j).length+1) x y):=by
  cases y with
  | zero =>
   rw[zgv];refine zjb.2 ⟨zjw,zkS.2 (fun m _=>?_)⟩;have:onA A k i j m 0=S2.zero:=by unfold onA;rw[if_pos rfl]
   rw[this,S2.mul_zero];exact zjw
  | succ y =>
   obtain⟨g1,g2,g3⟩:=zqO (show y<(onL A k i j).length by omega);have hX:zav (el S2 A k (nd A k i j x) (nd A k i j (y+1))):=zlB g1 g3 (zkU h hx);refine zqN ?_ hX;have hl:=zhC S2 (onA A k i j) (fun x=>onA A k i j x (y+1)) (fun x=>el S2 A k (nd A k i j x) (nd A k i j (y+1))) (n:=(onL A k i j).length+1) (fun x hx=>?_) ((onL A k i j).length+1) (zqab _) x hx
   ·rw[zgv]
    rw[zat S2 (g:=fun m=>S2.mul (el S2 (onA A k i j) ((onL A k i j).length+1) x m) (onA A k i j m (y+1))) (fun m hm=>by rw[if_pos hm])] at hl;exact hl
   have e0:onA A k i j x (y+1)=A (nd A k i j x) (nd A k i j (y+1)):=by unfold onA;rw[if_neg (by omega)]
   rw[e0,zcu S2 A k (nd A k i j x) (nd A k i j (y+1))];refine S2.add_mono _ _ _ _ (S2.le_refl _) ?_;rw[zvS]
   have e1:S2.mul (onA A k i j x 0) (el S2 A k (nd A k i j 0) (nd A k i j (y+1)))=S2.zero:=by
    have:onA A k i j x 0=S2.zero:=by unfold onA;rw[if_pos rfl]
    rw[this,S2.zero_mul]
   rw[e1,S2.zero_add];have e2:=zrK S2 (fun m=>S2.mul (A (nd A k i j x) m) (el S2 A k m (nd A k i j (y+1)))) (onB A k i j) k
   have e3:sm S2 (onL A k i j).length (fun m=>S2.mul (onA A k i j x (m+1)) (el S2 A k (nd A k i j (m+1)) (nd A k i j (y+1))))=sm S2 ((List.range k).filter (onB A k i j)).length (fun z=>S2.mul (A (nd A k i j x) (((List.range k).filter (onB A k i j)).getD z 0)) (el S2 A k (((List.range k).filter (onB A k i j)).getD z 0) (nd A k i j (y+1)))):=by
    refine zat S2 (fun m _=>?_);have:onA A k i j x (m+1)=A (nd A k i j x) (nd A k i j (m+1)):=by unfold onA;rw[if_neg (by omega)]
    rw[this,zkT A k i j m];rfl
   rw[e3,e2];refine ziY S2 (fun m _=>?_)
   by_cases hp:onB A k i j m=true
   rw[if_pos hp];exact S2.le_refl _;rw[if_neg hp];exact S2.zero_le _
 have hg:=zrL S2 (onA A k i j) x y ((onL A k i j).length+1-t) t;rw[show t+((onL A k i j).length+1-t)=(onL A k i j).length+1 by omega] at hg;exact zqN hg hfull
def zMi (h:zav (el S2 A k i j)){c:Nat}(hc:c<(onL A k i j).length+1) :
  val (A (nd A k i j c) j)=rs ((onL A k i j).length+1) (fun y=>val (el S2 A k (nd A k i j y) j)*idV (fun x y=>val (onA A k i j x y)) y c):=by
 have hB:=zkU h hc;have hr:=zhJ hB;have e1:=zqbz val (zcu S2 A k (nd A k i j c) j);rw[zjc hr.1 (zkS.2 hr.2),<- zLu h hc,zvQ (fun m hm=>zgR (zvU h hc hm) (zkU h (by omega)))] at e1;rw[zbj (g:=fun m=>val (A (nd A k i j c) (nd A k i j (m+1)))*val (el S2 A k (nd A k i j (m+1)) j)) (fun m hm=>zjd (zvU h hc hm) (zkU h (by omega)))] at e1
 have e2:rs ((onL A k i j).length+1) (fun y=>val (el S2 A k (nd A k i j y) j)*idV (fun x y=>val (onA A k i j x y)) y c)=rs ((onL A k i j).length+1) (fun y=>val (el S2 A k (nd A k i j y) j)*(if c=y then 1 else 0))+rs ((onL A k i j).length+1) (fun y=>(-1)*(val (onA A k i j c y)*val (el S2 A k (nd A k i j y) j))):=by
  rw[<- zhq];refine zbj (fun y _=>?_);unfold idV;grind
 rw[e2,zol (fun y=>val (el S2 A k (nd A k i j y) j)) hc,zdZ,zlz];have e3:val (onA A k i j c 0)=0:=by unfold onA;rw[if_pos rfl];exact zeA
 have e4:rs (onL A k i j).length (fun m=>val (onA A k i j c (m+1))*val (el S2 A k (nd A k i j (m+1)) j))=rs (onL A k i j).length (fun m=>val (A (nd A k i j c) (nd A k i j (m+1)))*val (el S2 A k (nd A k i j (m+1)) j)):=by
  refine zbj (fun m _=>?_);have:onA A k i j c (m+1)=A (nd A k i j c) (nd A k i j (m+1)):=by unfold onA;rw[if_neg (by omega)]
  rw[this]
 rw[e3,e4,e1];grind
end
end Go.Proofs.YtiblmbpfcmcccaaGreatDoor
