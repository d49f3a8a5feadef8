/- Part. -/
import Derived.Test.YtaogepcaoogpgaaGreatDoorKF07
import Derived.Lib.AppendZerosOnto
import Derived.Lib.JoinLaws
import Derived.StillTailTactics
import Derived.Deep.RegionHeld2
set_option linter.unusedVariables false
set_option linter.unusedSimpArgs false
set_option maxRecDepth 100000
set_option maxHeartbeats 16000000
namespace Go.Proofs.YtaogepcaoogpgaaGreatDoor
open Go.RowKit
open Go.Lib (nDigits decDigits)
def zhc (s:ByteArray)(b:Bool):Prop:=∀ w,Calls Tryz.prog 208 #[.string s] w fun e w'=>e=.returned (.bool b)/\w=w'
def zlc (a g Q R:ByteArray):Prop:=∀ w,Calls Tryz.prog 209 #[.string a,.string g] w (zab (.tuple #[.string Q,.string R,.int .i64 0]) w)
theorem zzT (neg:Bool)(num den:ByteArray)(w:World)(V:Hid (zhc num false)) :
  Calls Tryz.prog 188 #[.bool neg,.string num,.string den] w (zab (.tuple #[.string ⟨#[]⟩,.int .i64 1]) w):=by
 go_enter Tryz.func188,Tryz.ntmps188;go_wp2_with fail;refine(V.out _).mono ?_;rintro e w' ⟨rfl,rfl⟩;go_wp2;go_ret2;exact⟨rfl,zaf _ _⟩
theorem zzU (neg:Bool)(num den:ByteArray)(w:World)(V:Hid (zhc num true))(U:Hid (zhc den false)) :
  Calls Tryz.prog 188 #[.bool neg,.string num,.string den] w (zab (.tuple #[.string ⟨#[]⟩,.int .i64 1]) w):=by
 go_enter Tryz.func188,Tryz.ntmps188;go_wp2_with fail;refine(V.out _).mono ?_;rintro e w' ⟨rfl,rfl⟩;go_wp2_with fail;refine(U.out _).mono ?_;rintro e w' ⟨rfl,rfl⟩;go_wp2;go_ret2;exact⟨rfl,zaf _ _⟩
theorem zzV (neg:Bool)(num den:ByteArray)(w:World)(V:Hid (zhc num true))(U:Hid (zhc den true))(f:(den.toList==[48])=true) :
  Calls Tryz.prog 188 #[.bool neg,.string num,.string den] w (zab (.tuple #[.string ⟨#[]⟩,.int .i64 1]) w):=by
 go_enter Tryz.func188,Tryz.ntmps188;go_wp2_with fail;refine(V.out _).mono ?_;rintro e w' ⟨rfl,rfl⟩;go_wp2_with fail;refine(U.out _).mono ?_;rintro e w' ⟨rfl,rfl⟩;go_wp2;go_ret2;exact⟨rfl,zaf _ _⟩
theorem zxj (neg:Bool)(num den G A B R1 R2:ByteArray)(w:World)(V:Hid (zhc num true))(U:Hid (zhc den true))(f:(den.toList==[48])=false)(GC:Hid (zgn num den G))(D1:Hid (zlc num G A R1))(D2:Hid (zlc den G B R2))(h:(400:Int)<(A.size:Int)) :
  Calls Tryz.prog 188 #[.bool neg,.string num,.string den] w (zab (.tuple #[.string ⟨#[]⟩,.int .i64 2]) w):=by
 go_enter Tryz.func188,Tryz.ntmps188;go_wp2_with fail;refine(V.out _).mono ?_;rintro e w' ⟨rfl,rfl⟩;go_wp2_with fail;refine(U.out _).mono ?_;rintro e w' ⟨rfl,rfl⟩;go_wp2_with fail;refine(GC.out _).mono ?_;rintro e w1 ⟨rfl,hg⟩;have G1:=zHd hg;clear hg;go_wp2_with fail;refine(D1.out _).mono ?_;rintro e w2 ⟨rfl,hg⟩;have G2:=zHd (zaa G1.out hg);clear hg G1;go_wp2_with fail;refine(D2.out _).mono ?_;rintro e w3 ⟨rfl,hg⟩;have G3:=zHd (zaa G2.out hg);clear hg G2;go_wp2;go_ret2;exact⟨rfl,G3.out⟩
theorem zxk (neg:Bool)(num den G A B R1 R2:ByteArray)(w:World)(V:Hid (zhc num true))(U:Hid (zhc den true))(f:(den.toList==[48])=false)(GC:Hid (zgn num den G))(D1:Hid (zlc num G A R1))(D2:Hid (zlc den G B R2))(h:¬ (400:Int)<(A.size:Int))(h2:(400:Int)<(B.size:Int)) :
  Calls Tryz.prog 188 #[.bool neg,.string num,.string den] w (zab (.tuple #[.string ⟨#[]⟩,.int .i64 2]) w):=by
 go_enter Tryz.func188,Tryz.ntmps188;go_wp2_with fail;refine(V.out _).mono ?_;rintro e w' ⟨rfl,rfl⟩;go_wp2_with fail;refine(U.out _).mono ?_;rintro e w' ⟨rfl,rfl⟩;go_wp2_with fail;refine(GC.out _).mono ?_;rintro e w1 ⟨rfl,hg⟩;have G1:=zHd hg;clear hg;go_wp2_with fail;refine(D1.out _).mono ?_;rintro e w2 ⟨rfl,hg⟩;have G2:=zHd (zaa G1.out hg);clear hg G1;go_wp2_with fail;refine(D2.out _).mono ?_;rintro e w3 ⟨rfl,hg⟩;have G3:=zHd (zaa G2.out hg);clear hg G2;go_wp2;go_ret2;exact⟨rfl,G3.out⟩
theorem zCZ (neg c:Bool)(num den G A B R1 R2:ByteArray)(w:World)(V:Hid (zhc num true))(U:Hid (zhc den true))(f:(den.toList==[48])=false)(GC:Hid (zgn num den G))(D1:Hid (zlc num G A R1))(D2:Hid (zlc den G B R2))(h:¬ (400:Int)<(A.size:Int))(h2:¬ (400:Int)<(B.size:Int))(z1:(A.toList==[48]) = !c)(z2:(A.toList != [48])=c)(o1:(B.toList==[49])=true) :
  Calls Tryz.prog 188 #[.bool neg,.string num,.string den] w (zab (.tuple #[.string (if neg&&c then ⟨#[45]⟩++A else A),.int .i64 0]) w):=by
 cases neg <;> cases c <;> simp only[Bool.not_true,Bool.not_false] at z1
 all_goals
  go_enter Tryz.func188,Tryz.ntmps188;go_wp2_with fail;refine(V.out _).mono ?_;rintro e w' ⟨rfl,rfl⟩;go_wp2_with fail;refine(U.out _).mono ?_;rintro e w' ⟨rfl,rfl⟩;go_wp2_with fail;refine(GC.out _).mono ?_;rintro e w1 ⟨rfl,hg⟩;have G1:=zHd hg;clear hg;go_wp2_with fail;refine(D1.out _).mono ?_;rintro e w2 ⟨rfl,hg⟩;have G2:=zHd (zaa G1.out hg);clear hg G1;go_wp2_with fail;refine(D2.out _).mono ?_;rintro e w3 ⟨rfl,hg⟩;have G3:=zHd (zaa G2.out hg);clear hg G2;go_wp2;go_ret2;exact⟨rfl,G3.out⟩
theorem zzW (neg c:Bool)(num den G A B R1 R2:ByteArray)(w:World)(V:Hid (zhc num true))(U:Hid (zhc den true))(f:(den.toList==[48])=false)(GC:Hid (zgn num den G))(D1:Hid (zlc num G A R1))(D2:Hid (zlc den G B R2))(h:¬ (400:Int)<(A.size:Int))(h2:¬ (400:Int)<(B.size:Int))(z1:(A.toList==[48]) = !c)(z2:(A.toList != [48])=c)(o1:(B.toList==[49])=false) :
  Calls Tryz.prog 188 #[.bool neg,.string num,.string den] w (zab (.tuple #[.string ((if neg&&c then ⟨#[45]⟩++A else A)++⟨#[47]⟩++B),.int .i64 0]) w):=by
 cases neg <;> cases c <;> simp only[Bool.not_true,Bool.not_false] at z1
 all_goals
  go_enter Tryz.func188,Tryz.ntmps188;go_wp2_with fail;refine(V.out _).mono ?_;rintro e w' ⟨rfl,rfl⟩;go_wp2_with fail;refine(U.out _).mono ?_;rintro e w' ⟨rfl,rfl⟩;go_wp2_with fail;refine(GC.out _).mono ?_;rintro e w1 ⟨rfl,hg⟩;have G1:=zHd hg;clear hg;go_wp2_with fail;refine(D1.out _).mono ?_;rintro e w2 ⟨rfl,hg⟩;have G2:=zHd (zaa G1.out hg);clear hg G1;go_wp2_with fail;refine(D2.out _).mono ?_;rintro e w3 ⟨rfl,hg⟩;have G3:=zHd (zaa G2.out hg);clear hg G2;go_wp2;go_ret2;exact⟨rfl,G3.out⟩
theorem rVal (s:ByteArray)(hs:s.size<=maxLen):zhc s (zan s):=fun w=>zas s w hs
theorem rDiv (m n:Nat)(hm:nDigits m<=1000)(hn:nDigits n<=1000)(h:n≠0):zlc (zah m) (zah n) (zah (m/n)) (zah (m%n)):=fun w=>by
 have:=zuY (zah m) (zah n) w (zaR m hm) (zaR n hn);rw[zok m n hm hn h] at this;exact this
theorem zDa (x:Rat)(h:zbp x):zcN x=.tuple #[.string ((if decide (x.num<0) then ⟨#[45]⟩++zah x.num.natAbs else zah x.num.natAbs)++(if x.den=1 then ⟨#[]⟩ else (⟨#[47]⟩++zah x.den))),.int .i64 0]:=by
 rw[ziE h,zsv]
theorem zDb (neg:Bool)(num den:ByteArray)(w:World)(hn:num.size<=maxLen)(hd:den.size<=maxLen) :
  Calls Tryz.prog 188 #[.bool neg,.string num,.string den] w (zab (zgP neg num den) w):=by
 have va:=rVal num hn;have vb:=rVal den hd;unfold zgP;cases ha:zan num
 ·rw[ha] at va
  exact zzT neg num den w (zHd va)
 cases hb:zan den
 ·rw[ha] at va
  rw[hb] at vb;exact zzU neg num den w (zHd va) (zHd vb)
 rw[ha] at va;rw[hb] at vb;have hz:=(zdZ den hb).1
 by_cases h0:nv den=0
 ·rw[h0] at hz ⊢
  exact zzV neg num den w (zHd va) (zHd vb) (by simpa using hz)
 ·simp only[h0,Bool.and_self,Bool.true_and,decide_false,Bool.not_false,if_true]
  obtain⟨en,ln⟩:=zbW num ha;obtain⟨ed,ld⟩:=zbW den hb;have hg0:Nat.gcd (nv num) (nv den)≠0:=by have:=Nat.gcd_pos_of_pos_right (nv num) (Nat.pos_of_ne_zero h0);omega
  have hgl:Nat.gcd (nv num) (nv den)<=nv den:=Nat.le_of_dvd (Nat.pos_of_ne_zero h0) (Nat.gcd_dvd_right _ _);have hgd:nDigits (Nat.gcd (nv num) (nv den))<=1000:=zqam (zbA hgl) ld;have GC:=zGx num den ha hb;have D1:=rDiv (nv num) (Nat.gcd (nv num) (nv den)) ln hgd hg0;have D2:=rDiv (nv den) (Nat.gcd (nv num) (nv den)) ld hgd hg0;rw[<- en] at D1;rw[<- ed] at D2;have f:(den.toList==[48])=false:=by rw[hz];simpa using h0
  have e1:=zpb neg (nv num) (nv den) h0;have e2:=zpc neg (nv num) (nv den) h0;have e3:=zui neg (nv num) (nv den) h0;have s1:=zcn (nv num/Nat.gcd (nv num) (nv den));have s2:=zcn (nv den/Nat.gcd (nv num) (nv den))
  by_cases l1:nDigits (nv num/Nat.gcd (nv num) (nv den))<=400
  ·by_cases l2:nDigits (nv den/Nat.gcd (nv num) (nv den))<=400
   ·have hs:zbp (mkRat (sg neg (nv num)) (nv den)):=⟨by rw[e1];exact l1,by rw[e2];exact l2⟩
    have hq:(nv num/Nat.gcd (nv num) (nv den)=0)↔nv num=0:=by
     constructor
     ·intro h
      have:=Nat.div_mul_cancel (Nat.gcd_dvd_left (nv num) (nv den));rw[h] at this;omega
     ·intro h;rw[h];simp
    have zz:=zero_str' (nv num/Nat.gcd (nv num) (nv den))
    have zc:(neg && !decide (nv num/Nat.gcd (nv num) (nv den)=0))=decide ((mkRat (sg neg (nv num)) (nv den)).num<0):=by
     rw[Bool.eq_iff_iff,zqca,e3];simp[hq]
    rw[zDa _ hs,e1,e2,<- zc];have oo:=(zgx (nv den/Nat.gcd (nv num) (nv den))).1
    by_cases o1:nv den/Nat.gcd (nv num) (nv den)=1
    ·have:=zCZ neg (!decide (nv num/Nat.gcd (nv num) (nv den)=0)) num den _ _ _ _ _ w (zHd va) (zHd vb) f (zHd GC) (zHd D1) (zHd D2) (by omega) (by omega) (by rw[zz.1,Bool.not_not]) zz.2 (by rw[oo];simpa using o1)
     rw[if_pos o1];rw[show ∀ a:ByteArray,a++⟨#[]⟩=a from fun a=>by apply ByteArray.ext;apply Array.ext';rw[zkM];simp];exact this
    ·have:=zzW neg (!decide (nv num/Nat.gcd (nv num) (nv den)=0)) num den _ _ _ _ _ w (zHd va) (zHd vb) f (zHd GC) (zHd D1) (zHd D2) (by omega) (by omega) (by rw[zz.1,Bool.not_not]) zz.2 (by rw[oo];simpa using o1)
     rw[if_neg o1,<- ByteArray.append_assoc];exact this
   ·have hs:¬ zbp (mkRat (sg neg (nv num)) (nv den)):=fun h=>l2 (by have:=h.2;rw[e2] at this;exact this)
    rw[zgs hs];exact zxk neg num den _ _ _ _ _ w (zHd va) (zHd vb) f (zHd GC) (zHd D1) (zHd D2) (by omega) (by omega)
  ·have hs:¬ zbp (mkRat (sg neg (nv num)) (nv den)):=fun h=>l1 (by have:=h.1;rw[e1] at this;exact this)
   rw[zgs hs];exact zxj neg num den _ _ _ _ _ w (zHd va) (zHd vb) f (zHd GC) (zHd D1) (zHd D2) (by omega)
theorem zzX (m n:Nat)(w:World)(hm:nDigits m<=400)(hn:nDigits n<=400) :
  Calls Tryz.prog 139 #[.string (zah m),.string (zah n)] w (zab (.string (zah (m*n))) w):=by
 have d:=zbS hm hn;refine zxe _ _ _ w (zHd fun w=>?_);have:=zGq (zah m) (zah n) w (zaR m (by omega)) (zaR n (by omega));rw[zus m n (by omega) (by omega) (by omega)] at this;exact this
theorem zDc (p q:Bool)(A B C:ByteArray)(w:World)(h:(p==q)=true)(AD:Hid (∀ w,Calls Tryz.prog 175 #[.string A,.string B] w (zab (.tuple #[.string C,.int .i64 0]) w))) :
  Calls Tryz.prog 138 #[.bool p,.string A,.bool q,.string B] w (zab (.tuple #[.bool p,.string C]) w):=by
 go_enter Tryz.func138,Tryz.ntmps138;go_wp2_with fail;refine(AD.out _).mono ?_;rintro e w1 ⟨rfl,hg⟩;have G1:=zHd hg;clear hg;go_wp2;go_ret2;exact⟨rfl,G1.out⟩
theorem zDd (p q:Bool)(A B C:ByteArray)(c:Int)(w:World)(h:(p==q)=false)(hc:0<=c)(CM:Hid (∀ w,Calls Tryz.prog 176 #[.string A,.string B] w (zny c w)))(SU:Hid (∀ w,Calls Tryz.prog 177 #[.string A,.string B] w (zab (.tuple #[.string C,.int .i64 0]) w))) :
  Calls Tryz.prog 138 #[.bool p,.string A,.bool q,.string B] w (zab (.tuple #[.bool p,.string C]) w):=by
 go_enter Tryz.func138,Tryz.ntmps138;go_wp2_with fail;refine(CM.out _).mono ?_;rintro e w1 ⟨rfl,hg⟩;have G1:=zHd hg;clear hg;go_wp2_with fail;refine(SU.out _).mono ?_;rintro e w2 ⟨rfl,hg⟩;have G2:=zHd (zaa G1.out hg);clear hg G1;go_wp2;go_ret2;exact⟨rfl,G2.out⟩
theorem zDe (p q:Bool)(A B C:ByteArray)(c:Int)(w:World)(h:(p==q)=false)(hc:¬ 0<=c)(CM:Hid (∀ w,Calls Tryz.prog 176 #[.string A,.string B] w (zny c w)))(SU:Hid (∀ w,Calls Tryz.prog 177 #[.string B,.string A] w (zab (.tuple #[.string C,.int .i64 0]) w))) :
  Calls Tryz.prog 138 #[.bool p,.string A,.bool q,.string B] w (zab (.tuple #[.bool q,.string C]) w):=by
 go_enter Tryz.func138,Tryz.ntmps138;go_wp2_with fail;refine(CM.out _).mono ?_;rintro e w1 ⟨rfl,hg⟩;have G1:=zHd hg;clear hg;go_wp2_with fail;refine(SU.out _).mono ?_;rintro e w2 ⟨rfl,hg⟩;have G2:=zHd (zaa G1.out hg);clear hg G1;go_wp2;go_ret2;exact⟨rfl,G2.out⟩
def zft (p:Bool)(m:Nat)(q:Bool)(n:Nat):Bool×Nat:=if p==q then (p,m+n) else if m<n then (q,n-m) else (p,m-n)
theorem zyv (p:Bool)(m:Nat)(q:Bool)(n:Nat):sg (zft p m q n).1 (zft p m q n).2=sg p m+sg q n:=by
 unfold zft
 by_cases h:p=q
 ·subst h;simp only[BEq.rfl,if_true];exact zyb p m n
 ·rw[if_neg (by simpa using h)]
  split
  ·rename_i hl;exact zyc p q m n h hl
  ·rename_i hl;exact zyd p q m n h hl
theorem zxl (p:Bool)(m:Nat)(q:Bool)(n:Nat)(hm:nDigits m<=800)(hn:nDigits n<=800):nDigits (zft p m q n).2<=801:=by
 unfold zft;split
 ·exact zhG m n 800 hm hn
 ·split
  ·have:=zbA (Nat.sub_le n m);exact zqam this (by omega)
  ·have:=zbA (Nat.sub_le m n);exact zqam this (by omega)
theorem zvh (p:Bool)(m:Nat)(q:Bool)(n:Nat)(w:World)(hm:nDigits m<=800)(hn:nDigits n<=800) :
  Calls Tryz.prog 138 #[.bool p,.string (zah m),.bool q,.string (zah n)] w (zab (.tuple #[.bool (zft p m q n).1,.string (zah (zft p m q n).2)]) w):=by
 unfold zft;cases h:(p==q)
 ·simp only[Bool.false_eq_true,if_false]
  have cm:=fun w=>zGc (zah m) (zah n) w (zaR m (by omega)) (zaR n (by omega));rw[znt m n (by omega) (by omega)] at cm
  by_cases hl:m<n
  ·rw[if_pos hl]
   have su:=fun w=>zuN (zah n) (zah m) w (zaR n (by omega)) (zaR m (by omega));rw[znu n m (by omega) (by omega) (by omega)] at su;exact zDe p q _ _ _ _ w h (by have:=(zeZ m n).2 hl;omega) (zHd cm) (zHd su)
  ·rw[if_neg hl]
   have su:=fun w=>zuN (zah m) (zah n) w (zaR m (by omega)) (zaR n (by omega));rw[znu m n (by omega) (by omega) (by omega)] at su;exact zDd p q _ _ _ _ w h (by have:=(zeZ m n);omega) (zHd cm) (zHd su)
 ·simp only[if_true]
  have d:=zhG m n 800 hm hn;have ad:=fun w=>zGh (zah m) (zah n) w (zaR m (by omega)) (zaR n (by omega));rw[zur _ _ (zah (m+n)) (zaX _ (by omega)) (zaX _ (by omega)) (zaX _ (by omega)) (by rw[zaO,zaO,zaO])] at ad;exact zDc p q _ _ _ w h (zHd ad)
def zdn (a:ByteArray)(p:Bool)(A B:ByteArray)(k:Bool):Prop:=∀ w,Calls Tryz.prog 137 #[.string a] w (zab (.tuple #[.bool p,.string A,.string B,.bool k]) w)
theorem zsI (a:ByteArray)(p:Bool)(A B:ByteArray)(k:Bool)(w:World)(R:Hid (zdn a p A B k)) :
  Calls Tryz.prog 88 #[.string a] w (zab (.bool k) w):=by
 go_enter Tryz.func88,Tryz.ntmps88;go_wp2_with fail;refine(R.out _).mono ?_;rintro e w1 ⟨rfl,hg⟩;have G1:=zHd hg;clear hg;go_wp2;go_ret;exact⟨rfl,G1.out⟩
theorem zDf (a b:ByteArray)(p q:Bool)(A B C D:ByteArray)(X Y c:ByteArray)(ng:Bool)(w:World)(R1:Hid (zdn a p A B true))(R2:Hid (zdn b q C D true))(T1:Hid (∀ w,Calls Tryz.prog 139 #[.string A,.string D] w (zab (.string X) w)))(T2:Hid (∀ w,Calls Tryz.prog 139 #[.string C,.string B] w (zab (.string Y) w)))(SM:Hid (∀ w,Calls Tryz.prog 138 #[.bool p,.string X,.bool (!q),.string Y] w (zab (.tuple #[.bool ng,.string c]) w)))(f:(c.toList==[48])=true) :
  Calls Tryz.prog 89 #[.string a,.string b] w (zab (.int .i64 0) w):=by
 go_enter Tryz.func89,Tryz.ntmps89;go_wp2_with fail;refine(R1.out _).mono ?_;rintro e w1 ⟨rfl,hg⟩;have G1:=zHd hg;clear hg;go_wp2_with fail;refine(R2.out _).mono ?_;rintro e w2 ⟨rfl,hg⟩;have G2:=zHd (zaa G1.out hg);clear hg G1;go_wp2_with fail;refine(T1.out _).mono ?_;rintro e w3 ⟨rfl,hg⟩;have G3:=zHd (zaa G2.out hg);clear hg G2;go_wp2_with fail;refine(T2.out _).mono ?_;rintro e w4 ⟨rfl,hg⟩;have G4:=zHd (zaa G3.out hg);clear hg G3;go_wp2_with fail;refine(SM.out _).mono ?_;rintro e w5 ⟨rfl,hg⟩;have G5:=zHd (zaa G4.out hg);clear hg G4;go_wp2;go_ret;exact⟨rfl,G5.out⟩
theorem zDg (a b:ByteArray)(p q:Bool)(A B C D:ByteArray)(X Y c:ByteArray)(ng:Bool)(w:World)(R1:Hid (zdn a p A B true))(R2:Hid (zdn b q C D true))(T1:Hid (∀ w,Calls Tryz.prog 139 #[.string A,.string D] w (zab (.string X) w)))(T2:Hid (∀ w,Calls Tryz.prog 139 #[.string C,.string B] w (zab (.string Y) w)))(SM:Hid (∀ w,Calls Tryz.prog 138 #[.bool p,.string X,.bool (!q),.string Y] w (zab (.tuple #[.bool ng,.string c]) w)))(f:(c.toList==[48])=false) :
  Calls Tryz.prog 89 #[.string a,.string b] w (zab (.int .i64 (if ng then -1 else 1)) w):=by
 cases ng
 all_goals
  go_enter Tryz.func89,Tryz.ntmps89;go_wp2_with fail;refine(R1.out _).mono ?_;rintro e w1 ⟨rfl,hg⟩;have G1:=zHd hg;clear hg;go_wp2_with fail;refine(R2.out _).mono ?_;rintro e w2 ⟨rfl,hg⟩;have G2:=zHd (zaa G1.out hg);clear hg G1;go_wp2_with fail;refine(T1.out _).mono ?_;rintro e w3 ⟨rfl,hg⟩;have G3:=zHd (zaa G2.out hg);clear hg G2;go_wp2_with fail;refine(T2.out _).mono ?_;rintro e w4 ⟨rfl,hg⟩;have G4:=zHd (zaa G3.out hg);clear hg G3;go_wp2_with fail;refine(SM.out _).mono ?_;rintro e w5 ⟨rfl,hg⟩;have G5:=zHd (zaa G4.out hg);clear hg G4;go_wp2;go_ret;exact⟨rfl,G5.out⟩
theorem zGy (a b:ByteArray)(p q:Bool)(A B C D:ByteArray)(X Y Z c S:ByteArray)(ng:Bool)(E:Int)(w:World)(R1:Hid (zdn a p A B true))(R2:Hid (zdn b q C D true))(T1:Hid (∀ w,Calls Tryz.prog 139 #[.string A,.string D] w (zab (.string X) w)))(T2:Hid (∀ w,Calls Tryz.prog 139 #[.string C,.string B] w (zab (.string Y) w)))(SM:Hid (∀ w,Calls Tryz.prog 138 #[.bool p,.string X,.bool q,.string Y] w (zab (.tuple #[.bool ng,.string c]) w)))(T3:Hid (∀ w,Calls Tryz.prog 139 #[.string B,.string D] w (zab (.string Z) w)))(MK:Hid (∀ w,Calls Tryz.prog 188 #[.bool ng,.string c,.string Z] w (zab (.tuple #[.string S,.int .i64 E]) w))) :
  Calls Tryz.prog 149 #[.string a,.string b] w (zab (.tuple #[.string S,.int .i64 E]) w):=by
 go_enter Tryz.func149,Tryz.ntmps149;go_wp2_with fail;refine(R1.out _).mono ?_;rintro e w1 ⟨rfl,hg⟩;have G1:=zHd hg;clear hg;go_wp2_with fail;refine(R2.out _).mono ?_;rintro e w2 ⟨rfl,hg⟩;have G2:=zHd (zaa G1.out hg);clear hg G1;go_wp2_with fail;refine(T1.out _).mono ?_;rintro e w3 ⟨rfl,hg⟩;have G3:=zHd (zaa G2.out hg);clear hg G2;go_wp2_with fail;refine(T2.out _).mono ?_;rintro e w4 ⟨rfl,hg⟩;have G4:=zHd (zaa G3.out hg);clear hg G3;go_wp2_with fail;refine(SM.out _).mono ?_;rintro e w5 ⟨rfl,hg⟩;have G5:=zHd (zaa G4.out hg);clear hg G4;go_wp2_with fail;refine(T3.out _).mono ?_;rintro e w6 ⟨rfl,hg⟩;have G6:=zHd (zaa G5.out hg);clear hg G5;go_wp2_with fail;refine(MK.out _).mono ?_;rintro e w7 ⟨rfl,hg⟩;have G7:=zHd (zaa G6.out hg);clear hg G6;go_wp2;go_ret2;exact⟨rfl,G7.out⟩
theorem zGz (a b:ByteArray)(p q:Bool)(A B C D:ByteArray)(X Y S:ByteArray)(E:Int)(w:World)(R1:Hid (zdn a p A B true))(R2:Hid (zdn b q C D true))(T1:Hid (∀ w,Calls Tryz.prog 139 #[.string A,.string C] w (zab (.string X) w)))(T2:Hid (∀ w,Calls Tryz.prog 139 #[.string B,.string D] w (zab (.string Y) w)))(MK:Hid (∀ w,Calls Tryz.prog 188 #[.bool (p != q),.string X,.string Y] w (zab (.tuple #[.string S,.int .i64 E]) w))) :
  Calls Tryz.prog 150 #[.string a,.string b] w (zab (.tuple #[.string S,.int .i64 E]) w):=by
 go_enter Tryz.func150,Tryz.ntmps150;go_wp2_with fail;refine(R1.out _).mono ?_;rintro e w1 ⟨rfl,hg⟩;have G1:=zHd hg;clear hg;go_wp2_with fail;refine(R2.out _).mono ?_;rintro e w2 ⟨rfl,hg⟩;have G2:=zHd (zaa G1.out hg);clear hg G1;go_wp2_with fail;refine(T1.out _).mono ?_;rintro e w3 ⟨rfl,hg⟩;have G3:=zHd (zaa G2.out hg);clear hg G2;go_wp2_with fail;refine(T2.out _).mono ?_;rintro e w4 ⟨rfl,hg⟩;have G4:=zHd (zaa G3.out hg);clear hg G3;go_wp2_with fail;refine(MK.out _).mono ?_;rintro e w5 ⟨rfl,hg⟩;have G5:=zHd (zaa G4.out hg);clear hg G4;go_wp2;go_ret2;exact⟨rfl,G5.out⟩
theorem zGB (a b:ByteArray)(p q:Bool)(A B C D:ByteArray)(X Y S:ByteArray)(E:Int)(w:World)(R1:Hid (zdn a p A B true))(R2:Hid (zdn b q C D true))(f:(C.toList==[48])=false)(T1:Hid (∀ w,Calls Tryz.prog 139 #[.string A,.string D] w (zab (.string X) w)))(T2:Hid (∀ w,Calls Tryz.prog 139 #[.string B,.string C] w (zab (.string Y) w)))(MK:Hid (∀ w,Calls Tryz.prog 188 #[.bool (p != q),.string X,.string Y] w (zab (.tuple #[.string S,.int .i64 E]) w))) :
  Calls Tryz.prog 181 #[.string a,.string b] w (zab (.tuple #[.string S,.int .i64 E]) w):=by
 go_enter Tryz.func181,Tryz.ntmps181;go_wp2_with fail;refine(R1.out _).mono ?_;rintro e w1 ⟨rfl,hg⟩;have G1:=zHd hg;clear hg;go_wp2_with fail;refine(R2.out _).mono ?_;rintro e w2 ⟨rfl,hg⟩;have G2:=zHd (zaa G1.out hg);clear hg G1;go_wp2_with fail;refine(T1.out _).mono ?_;rintro e w3 ⟨rfl,hg⟩;have G3:=zHd (zaa G2.out hg);clear hg G2;go_wp2_with fail;refine(T2.out _).mono ?_;rintro e w4 ⟨rfl,hg⟩;have G4:=zHd (zaa G3.out hg);clear hg G3;go_wp2_with fail;refine(MK.out _).mono ?_;rintro e w5 ⟨rfl,hg⟩;have G5:=zHd (zaa G4.out hg);clear hg G4;go_wp2;go_ret2;exact⟨rfl,G5.out⟩
theorem zGC (a:ByteArray)(p:Bool)(A B S:ByteArray)(E:Int)(w:World)(R1:Hid (zdn a p A B true))(MK:Hid (∀ w,Calls Tryz.prog 188 #[.bool (!p),.string A,.string B] w (zab (.tuple #[.string S,.int .i64 E]) w))) :
  Calls Tryz.prog 216 #[.string a] w (zab (.tuple #[.string S,.int .i64 E]) w):=by
 go_enter Tryz.func216,Tryz.ntmps216;go_wp2_with fail;refine(R1.out _).mono ?_;rintro e w1 ⟨rfl,hg⟩;have G1:=zHd hg;clear hg;go_wp2_with fail;refine(MK.out _).mono ?_;rintro e w2 ⟨rfl,hg⟩;have G2:=zHd (zaa G1.out hg);clear hg G1;go_wp2;go_ret2;exact⟨rfl,G2.out⟩
theorem zGD (a b c S:ByteArray)(E:Int)(w:World)(NG:Hid (∀ w,Calls Tryz.prog 216 #[.string b] w (zab (.tuple #[.string c,.int .i64 0]) w)))(VA:Hid (∀ w,Calls Tryz.prog 88 #[.string a] w (zab (.bool true) w)))(AD:Hid (∀ w,Calls Tryz.prog 149 #[.string a,.string c] w (zab (.tuple #[.string S,.int .i64 E]) w))) :
  Calls Tryz.prog 180 #[.string a,.string b] w (zab (.tuple #[.string S,.int .i64 E]) w):=by
 go_enter Tryz.func180,Tryz.ntmps180;go_wp2_with fail;refine(NG.out _).mono ?_;rintro e w1 ⟨rfl,hg⟩;have G1:=zHd hg;clear hg;go_wp2_with fail;refine(VA.out _).mono ?_;rintro e w2 ⟨rfl,hg⟩;have G2:=zHd (zaa G1.out hg);clear hg G1;go_wp2_with fail;refine(AD.out _).mono ?_;rintro e w3 ⟨rfl,hg⟩;have G3:=zHd (zaa G2.out hg);clear hg G2;go_wp2;go_ret2;exact⟨rfl,G3.out⟩
open Go.RowKit
open Go.Lib (nDigits decDigits)
theorem zce {a:ByteArray}{x:Rat}(h:zaw a x):zdn a (sgn x) (zah x.num.natAbs) (zah x.den) true:=fun w=>zzS h w
theorem zzY {a:ByteArray}(h:zea a)(ha:a.size<=maxLen):zdn a false ⟨#[]⟩ ⟨#[]⟩ false:=fun w=>zCX h ha w
theorem zqb {a:ByteArray}{x:Rat}(h:zaw a x)(w:World):Calls Tryz.prog 88 #[.string a] w (zab (.bool true) w):=zsI a _ _ _ _ w (zHd (zce h))
theorem zDh {a:ByteArray}(h:zea a)(ha:a.size<=maxLen)(w:World):Calls Tryz.prog 88 #[.string a] w (zab (.bool false) w):=zsI a _ _ _ _ w (zHd (zzY h ha))
theorem rtm (m n:Nat)(hm:nDigits m<=400)(hn:nDigits n<=400):Hid (∀ w,Calls Tryz.prog 139 #[.string (zah m),.string (zah n)] w (zab (.string (zah (m*n))) w)):=zHd fun w=>zzX m n w hm hn
theorem rmk (neg:Bool)(n d:Nat)(hn:nDigits n<=1000)(hd:nDigits d<=1000)(h0:d≠0){z:Rat}(hz:mkRat (sg neg n) d=z){S:ByteArray}{E:Int}(e:zcN z=.tuple #[.string S,.int .i64 E]) :
  Hid (∀ w,Calls Tryz.prog 188 #[.bool neg,.string (zah n),.string (zah d)] w (zab (.tuple #[.string S,.int .i64 E]) w)):=zHd fun w=>by
 have:=zDb neg (zah n) (zah d) w (zaR _ hn) (zaR _ hd);unfold zgP at this;rw[zaX n hn,zaX d hd,zaO,zaO] at this;simp only[Bool.and_self,Bool.true_and,h0,decide_false,Bool.not_false,if_true,hz,e] at this;exact this
theorem zDi (x y:Rat):sg (zft (sgn x) (x.num.natAbs*y.den) (sgn y) (y.num.natAbs*x.den)).1 (zft (sgn x) (x.num.natAbs*y.den) (sgn y) (y.num.natAbs*x.den)).2=sg (sgn x) (x.num.natAbs*y.den)+sg (sgn y) (y.num.natAbs*x.den):=zyv _ _ _ _
theorem zDj (q:Bool)(n:Nat):sg (!q) n = - sg q n:=by cases q <;> simp[sg]
theorem zKr (x y:Rat):zcv x y=if (zft (sgn x) (x.num.natAbs*y.den) (!sgn y) (y.num.natAbs*x.den)).2=0 then 0 else if (zft (sgn x) (x.num.natAbs*y.den) (!sgn y) (y.num.natAbs*x.den)).1 then -1 else 1:=by
 have h:=zyv (sgn x) (x.num.natAbs*y.den) (!sgn y) (y.num.natAbs*x.den);rw[zDj,zns,zns,<- zdU,<- zdU] at h;generalize zft (sgn x) (x.num.natAbs*y.den) (!sgn y) (y.num.natAbs*x.den)=r at *;obtain⟨ng,c⟩:=r;simp only at h ⊢;unfold zcv;simp only[Rat.lt_iff];generalize x.num*(y.den:Int)=u at *;generalize y.num*(x.den:Int)=v at *;unfold sg at h;cases ng <;> simp only[Bool.false_eq_true,if_false,if_true] at h ⊢
 all_goals
  split <;> (try split) <;> (try split) <;> omega
theorem zvi {a b:ByteArray}{x y:Rat}(ha:zaw a x)(hb:zaw b y)(w:World):Calls Tryz.prog 89 #[.string a,.string b] w (zab (.int .i64 (zcv x y)) w):=by
 have hx:=ha.short;have hy:=hb.short;have d1:=zbS hx.1 hy.2;have d2:=zbS hy.1 hx.2;have SM:=zHd fun w=>zvh (sgn x) (x.num.natAbs*y.den) (!sgn y) (y.num.natAbs*x.den) w d1 d2;have e:=zKr x y;have f:=(zero_str' (zft (sgn x) (x.num.natAbs*y.den) (!sgn y) (y.num.natAbs*x.den)).2).1
 by_cases h0:(zft (sgn x) (x.num.natAbs*y.den) (!sgn y) (y.num.natAbs*x.den)).2=0
 ·rw[if_pos h0] at e
  rw[e];exact zDf a b _ _ _ _ _ _ _ _ _ _ w (zHd (zce ha)) (zHd (zce hb)) (rtm _ _ hx.1 hy.2) (rtm _ _ hy.1 hx.2) SM (by rw[f];simpa using h0)
 ·rw[if_neg h0] at e
  rw[e];exact zDg a b _ _ _ _ _ _ _ _ _ _ w (zHd (zce ha)) (zHd (zce hb)) (rtm _ _ hx.1 hy.2) (rtm _ _ hy.1 hx.2) SM (by rw[f];simpa using h0)
theorem zow {a b:ByteArray}{x y:Rat}(ha:zaw a x)(hb:zaw b y)(w:World):Calls Tryz.prog 149 #[.string a,.string b] w (zab (zcN (x+y)) w):=by
 have hx:=ha.short;have hy:=hb.short;have d1:=zbS hx.1 hy.2;have d2:=zbS hy.1 hx.2;have d3:=zbS hx.2 hy.2;have d4:=zxl (sgn x) (x.num.natAbs*y.den) (sgn y) (y.num.natAbs*x.den) d1 d2;have SM:=zHd fun w=>zvh (sgn x) (x.num.natAbs*y.den) (sgn y) (y.num.natAbs*x.den) w d1 d2;obtain⟨S,E,e⟩:=zbx (x+y);have MK:=rmk (zft (sgn x) (x.num.natAbs*y.den) (sgn y) (y.num.natAbs*x.den)).1 (zft (sgn x) (x.num.natAbs*y.den) (sgn y) (y.num.natAbs*x.den)).2 (x.den*y.den) (by omega) (by omega) (zfN x y) (zgy x y _ (zDi x y)) e;rw[e];exact zGy a b _ _ _ _ _ _ _ _ _ _ _ _ _ w (zHd (zce ha)) (zHd (zce hb)) (rtm _ _ hx.1 hy.2) (rtm _ _ hy.1 hx.2) SM (rtm _ _ hx.2 hy.2) MK
theorem zGE {a b:ByteArray}{x y:Rat}(ha:zaw a x)(hb:zaw b y)(w:World):Calls Tryz.prog 150 #[.string a,.string b] w (zab (zcN (x*y)) w):=by
 have hx:=ha.short;have hy:=hb.short;have d1:=zbS hx.1 hy.1;have d2:=zbS hx.2 hy.2;obtain⟨S,E,e⟩:=zbx (x*y);have MK:=rmk (sgn x != sgn y) (x.num.natAbs*y.num.natAbs) (x.den*y.den) (by omega) (by omega) (zfN x y) (zlX x y) e;rw[e];exact zGz a b _ _ _ _ _ _ _ _ _ _ w (zHd (zce ha)) (zHd (zce hb)) (rtm _ _ hx.1 hy.1) (rtm _ _ hx.2 hy.2) MK
theorem zGF {a b:ByteArray}{x y:Rat}(ha:zaw a x)(hb:zaw b y)(h:y.num≠0)(w:World):Calls Tryz.prog 181 #[.string a,.string b] w (zab (zcN (x/y)) w):=by
 have hx:=ha.short;have hy:=hb.short;have d1:=zbS hx.1 hy.2;have d2:=zbS hx.2 hy.1;obtain⟨S,E,e⟩:=zbx (x/y);have MK:=rmk (sgn x != sgn y) (x.num.natAbs*y.den) (x.den*y.num.natAbs) (by omega) (by omega) (Nat.mul_ne_zero x.den_nz (by omega)) (zsw x y h) e;rw[e];exact zGB a b _ _ _ _ _ _ _ _ _ _ w (zHd (zce ha)) (zHd (zce hb)) (by rw[(zero_str' _).1];simpa using h) (rtm _ _ hx.1 hy.2) (rtm _ _ hx.2 hy.1) MK
theorem zGG {a:ByteArray}{x:Rat}(ha:zaw a x)(w:World):Calls Tryz.prog 216 #[.string a] w (zab (.tuple #[.string (zes (-x)),.int .i64 0]) w):=by
 have hx:=ha.short;have s1:=hx.1;have s2:=hx.2;have ez:mkRat (sg (!sgn x) x.num.natAbs) x.den = -x:=by rw[zDj,<- zdU,<- Rat.neg_mkRat,Rat.mkRat_self]
 exact zGC a _ _ _ _ _ w (zHd (zce ha)) (rmk (!sgn x) x.num.natAbs x.den (by omega) (by omega) x.den_nz ez (ziE (zlY hx)))
theorem zKs {a:ByteArray}{x:Rat}(ha:zaw a x):zaw (zes (-x)) (-x):=⟨zlY ha.short,rfl⟩
theorem zGH {a b:ByteArray}{x y:Rat}(ha:zaw a x)(hb:zaw b y)(w:World):Calls Tryz.prog 180 #[.string a,.string b] w (zab (zcN (x-y)) w):=by
 rw[Rat.sub_eq_add_neg];obtain⟨S,E,e⟩:=zbx (x + -y);have AD:=fun w=>zow ha (zKs hb) w;rw[e] at AD ⊢;exact zGD a b _ _ _ w (zHd fun w=>zGG hb w) (zHd fun w=>zqb ha w) (zHd AD)
open Go.RowKit
open Go.Lib (nDigits decDigits)
structure Kind (k:Int)(z o:ByteArray)(V W:Nat)(p t s ov b:Value):Prop where
 f:∀ w,Calls Tryz.prog 66 #[.int .i64 k] w (zab (.agg #[.string z,.string o,.func (.func V) #[] #[],.func (.func W) #[] #[],p,t,s,ov,b]) w)
 ev:Enters V
 ew:Enters W
 one:(p.oneCell'&&t.oneCell'&&s.oneCell'&&ov.oneCell'&&b.oneCell')=true
def zht (v:Value):Prop:=∀ (a:Addr) (m:Mode) (w:World),(store a v m).run Tryz.prog w=stored Tryz.prog w a v m
theorem zks {v:Value}(h:v.oneCell'=true):zht v:=fun a m w=>run_store _ w a v m h
theorem zgp {p t s ov b:Value}(h:(p.oneCell'&&t.oneCell'&&s.oneCell'&&ov.oneCell'&&b.oneCell')=true):zht p/\zht t/\zht s/\zht ov/\zht b:=by
 simp only[zqbb] at h;exact⟨zks h.1.1.1.1,zks h.1.1.1.2,zks h.1.1.2,zks h.1.2,zks h.2⟩
theorem zvj {w:World}{g:Nat}{z o v x p t s ov b:Value}(h:w.heap[g]?=some (.cells #[z,o,v,x,p,t,s,ov,b] 89 (0,0))) :
  w.cell? ⟨g,0,none⟩=some z/\w.cell? ⟨g,1,none⟩=some o/\w.cell? ⟨g,2,none⟩=some v/\w.cell? ⟨g,3,none⟩=some x/\w.cell? ⟨g,4,none⟩=some p/\w.cell? ⟨g,5,none⟩=some t/\w.cell? ⟨g,6,none⟩=some s/\w.cell? ⟨g,7,none⟩=some ov/\w.cell? ⟨g,8,none⟩=some b :=
 ⟨by rw[zqbw w g 0 _ _ (0,0) h];rfl,by rw[zqbw w g 1 _ _ (0,0) h];rfl,by rw[zqbw w g 2 _ _ (0,0) h];rfl,by rw[zqbw w g 3 _ _ (0,0) h];rfl,by rw[zqbw w g 4 _ _ (0,0) h];rfl,by rw[zqbw w g 5 _ _ (0,0) h];rfl,by rw[zqbw w g 6 _ _ (0,0) h];rfl,by rw[zqbw w g 7 _ _ (0,0) h];rfl,by rw[zqbw w g 8 _ _ (0,0) h];rfl⟩
@[go_sem] theorem field_z (z o v x p t s ov b:Value) (w:World):(Instr.field 89 (.agg #[z,o,v,x,p,t,s,ov,b]) 0).run Tryz.prog w=.ok z w:=by kernel_rfl
@[go_sem] theorem field_o (z o v x p t s ov b:Value) (w:World):(Instr.field 89 (.agg #[z,o,v,x,p,t,s,ov,b]) 1).run Tryz.prog w=.ok o w:=by kernel_rfl
@[go_sem] theorem field_v (z o v x p t s ov b:Value) (w:World):(Instr.field 89 (.agg #[z,o,v,x,p,t,s,ov,b]) 2).run Tryz.prog w=.ok v w:=by kernel_rfl
@[go_sem] theorem field_x (z o v x p t s ov b:Value) (w:World):(Instr.field 89 (.agg #[z,o,v,x,p,t,s,ov,b]) 3).run Tryz.prog w=.ok x w:=by kernel_rfl
theorem znX {k:Int}{z o:ByteArray}{V W:Nat}{p t s ov b:Value}(K:Hid (Kind k z o V W p t s ov b))(a:ByteArray)(x:Bool)(w:World)(X:Hid (zcq V a x)) :
  Calls Tryz.prog 71 #[.int .i64 k,.string a] w (zab (.bool x) w):=by
 have HE:=zHd K.out.ev;go_enter Tryz.func71,Tryz.ntmps71;obtain⟨u1,u2,u3,u4,u5⟩:=zgp K.out.one;unfold zht at u1 u2 u3 u4 u5;go_wp2_with fail;refine(K.out.f _).mono ?_;rintro e w1 ⟨rfl,hg⟩;have G1:=zHd hg;clear hg;go_wp2_with fail;rw[HE.out];refine(X.out _).mono ?_;rintro e w2 ⟨rfl,hg⟩;have G2:=zHd (zaa G1.out hg);clear hg;go_wp2;go_ret;exact⟨rfl,G2.out⟩
theorem zmt {k:Int}{z o:ByteArray}{V W:Nat}{p t s ov b:Value}(K:Hid (Kind k z o V W p t s ov b))(a:ByteArray)(x:Bool)(w:World)(X:Hid (zcq W a x)) :
  Calls Tryz.prog 128 #[.int .i64 k,.string a] w (zab (.bool x) w):=by
 have HE:=zHd K.out.ew;go_enter Tryz.func128,Tryz.ntmps128;obtain⟨u1,u2,u3,u4,u5⟩:=zgp K.out.one;unfold zht at u1 u2 u3 u4 u5;go_wp2_with fail;refine(K.out.f _).mono ?_;rintro e w1 ⟨rfl,hg⟩;have G1:=zHd hg;clear hg;go_wp2_with fail;rw[HE.out];refine(X.out _).mono ?_;rintro e w2 ⟨rfl,hg⟩;have G2:=zHd (zaa G1.out hg);clear hg;go_wp2;go_ret;exact⟨rfl,G2.out⟩
theorem zzZ {k:Int}{z o:ByteArray}{V W:Nat}{p t s ov b:Value}(K:Hid (Kind k z o V W p t s ov b))(w:World):Calls Tryz.prog 33 #[.int .i64 k] w (zab (.string z) w):=by
 go_enter Tryz.func33,Tryz.ntmps33;obtain⟨u1,u2,u3,u4,u5⟩:=zgp K.out.one;unfold zht at u1 u2 u3 u4 u5;go_wp2_with fail;refine(K.out.f _).mono ?_;rintro e w1 ⟨rfl,hg⟩;have G1:=zHd hg;clear hg;go_wp2;go_ret;exact⟨rfl,G1.out⟩
theorem zDk {k:Int}{z o:ByteArray}{V W:Nat}{p t s ov b:Value}(K:Hid (Kind k z o V W p t s ov b))(w:World):Calls Tryz.prog 34 #[.int .i64 k] w (zab (.string o) w):=by
 go_enter Tryz.func34,Tryz.ntmps34;obtain⟨u1,u2,u3,u4,u5⟩:=zgp K.out.one;unfold zht at u1 u2 u3 u4 u5;go_wp2_with fail;refine(K.out.f _).mono ?_;rintro e w1 ⟨rfl,hg⟩;have G1:=zHd hg;clear hg;go_wp2;go_ret;exact⟨rfl,G1.out⟩
theorem zox {k:Int}{z o:ByteArray}{V W F:Nat}{t s ov b:Value}(K:Hid (Kind k z o V W (.func (.func F) #[] #[]) t s ov b))(EF:Hid (Enters F))(a c:ByteArray)(S:ByteArray)(E:Int)(w:World)(X:Hid (zcq V a true))(Y:Hid (zcq V c true))(C:Hid (zil F a c (.tuple #[.string S,.int .i64 E]))) :
  Calls Tryz.prog 70 #[.int .i64 k,.string a,.string c] w (zab (.tuple #[.string S,.int .i64 E]) w):=by
 have HE:=zHd K.out.ev;go_enter Tryz.func70,Tryz.ntmps70;obtain⟨u1,u2,u3,u4,u5⟩:=zgp K.out.one;unfold zht at u1 u2 u3 u4 u5;go_wp2_with fail;refine(K.out.f _).mono ?_;rintro e w1 ⟨rfl,hg⟩;have G1:=zHd hg;clear hg;go_wp2_with fail;rw[HE.out];refine(X.out _).mono ?_;rintro e w2 ⟨rfl,hg⟩;have HB:=zHd (alloc_old hg);have hc:=zvj HB.out;have G2:=zHd (zaa G1.out (zaa (zGA _ _ none) hg));clear hg;go_wp2_with fail;rw[HE.out];refine(Y.out _).mono ?_;rintro e w3 ⟨rfl,hg⟩;have hb:=(hg.block _ (lt_of_block HB.out) (by simp)).trans HB.out;clear HB hc;have HB:=zHd hb;have hc:=zvj HB.out;have G3:=zHd (zaa G2.out hg);clear hg hb;clear HB;go_wp2_with fail;rw[EF.out];refine(C.out _).mono ?_;rintro e w4 ⟨rfl,hg⟩;have G4:=zHd (zaa G3.out hg);clear hg hc;go_wp2;go_ret2;exact⟨rfl,G4.out⟩
theorem zmu {k:Int}{z o:ByteArray}{V W F:Nat}{p s ov b:Value}(K:Hid (Kind k z o V W p (.func (.func F) #[] #[]) s ov b))(EF:Hid (Enters F))(a c:ByteArray)(S:ByteArray)(E:Int)(w:World)(X:Hid (zcq V a true))(Y:Hid (zcq V c true))(C:Hid (zil F a c (.tuple #[.string S,.int .i64 E]))) :
  Calls Tryz.prog 67 #[.int .i64 k,.string a,.string c] w (zab (.tuple #[.string S,.int .i64 E]) w):=by
 have HE:=zHd K.out.ev;go_enter Tryz.func67,Tryz.ntmps67;obtain⟨u1,u2,u3,u4,u5⟩:=zgp K.out.one;unfold zht at u1 u2 u3 u4 u5;go_wp2_with fail;refine(K.out.f _).mono ?_;rintro e w1 ⟨rfl,hg⟩;have G1:=zHd hg;clear hg;go_wp2_with fail;rw[HE.out];refine(X.out _).mono ?_;rintro e w2 ⟨rfl,hg⟩;have HB:=zHd (alloc_old hg);have hc:=zvj HB.out;have G2:=zHd (zaa G1.out (zaa (zGA _ _ none) hg));clear hg;go_wp2_with fail;rw[HE.out];refine(Y.out _).mono ?_;rintro e w3 ⟨rfl,hg⟩;have hb:=(hg.block _ (lt_of_block HB.out) (by simp)).trans HB.out;clear HB hc;have HB:=zHd hb;have hc:=zvj HB.out;have G3:=zHd (zaa G2.out hg);clear hg hb;clear HB;go_wp2_with fail;rw[EF.out];refine(C.out _).mono ?_;rintro e w4 ⟨rfl,hg⟩;have G4:=zHd (zaa G3.out hg);clear hg hc;go_wp2;go_ret2;exact⟨rfl,G4.out⟩
theorem zoy {k:Int}{z o:ByteArray}{V W F:Nat}{p t ov b:Value}(K:Hid (Kind k z o V W p t (.func (.func F) #[] #[]) ov b))(EF:Hid (Enters F))(a S:ByteArray)(E:Int)(w:World)(X:Hid (zcq V a true))(C:Hid (ztY F a (.tuple #[.string S,.int .i64 E]))) :
  Calls Tryz.prog 204 #[.int .i64 k,.string a] w (zab (.tuple #[.string S,.int .i64 E]) w):=by
 have HE:=zHd K.out.ev;go_enter Tryz.func204,Tryz.ntmps204;obtain⟨u1,u2,u3,u4,u5⟩:=zgp K.out.one;unfold zht at u1 u2 u3 u4 u5;go_wp2_with fail;refine(K.out.f _).mono ?_;rintro e w1 ⟨rfl,hg⟩;have G1:=zHd hg;clear hg;go_wp2_with fail;rw[HE.out];refine(X.out _).mono ?_;rintro e w2 ⟨rfl,hg⟩;have HB:=zHd (alloc_old hg);have hc:=zvj HB.out;have G2:=zHd (zaa G1.out (zaa (zGA _ _ none) hg));clear hg;clear HB;go_wp2_with fail;rw[EF.out];refine(C.out _).mono ?_;rintro e w3 ⟨rfl,hg⟩;have G3:=zHd (zaa G2.out hg);clear hg hc;go_wp2;go_ret2;exact⟨rfl,G3.out⟩
open Go.RowKit
open Go.Lib (nDigits decDigits)
theorem znY:Enters 107:=enters_of Tryz.func107 (by kernel_rfl) rfl
theorem zqc:Enters 108:=enters_of Tryz.func108 (by kernel_rfl) rfl
theorem zvk:Enters 109:=enters_of Tryz.func109 (by kernel_rfl) rfl
theorem zlJ:Enters 115:=enters_of Tryz.func115 (by kernel_rfl) rfl
theorem zjG:Enters 116:=enters_of Tryz.func116 (by kernel_rfl) rfl
theorem ztG:Enters 110:=enters_of Tryz.func110 (by kernel_rfl) rfl
theorem zrK:Enters 122:=enters_of Tryz.func122 (by kernel_rfl) rfl
theorem zvl:Enters 111:=enters_of Tryz.func111 (by kernel_rfl) rfl
theorem enters_sum':Enters 117:=enters_of Tryz.func117 (by kernel_rfl) rfl
theorem enters_product':Enters 118:=enters_of Tryz.func118 (by kernel_rfl) rfl
theorem zvm:Enters 112:=enters_of Tryz.func112 (by kernel_rfl) rfl
theorem zvn:Enters 119:=enters_of Tryz.func119 (by kernel_rfl) rfl
theorem zvo:Enters 123:=enters_of Tryz.func123 (by kernel_rfl) rfl
theorem zld:Kind 1 zcX zdu 108 109 (fnV 110) (fnV 111) (fnV 112) (fnV 113) (fnV 114) :=
 ⟨fun w=>zpP 1 w,zqc,zvk,rfl⟩
theorem zle:Kind 2 zdu zjR 115 116 (fnV 117) (fnV 118) (fnV 119) (fnV 120) (fnV 121) :=
 ⟨fun w=>zpP 2 w,zlJ,zjG,rfl⟩
theorem ziz:Kind 3 zdu zjR 115 116 (fnV 122) (fnV 118) (fnV 123) (fnV 120) (fnV 121) :=
 ⟨fun w=>zpP 3 w,zlJ,zjG,rfl⟩
theorem zDl {k:Int}(h1:k≠1)(h2:k≠2)(h3:k≠3):Kind k ⟨#[]⟩ ⟨#[]⟩ 107 107 .nilFunc .nilFunc .nilFunc .nilFunc .nilFunc :=
 ⟨fun w=>by
  have h:=zpP k w;unfold zzO zax at h;rw[if_neg h1,if_neg h2,if_neg h3] at h;exact h,znY,znY,rfl⟩
def zae (k:Int):ByteArray:=if k=1 then zcX else if k=2∨k=3 then zdu else ⟨#[]⟩
def zal (k:Int):ByteArray:=if k=1 then zdu else if k=2∨k=3 then zjR else ⟨#[]⟩
structure zmv (k:Int)(V W:Nat):Prop where
 vy:∀ a v,Val k a v->zcq V a true
 vn:∀ a,a.size<=maxLen->zpH k a->zcq V a false
 wy:∀ a v,Wgt k a v->zcq W a true
 wn:∀ a,a.size<=maxLen->zzs k a->zcq W a false
theorem zkt:zmv 1 108 109:=by
 refine⟨fun a v h=>zva h.e,fun a ha h=>zxa (fun v k=>?_) ha,fun a v h=>?_,fun a ha h=>?_⟩
 ·have:=h v k;rw[znx] at this;cases this
 ·have:=zpT h.e;rw[h.has] at this;exact this
 ·rcases zpR a with⟨v,hv⟩|hn
  ·have:=zpT hv;rw[h v hv] at this;exact this
  ·exact fun w=>zhH hn.rat ha w
theorem zfZ:zmv 2 115 116:=by
 refine⟨fun a v h=>?_,fun a ha h=>?_,fun a v h=>?_,fun a ha h=>?_⟩
 ·have:=zpS h.e;rw[h.has] at this;exact this
 ·rcases zpR a with⟨v,hv⟩|hn
  ·have:=zpS hv;rw[h v hv] at this;exact this
  ·exact zCR hn ha
 ·have:=zmq h.e;rw[h.has] at this;exact this
 ·rcases zpR a with⟨v,hv⟩|hn
  ·have:=zmq hv;rw[h v hv] at this;exact this
  ·exact zxb hn ha
theorem zhu:zmv 3 115 116 :=
 ⟨fun a v h=>zfZ.vy a v ⟨h.e,by rw[zcA];exact h.has⟩,fun a ha h=>zfZ.vn a ha (fun v hv=>by rw[zcA];exact h v hv),
  fun a v h=>zfZ.wy a v ⟨h.e,by rw[zyi];exact h.has⟩,fun a ha h=>zfZ.wn a ha (fun v hv=>by rw[zyi];exact h v hv)⟩
theorem zJg {k:Int}(h1:k≠1)(h2:k≠2)(h3:k≠3):zmv k 107 107 :=
 ⟨fun a v h=>absurd h.has (by rw[zrd h1 h2 h3];simp),fun a _ _=>zuZ a,fun a v h=>absurd h.val.has (by rw[zrd h1 h2 h3];simp),fun a _ _=>zuZ a⟩
theorem zhv (k:Int):∃ V W p t s ov b,Kind k (zae k) (zal k) V W p t s ov b/\zmv k V W:=by
 unfold zae zal
 by_cases h1:k=1
 ·subst h1;exact⟨_,_,_,_,_,_,_,zld,zkt⟩
 by_cases h2:k=2
 ·subst h2;exact⟨_,_,_,_,_,_,_,zle,zfZ⟩
 by_cases h3:k=3
 ·subst h3;exact⟨_,_,_,_,_,_,_,ziz,zhu⟩
 simp only[h1,h2,h3,if_false,or_self];exact⟨_,_,_,_,_,_,_,zDl h1 h2 h3,zJg h1 h2 h3⟩
def VB (F:Nat)(k:Int)(a:ByteArray)(x:Bool):Prop:=∀ w,Calls Tryz.prog F #[.int .i64 k,.string a] w (zab (.bool x) w)
theorem zqd {k:Int}{a:ByteArray}{v:Ext}(h:Val k a v):VB 71 k a true:=fun w=>by
 obtain⟨V,W,p,t,s,ov,b,K,I⟩:=zhv k;exact znX (zHd K) a true w (zHd (I.vy a v h))
theorem zsJ {k:Int}{a:ByteArray}(h:zpH k a)(ha:a.size<=maxLen):VB 71 k a false:=fun w=>by
 obtain⟨V,W,p,t,s,ov,b,K,I⟩:=zhv k;exact znX (zHd K) a false w (zHd (I.vn a ha h))
theorem zxm {k:Int}{a:ByteArray}{v:Ext}(h:Wgt k a v):VB 128 k a true:=fun w=>by
 obtain⟨V,W,p,t,s,ov,b,K,I⟩:=zhv k;exact zmt (zHd K) a true w (zHd (I.wy a v h))
theorem zAa {k:Int}{a:ByteArray}(h:zzs k a)(ha:a.size<=maxLen):VB 128 k a false:=fun w=>by
 obtain⟨V,W,p,t,s,ov,b,K,I⟩:=zhv k;exact zmt (zHd K) a false w (zHd (I.wn a ha h))
theorem zDm (k:Int)(w:World):Calls Tryz.prog 33 #[.int .i64 k] w (zab (.string (zae k)) w):=by
 obtain⟨V,W,p,t,s,ov,b,K,I⟩:=zhv k;exact zzZ (zHd K) w
theorem zoz (k:Int)(w:World):Calls Tryz.prog 34 #[.int .i64 k] w (zab (.string (zal k)) w):=by
 obtain⟨V,W,p,t,s,ov,b,K,I⟩:=zhv k;exact zDk (zHd K) w
def SOp (F:Nat)(k:Int)(a b:ByteArray)(V:Value):Prop:=∀ w,Calls Tryz.prog F #[.int .i64 k,.string a,.string b] w (zab V w)
theorem zmw (v:Ext):∃ S E,zbI v=.tuple #[.string S,.int .i64 E]:=by
 rcases v with(_|_)|x
 ·exact⟨_,_,rfl⟩
 ·exact⟨_,_,rfl⟩
 ·exact zbx x
theorem zJh {a b:ByteArray}{u v:Ext}(ha:IsE a u)(hb:IsE b v)(hu:zap 2 u=true)(hv:zap 2 v=true):zil 117 a b (zbI (zde u v)):=fun w=>by
 have i:=zck ha;have j:=zck hb;rcases u with(_|_)|x
 ·cases hu
 ·exact zyu a b _ _ w i j rfl
 rcases v with(_|_)|y
 ·cases hv
 ·exact zyu a b _ _ w i j rfl
 obtain⟨S,E,e⟩:=zbx (x+y);have C:=fun w=>zyf ha hb w;show Calls _ _ _ w (zab (zcN (x+y)) w);rw[e] at C ⊢;exact zJf a b S E w i j (zHd C)
theorem zDn {a b:ByteArray}{u v:Ext}(ha:IsE a u)(hb:IsE b v):zil 111 a b (zbI (zci u v)):=fun w=>by
 have i:=zck ha;have j:=zck hb;have m:=zfb ha;have n:=zfb hb;rcases u with(_|_)|x <;> rcases v with(_|_)|y
 ·exact zmr a b _ _ w i j m n rfl
 ·exact zhX a b _ _ w i j rfl
 ·exact zmr a b _ _ w i j m n rfl
 ·exact zhX a b _ _ w i j rfl
 ·exact zhX a b _ _ w i j rfl
 ·exact zhX a b _ _ w i j rfl
 ·exact zmr a b _ _ w i j m n rfl
 ·exact zhX a b _ _ w i j rfl
 obtain⟨S,E,e⟩:=zbx (x+y);have C:=fun w=>zyf ha hb w;show Calls _ _ _ w (zab (zcN (x+y)) w);rw[e] at C ⊢;exact zCS a b S E w i j m n (zHd C)
theorem zeroV:zbI (.inr 0)=okV zdu:=zhj zkO
theorem zeJ (v:Ext):isNil v=true↔v=.inr 0:=by
 rcases v with(_|_)|x
 ·exact⟨fun h=>(by cases h),fun h=>(by cases h)⟩
 ·exact⟨fun h=>(by cases h),fun h=>(by cases h)⟩
 ·exact⟨fun h=>by rw[of_decide_eq_true h],fun h=>decide_eq_true (Sum.inr.inj h)⟩
theorem zvp {a b:ByteArray}{u v:Ext}(ha:IsE a u)(hb:IsE b v)(hu:zap 2 u=true)(hv:zap 2 v=true):zil 118 a b (zbI (zaK u v)):=fun w=>by
 have i:=zck ha;have j:=zck hb;have m:=zkW ha;have n:=zkW hb;unfold zaK
 by_cases h:u=.inr 0∨v=.inr 0
 ·rw[if_pos h,zeroV]
  refine zCT a b _ _ w m n ?_;rw[Bool.or_eq_true,zeJ,zeJ];exact h
 rw[if_neg h];have hm:isNil u=false:=by rw[<- Bool.not_eq_true,zeJ];exact fun k=>h (.inl k)
 have hn:isNil v=false:=by rw[<- Bool.not_eq_true,zeJ];exact fun k=>h (.inr k)
 rw[hm] at m;rw[hn] at n;rcases u with(_|_)|x
 ·cases hu
 ·exact zvc a b _ _ w m n i j rfl
 rcases v with(_|_)|y
 ·cases hv
 ·exact zvc a b _ _ w m n i j rfl
 obtain⟨S,E,e⟩:=zbx (x*y);have C:=fun w=>zIS ha hb w;show Calls _ _ _ w (zab (zcN (x*y)) w);rw[e] at C ⊢;exact zGw a b S E w m n i j (zHd C)
theorem zDo {k:Int}{a b:ByteArray}{u v:Ext}(ha:Val k a u)(hb:Val k b v):SOp 70 k a b (zbI (zcP k u v)):=fun w=>by
 obtain⟨S,E,e⟩:=zmw (zcP k u v);rw[e];rcases ha.kind with rfl|rfl|rfl
 ·have C:=zzQ ha.e hb.e
  rw[show zco u v=zcP 1 u v from rfl,e] at C;exact zox (zHd zld) (zHd ztG) a b S E w (zHd (zkt.vy a u ha)) (zHd (zkt.vy b v hb)) (zHd C)
 ·have C:=zJh ha.e hb.e ha.has hb.has
  rw[show zde u v=zcP 2 u v from rfl,e] at C;exact zox (zHd zle) (zHd enters_sum') a b S E w (zHd (zfZ.vy a u ha)) (zHd (zfZ.vy b v hb)) (zHd C)
 ·have C:=zxd ha.e hb.e
  rw[show zbN u v=zcP 3 u v from rfl,e] at C;exact zox (zHd ziz) (zHd zrK) a b S E w (zHd (zhu.vy a u ha)) (zHd (zhu.vy b v hb)) (zHd C)
theorem zAb {k:Int}{a b:ByteArray}{u v:Ext}(ha:Val k a u)(hb:Val k b v):SOp 67 k a b (zbI (zbt k u v)):=fun w=>by
 obtain⟨S,E,e⟩:=zmw (zbt k u v);rw[e];rcases ha.kind with rfl|rfl|rfl
 ·have C:=zDn ha.e hb.e
  rw[show zci u v=zbt 1 u v from rfl,e] at C;exact zmu (zHd zld) (zHd zvl) a b S E w (zHd (zkt.vy a u ha)) (zHd (zkt.vy b v hb)) (zHd C)
 ·have C:=zvp ha.e hb.e ha.has hb.has
  rw[show zaK u v=zbt 2 u v from rfl,e] at C;exact zmu (zHd zle) (zHd enters_product') a b S E w (zHd (zfZ.vy a u ha)) (zHd (zfZ.vy b v hb)) (zHd C)
 ·have C:=zvp ha.e hb.e (by rw[zcA];exact ha.has) (by rw[zcA];exact hb.has)
  rw[show zaK u v=zbt 3 u v from rfl,e] at C;exact zmu (zHd ziz) (zHd enters_product') a b S E w (zHd (zhu.vy a u ha)) (zHd (zhu.vy b v hb)) (zHd C)
def zGI (F:Nat)(k:Int)(a:ByteArray)(V:Value):Prop:=∀ w,Calls Tryz.prog F #[.int .i64 k,.string a] w (zab V w)
theorem zDp {a:ByteArray}{u:Ext}(ha:IsE a u):ztY 112 a (zbI (zdv 1 u)):=fun w=>by
 have k:=zpU a _ _ w (zHd (zep ha znv)) rfl;show Calls _ _ _ w (zab (zbI (if zbs u (.inr 0)<0 then .inl false else .inr 0)) w)
 by_cases h:zbs u (.inr 0)<0
 ·rw[if_pos h]
  rw[decide_eq_true h] at k;exact k
 ·rw[if_neg h,zeroV]
  rw[zqcb h] at k;exact k
theorem oneV:zbI (.inr 1)=okV zjR:=zhj zhp
theorem zDq {a:ByteArray}{u:Ext}(ha:IsE a u):ztY 123 a (zbI (zdv 3 u)):=fun w=>by
 have k:=zot a _ _ w (zHd (zep ha zhp)) rfl;show Calls _ _ _ w (zab (zbI (if 0<zbs u (.inr 1) then .inl true else .inr 1)) w)
 by_cases h:0<zbs u (.inr 1)
 ·rw[if_pos h]
  rw[decide_eq_true h] at k;exact k
 ·rw[if_neg h,oneV]
  rw[zqcb h] at k;exact k
theorem zDr {a:ByteArray}{u:Ext}(ha:IsE a u)(hu:zap 2 u=true):ztY 119 a (zbI (zdv 2 u)):=fun w=>by
 rcases zaA u hu with rfl|⟨x,rfl,hx⟩
 ·exact zms a _ w (zHd (zep ha zhp)) (by decide)
 show Calls _ _ _ w (zab (zbI (if x<1 then .inr (1/(1-x)) else .inl true)) w)
 by_cases h:x<1
 ·rw[if_pos h]
  have hs:=zpI hx (Rat.le_of_lt h) (show zbp x from zaw.short ha);have hR:zaw (zes (1-x)) (1-x):=⟨hs,rfl⟩;have hne:(1-x).num≠0:=zrf h;obtain⟨S,E,e⟩:=zbx (1/(1-x));show Calls _ _ _ w (zab (zcN (1/(1-x))) w);have D:=fun w=>zIR zhp ha w;have V:=fun w=>zIT zhp hR hne w;rw[zhj hR] at D;rw[e] at V ⊢;exact zvd a _ S _ 0 E w (zHd (zep ha zhp)) (fun k=>by have:=(zfo x 1).2 h;have k:0<=zcv x 1:=k;omega) (zHd D) (zHd V)
 ·rw[if_neg h]
  refine zms a _ w (zHd (zep ha zhp)) ?_;have:¬ zcv x 1<0:=fun k=>h ((zfo x 1).1 k);show 0<=zcv x 1;omega
theorem zDs {k:Int}{a:ByteArray}{u:Ext}(ha:Val k a u):zGI 204 k a (zbI (zdv k u)):=fun w=>by
 obtain⟨S,E,e⟩:=zmw (zdv k u);rw[e];rcases ha.kind with rfl|rfl|rfl
 ·have C:=zDp ha.e
  rw[e] at C;exact zoy (zHd zld) (zHd zvm) a S E w (zHd (zkt.vy a u ha)) (zHd C)
 ·have C:=zDr ha.e ha.has
  rw[e] at C;exact zoy (zHd zle) (zHd zvn) a S E w (zHd (zfZ.vy a u ha)) (zHd C)
 ·have C:=zDq ha.e
  rw[e] at C;exact zoy (zHd ziz) (zHd zvo) a S E w (zHd (zhu.vy a u ha)) (zHd C)
theorem zGJ {k:Int}(h:k=1∨k=2∨k=3):IsE (zae k) (zhI k):=by
 rcases h with rfl|rfl|rfl
 ·exact topE
 ·exact znv
 ·exact znv
theorem zrL {k:Int}(h:k=1∨k=2∨k=3):IsE (zal k) (zhV k):=by
 rcases h with rfl|rfl|rfl
 ·exact znv
 ·exact zhp
 ·exact zhp
open Go.RowKit
section
variable {k:Int}
def tx (v:El k):ByteArray:=zri v.1
def zam (v:El k):Prop:=Fits v.1
def zbi (k:Int):Value:=.agg #[.int .i64 k,.string (zae k),.string (zal k)]
def zoA (k:Int)(a:ByteArray):Value:=.agg #[.int .i64 k,.string (zae k),.string (zal k),.string a]
def zku (P:Prop)(V:Value)(w:World)(e:Ending)(w':World):Prop:=(P/\zab V w e w')∨(¬ P/\zfG 2 w e w')
theorem zlf {v:El k}(h:zam v):IsE (tx v) v.1:=zyl h
theorem zeX {v:El k}(h:zam v):Val k (tx v) v.1:=⟨zlf h,v.2⟩
theorem zdG (hk:zad k):tx (srE k hk).zero=zae k:=(zGJ hk).text.symm
theorem zvq (hk:zad k):tx (srE k hk).one=zal k:=(zrL hk).text.symm
theorem zcw (hk:zad k):zam (srE k hk).zero:=(zel k).fits (by omega)
theorem zrM (hk:zad k):zam (srE k hk).one:=(ziw k).fits (by omega)
theorem zfu {u v:El k}(hu:zam u)(hv:zam v)(h:tx u=tx v):u=v:=Subtype.ext ((zlf hu).uniq (h▸zlf hv))
theorem zec (hk:zad k){u:El k}(hu:zam u)(h:tx u=zae k):u=(srE k hk).zero:=zfu hu (zcw hk) (by rw[h,zdG])
theorem zsK (hk:zad k){u:El k}(hu:zam u)(h:tx u=zal k):u=(srE k hk).one:=zfu hu (zrM hk) (by rw[h,zvq])
theorem zlg {v:Ext}(h:¬ Fits v):zbI v=.tuple #[.string ⟨#[]⟩,.int .i64 2]:=by
 rcases v with(_|_)|x
 ·exact absurd trivial h
 ·exact absurd trivial h
 ·exact zgs h
theorem zcI (a b:ByteArray):((a.toList==b.toList)=true/\a=b)∨((a.toList==b.toList)=false/\a≠b):=by
 by_cases h:a=b
 ·left;exact⟨by rw[h];exact beq_self_eq_true _,h⟩
 ·right
  refine⟨?_,h⟩;rw[Bool.eq_false_iff];intro e;have:=eq_of_beq e;rw[Lib.toList_data,Lib.toList_data] at this;exact h (ByteArray.ext (Array.ext' this))
theorem zoB (a:ByteArray)(w:World):Calls Tryz.prog 102 #[.string a,.int .i64 0] w (zab (.string a) w):=by
 go_enter Tryz.func102,Tryz.ntmps102;go_wp2;go_ret;exact⟨rfl,zaf _ _⟩
theorem zmx (a:ByteArray)(w:World):Calls Tryz.prog 102 #[.string a,.int .i64 2] w (zfG 2 w):=by
 go_enter Tryz.func102,Tryz.ntmps102;go_wp2;exact⟨rfl,rfl,zaf _ _⟩
theorem zjH (hk:zad k){u v:El k}(hu:zam u)(hv:zam v)(w:World) :
  Calls Tryz.prog 87 #[zbi k,.string (tx u),.string (tx v)] w (zku (zam ((srE k hk).add u v)) (.string (tx ((srE k hk).add u v))) w):=by
 unfold zbi;rcases zcI (tx u) (zae k) with⟨f1,e1⟩|⟨f1,e1⟩
 ·have hz:=zec hk hu e1
  have hs:(srE k hk).add u v=v:=by rw[hz,(srE k hk).zero_add]
  rw[hs];have HFV:=zHd hv;clear hs hz e1;go_enter Tryz.func87,Tryz.ntmps87;go_wp2;go_ret;exact .inl ⟨HFV.out,rfl,zGA _ _ _⟩
 ·rcases zcI (tx v) (zae k) with⟨f2,e2⟩|⟨f2,e2⟩
  ·have hz:=zec hk hv e2
   have hs:(srE k hk).add u v=u:=by rw[hz,(srE k hk).add_zero]
   rw[hs];clear hs hz e2 e1;go_enter Tryz.func87,Tryz.ntmps87;go_wp2;go_ret;exact .inl ⟨hu,rfl,zGA _ _ _⟩
  ·have hp:=zDo (zeX hu) (zeX hv)
   clear e1 e2
   by_cases hf:zam ((srE k hk).add u v)
   ·have e:zbI (zcP k u.1 v.1)=.tuple #[.string (tx ((srE k hk).add u v)),.int .i64 0]:=zmi hf
    rw[e] at hp;have HP:=zHd hp;have HFF:=zHd hf;clear hp e hf;generalize (srE k hk).add u v=s at *;go_enter Tryz.func87,Tryz.ntmps87;go_wp2_with fail;refine(HP.out _).mono ?_;rintro e w1 ⟨rfl,hg1⟩;go_wp2_with fail;refine(zoB _ _).mono ?_;rintro e w2 ⟨rfl,hg2⟩;have HG:=zHd (zaa (zaa (zGA _ _ none) hg1) hg2);clear hg1 hg2;go_wp2;go_ret;exact .inl ⟨HFF.out,rfl,HG.out⟩
   ·have e:zbI (zcP k u.1 v.1)=.tuple #[.string ⟨#[]⟩,.int .i64 2]:=zlg hf
    rw[e] at hp;have HP:=zHd hp;have HF:=zHd hf;clear hp e hf;go_enter Tryz.func87,Tryz.ntmps87;go_wp2_with fail;refine(HP.out _).mono ?_;rintro e w1 ⟨rfl,hg1⟩;go_wp2_with fail;refine(zmx _ _).mono ?_;rintro e w2 ⟨rfl,hg2⟩;exact⟨rfl,.inr ⟨HF.out,rfl,zaa (zaa (zGA _ _ none) hg1) hg2⟩⟩
theorem zqe (hk:zad k){u v:El k}(hu:zam u)(hv:zam v)(w:World) :
  Calls Tryz.prog 59 #[zbi k,.string (tx u),.string (tx v)] w (zku (zam ((srE k hk).mul u v)) (.string (tx ((srE k hk).mul u v))) w):=by
 unfold zbi;rcases zcI (tx u) (zae k) with⟨f1,e1⟩|⟨f1,e1⟩
 ·have hz:=zec hk hu e1
  have hs:(srE k hk).mul u v=u:=by rw[hz,(srE k hk).zero_mul]
  rw[hs];clear hs hz e1;go_enter Tryz.func59,Tryz.ntmps59;go_wp2;go_ret;exact .inl ⟨hu,rfl,zGA _ _ _⟩
 ·rcases zcI (tx v) (zal k) with⟨f2,e2⟩|⟨f2,e2⟩
  ·have hz:=zsK hk hv e2
   have hs:(srE k hk).mul u v=u:=by rw[hz,(srE k hk).mul_one]
   rw[hs];clear hs hz e2 e1;go_enter Tryz.func59,Tryz.ntmps59;go_wp2;go_ret;exact .inl ⟨hu,rfl,zGA _ _ _⟩
  ·rcases zcI (tx v) (zae k) with⟨f3,e3⟩|⟨f3,e3⟩
   ·have hz:=zec hk hv e3
    have hs:(srE k hk).mul u v=v:=(by rw[hz,(srE k hk).mul_zero]);rw[hs];clear hs hz e2 e1 e3;go_enter Tryz.func59,Tryz.ntmps59;go_wp2;go_ret;exact .inl ⟨hv,rfl,zGA _ _ _⟩
   ·rcases zcI (tx u) (zal k) with⟨f4,e4⟩|⟨f4,e4⟩
    ·have hz:=zsK hk hu e4
     have hs:(srE k hk).mul u v=v:=(by rw[hz,(srE k hk).one_mul]);rw[hs];clear hs hz e2 e1 e3 e4;go_enter Tryz.func59,Tryz.ntmps59;go_wp2;go_ret;exact .inl ⟨hv,rfl,zGA _ _ _⟩
    ·have hp:=zAb (zeX hu) (zeX hv)
     clear e1 e2 e3 e4
     by_cases hf:zam ((srE k hk).mul u v)
     ·have e:zbI (zbt k u.1 v.1)=.tuple #[.string (tx ((srE k hk).mul u v)),.int .i64 0]:=zmi hf
      rw[e] at hp;have HP:=zHd hp;have HFF:=zHd hf;clear hp e hf;generalize (srE k hk).mul u v=s at *;go_enter Tryz.func59,Tryz.ntmps59;go_wp2_with fail;refine(HP.out _).mono ?_;rintro e w1 ⟨rfl,hg1⟩;go_wp2_with fail;refine(zoB _ _).mono ?_;rintro e w2 ⟨rfl,hg2⟩;have HG:=zHd (zaa (zaa (zGA _ _ none) hg1) hg2);clear hg1 hg2;go_wp2;go_ret;exact .inl ⟨HFF.out,rfl,HG.out⟩
     ·have e:zbI (zbt k u.1 v.1)=.tuple #[.string ⟨#[]⟩,.int .i64 2]:=zlg hf
      rw[e] at hp;have HP:=zHd hp;have HF:=zHd hf;clear hp e hf;go_enter Tryz.func59,Tryz.ntmps59;go_wp2_with fail;refine(HP.out _).mono ?_;rintro e w1 ⟨rfl,hg1⟩;go_wp2_with fail;refine(zmx _ _).mono ?_;rintro e w2 ⟨rfl,hg2⟩;exact⟨rfl,.inr ⟨HF.out,rfl,zaa (zaa (zGA _ _ none) hg1) hg2⟩⟩
theorem zDt (hk:zad k){u:El k}(hu:zam u)(w:World) :
  Calls Tryz.prog 166 #[zbi k,.string (tx u)] w (zku (zam ((srE k hk).star u)) (.string (tx ((srE k hk).star u))) w):=by
 unfold zbi;have hp:=zDs (zeX hu)
 by_cases hf:zam ((srE k hk).star u)
 ·have e:zbI (zdv k u.1)=.tuple #[.string (tx ((srE k hk).star u)),.int .i64 0]:=zmi hf
  rw[e] at hp;have HP:=zHd hp;have HFF:=zHd hf;clear hp e hf;generalize (srE k hk).star u=s at *;go_enter Tryz.func166,Tryz.ntmps166;go_wp2_with fail;refine(HP.out _).mono ?_;rintro e w1 ⟨rfl,hg1⟩;go_wp2_with fail;refine(zoB _ _).mono ?_;rintro e w2 ⟨rfl,hg2⟩;have HG:=zHd (zaa (zaa (zGA _ _ none) hg1) hg2);clear hg1 hg2;go_wp2;go_ret;exact .inl ⟨HFF.out,rfl,HG.out⟩
 ·have e:zbI (zdv k u.1)=.tuple #[.string ⟨#[]⟩,.int .i64 2]:=zlg hf
  rw[e] at hp;have HP:=zHd hp;have HF:=zHd hf;clear hp e hf;go_enter Tryz.func166,Tryz.ntmps166;go_wp2_with fail;refine(HP.out _).mono ?_;rintro e w1 ⟨rfl,hg1⟩;go_wp2_with fail;refine(zmx _ _).mono ?_;rintro e w2 ⟨rfl,hg2⟩;exact⟨rfl,.inr ⟨HF.out,rfl,zaa (zaa (zGA _ _ none) hg1) hg2⟩⟩
theorem zmy (hk:zad k){u v:El k}(hu:zam u)(hv:zam v)(w:World) :
  Calls Tryz.prog 167 #[zoA k (tx u),.string (tx v)] w (zku (zam ((srE k hk).mul u v)) (.string (tx ((srE k hk).mul u v))) w):=by
 have ht:=fun w'=>zqe hk hu hv w';unfold zoA;unfold zbi at *;have HT:=zHd ht;clear ht;go_enter Tryz.func167,Tryz.ntmps167;go_wp2_with fail;refine(HT.out _).mono ?_;rintro e w1 (⟨hp,rfl,hg⟩|⟨hn,rfl,hg⟩)
 ·have HG:=zHd hg;have HPP:=zHd hp
  clear hg HT hp;go_wp2;go_ret;exact .inl ⟨HPP.out,rfl,zaa (zGA _ _ none) HG.out⟩
 ·exact⟨rfl,.inr ⟨hn,rfl,zaa (zGA _ _ none) hg⟩⟩
theorem zao (w:World)(cur:Array Value)(t:TypeId){j:Nat}{u:Value}(h:cur[j]?=some u):(w.alloc (.cells cur t)).cell? ⟨w.heap.size,j,none⟩=some u:=by
 rw[zqbw (w.alloc (.cells cur t)) w.heap.size j cur t (0,0) (by show(w.heap.push _)[w.heap.size]?=_;rw[zqaz])];exact h
theorem zqf (hk:zad k){u v t:El k}(hu:zam u)(hv:zam v)(ht:zam t)(w:World) :
  Calls Tryz.prog 135 #[zoA k (tx u),.string (tx t),.string (tx v)] w (zku (zam ((srE k hk).mul u v)/\zam ((srE k hk).add t ((srE k hk).mul u v))) (.string (tx ((srE k hk).add t ((srE k hk).mul u v)))) w):=by
 have h1:=fun w'=>zmy hk hu hv w';have h2:=fun(hm:zam ((srE k hk).mul u v)) w'=>zjH hk ht hm w';generalize (srE k hk).mul u v=p at *;generalize (srE k hk).add t p=s at *;unfold zoA at *;unfold zbi at *;have H1:=zHd h1;have H2:=zHd h2;clear h1 h2;go_enter Tryz.func135,Tryz.ntmps135;go_upto_region 1 with(fail);have x0:(w.alloc (.cells #[.int .i64 k,.string (zae k),.string (zal k),.string (tx u)] 129)).cell? ⟨w.heap.size,0,none⟩=some (.int .i64 k):=zao w _ _ rfl;have x1:(w.alloc (.cells #[.int .i64 k,.string (zae k),.string (zal k),.string (tx u)] 129)).cell? ⟨w.heap.size,1,none⟩=some (.string (zae k)):=zao w _ _ rfl;have x2:(w.alloc (.cells #[.int .i64 k,.string (zae k),.string (zal k),.string (tx u)] 129)).cell? ⟨w.heap.size,2,none⟩=some (.string (zal k)):=zao w _ _ rfl;have x3:(w.alloc (.cells #[.int .i64 k,.string (zae k),.string (zal k),.string (tx u)] 129)).cell? ⟨w.heap.size,3,none⟩=some (.string (tx u)):=zao w _ _ rfl;have hg0:w.grownBy (w.alloc (.cells #[.int .i64 k,.string (zae k),.string (zal k),.string (tx u)] 129)) none:=zGA _ _ none;generalize w.alloc (.cells #[.int .i64 k,.string (zae k),.string (zal k),.string (tx u)] 129)=W at *;have d0:W.drew.cell? ⟨w.heap.size,0,none⟩=some (.int .i64 k):=x0;have d1:W.drew.cell? ⟨w.heap.size,1,none⟩=some (.string (zae k)):=x1;have d2:W.drew.cell? ⟨w.heap.size,2,none⟩=some (.string (zal k)):=x2;have d3:W.drew.cell? ⟨w.heap.size,3,none⟩=some (.string (tx u)):=x3;have HGD:=zHd (zaa hg0 (zag W none));clear x0 x1 x2 x3 hg0
 go_region_with (first
  | (go_at_call 167;refine(H1.out _).mono ?_;clear H1;rintro e w5 (⟨hp,rfl,hg5⟩|⟨hn,rfl,hg5⟩);rotate_left 1;(exact⟨rfl,.inr ⟨fun h=>hn h.1,rfl,zaa HGD.out hg5⟩⟩);have s0:=hg5.cell d0 (by simp);have s1:=hg5.cell d1 (by simp);have s2:=hg5.cell d2 (by simp);have s3:=hg5.cell d3 (by simp);have HG5:=zHd hg5;have HPP:=zHd hp;clear hg5 hp)
  | (go_at_call 87;refine(H2.out HPP.out _).mono ?_;clear H2;rintro e w6 (⟨hs,rfl,hg6⟩|⟨hn,rfl,hg6⟩);rotate_left 1;(exact⟨rfl,.inr ⟨fun h=>hn h.2,rfl,zaa (zaa HGD.out HG5.out) hg6⟩⟩);have HG6:=zHd hg6;have HSS:=zHd hs;clear hg6 hs))
 all_goals
  go_wp2;go_ret;exact .inl ⟨⟨HPP.out,HSS.out⟩,rfl,zaa (zaa HGD.out HG5.out) HG6.out⟩
end
open Go.RowKit
theorem zGK (n:Nat)(hn:n<=10000)(w:World):Calls Tryz.prog 171 #[.int .u64 1,.int .u64 (n:Int)] w fun e w'=>e=.returned (.tuple #[.int .u64 0,.int .u64 (n:Int)])/\w'=w:=by
 have h:=fun w=>Tryz.bits_Mul64 1 n (by omega) (by omega) w;rw[Nat.one_mul,Nat.div_eq_of_lt (by omega),Nat.mod_eq_of_lt (by omega)] at h;have H:=zHd h;clear h;go_enter Tryz.func171,Tryz.ntmps171;go_wp2_with fail;refine(H.out _).mono ?_;rintro e w' ⟨rfl,rfl⟩;go_wp2;go_ret2;exact⟨rfl,rfl⟩
theorem zLa (w:World)(g off dLen dCap sLen sCap:Nat)(ad:Addr)(cur cs:List Value)(T:TypeId)(hg:w.heap[g]?=some (.cells cur.toArray T (0,0)))(hn:cs.length=Nat.min sLen dLen)
  (hsrc:∀ j v,cs[j]?=some v->w.cell? (ad.add j)=some v) (hfit:off+cs.length<=cur.length) (h1:∀ v∈cs,v.oneCell'=true) :
  ∃ w',(Builtin.copy_ #[33,33] 3 #[.slice (some ⟨g,off,none⟩) dLen dCap,.slice (some ad) sLen sCap]).run Tryz.prog w=.ok (.int .i64 (cs.length:Nat)) w'/\w'.heap[g]?=some (.cells (splice cur off cs).toArray T (0,0))/\w.grownBy w' (some g):=by
 have hrun:=run_copy_row (P:=Tryz.prog) w 33 33 3 9 g off dLen dCap ad sLen sCap cur.toArray T cs Tryz.underlying33 (by kernel_rfl) hg hn hsrc (by simpa using hfit) h1;refine⟨_,hrun,?_,⟨rfl,rfl,rfl,by simp,fun k _ hk=>setRow_other w g k _ (fun e=>hk (by rw[e]))⟩⟩;rw[setRow_heap w g _ _ T _ hg];simp[splice]
theorem zqg (a:Value)(z:Value)(n p q:Nat)(h:p+q<=n):splice (List.replicate p a++List.replicate (n-p) z) p (List.replicate q a)=List.replicate (p+q) a++List.replicate (n-(p+q)) z:=by
 unfold splice;rw[List.take_left' (by simp),zqax,List.drop_append,List.drop_eq_nil_of_le (by simp),zqax,List.nil_append,show p+q-p=q by omega,List.drop_replicate,<- zqbj,List.replicate_append_replicate];congr 2;omega
theorem zrN (P:Program)(w:World)(dT sT ty elem:TypeId)(d a:Option Addr)(dLen dCap sLen sCap:Nat)(hu:P.underlying dT=some (.slice elem))(hs:((P.info? elem).map (·.size)).isSome=true)(hn:Nat.min sLen dLen=0) :
  (Builtin.copy_ #[dT,sT] ty #[.slice d dLen dCap,.slice a sLen sCap]).run P w=.ok (goInt 0) w:=by
 have hl:=fun a=>run_loadCells_list (P:=P) w a [] (fun j v h=>by simp at h);simp only[List.length_nil] at hl;cases hq:P.info? elem with
 | none=>simp[hq] at hs
 | some i=>cases d <;> cases a <;> simp[Builtin.copy_,run_underlying hu,Builtin.lenOf,Builtin.firstCells,sizeOf,typeInfo,hq,storeCells,hn,hl]
theorem zvr {P:Program}{ops:Array Oper}{o:Oper}{a:Act}{w:World}{K:Act->World->Prop}{Q:Exit->Act->World->Prop}{E:Prop}(hgd:o.guard=none)(d s:Operand)(dT sT:TypeId)
  (ho:o.op=.call { callee:=.builtin .copy,args:=#[d,s],argTypes:=#[dT,sT] }) (elem:TypeId) (hu:P.underlying dT=some (.slice elem)) (hsz:(P.info? elem).map (·.size)=some 1)
  (g off:Nat) (ad:Addr) (dLen dCap sLen sCap m:Nat) (hd:a.eval d=.slice (some ⟨g,off,none⟩) dLen dCap) (hs:a.eval s=.slice (some ad) sLen sCap)
  (cur:List Value) (t:TypeId) (hg:w.heap[g]?=some (.cells cur.toArray t (0,0))) (cs:List Value) (hm:Nat.min sLen dLen=m) (hn:cs.length=m)
  (hsrc:∀ j v,cs[j]?=some v->w.cell? (ad.add j)=some v)
  (hfit:off+cs.length<=cur.length) (h1:∀ v∈cs,v.oneCell'=true)
  (h:K (a.put o.dst (goInt m)) (w.setRow g (splice cur off cs).toArray)) :
  if Region.wanted o (yielded ops a.tmps)=true then Oper.wp P o a w K Q else E:=by
 have hw:Region.wanted o (yielded ops a.tmps)=true:=by simp[Region.wanted,hgd]
 rw[if_pos hw];subst hm;rw[<- hn] at h;have hrun:=run_copy_row (P:=P) w dT sT o.type elem g off dLen dCap ad sLen sCap cur.toArray t cs hu hsz hg hn hsrc (by simpa using hfit) h1;unfold Oper.wp;have e:splice cur off cs=List.take off cur.toArray.toList++cs++List.drop (off+cs.length) cur.toArray.toList:=by simp[splice]
 rw[e] at h;simp only[execOp,ho,resolve,invoke,builtin,hd,hs,Result.andThen];simp[hd,hs,hrun,Result.andThen]
 first|exact h|(simp only[Oper.upon];exact h)|(simp at h;exact h)
theorem zqh {P:Program}{ops:Array Oper}{o:Oper}{a:Act}{w:World}{K:Act->World->Prop}{Q:Exit->Act->World->Prop}{E:Prop}(hgd:o.guard=none)(d s:Operand)(dT sT:TypeId)
  (ho:o.op=.call { callee:=.builtin .copy,args:=#[d,s],argTypes:=#[dT,sT] }) (elem:TypeId) (hu:P.underlying dT=some (.slice elem)) (hsz:(P.info? elem).map (·.size)=some 1)
  (dp sp:Option Addr) (dLen dCap sLen sCap m:Nat) (hd:a.eval d=.slice dp dLen dCap) (hs:a.eval s=.slice sp sLen sCap)
  (g off:Nat) (cur:List Value) (t:TypeId) (hg:w.heap[g]?=some (.cells cur.toArray t (0,0))) (cs:List Value) (hm:Nat.min sLen dLen=m) (hn:cs.length=m)
  (hpos:0<m->dp=some ⟨g,off,none⟩/\∃ ad,sp=some ad/\∀ j v,cs[j]?=some v->w.cell? (ad.add j)=some v)
  (hfit:off+cs.length<=cur.length) (h1:∀ v∈cs,v.oneCell'=true)
  (h:∀ w',Hid (w'.heap[g]?=some (.cells (splice cur off cs).toArray t (0,0))/\w.grownBy w' (some g))->K (a.put o.dst (goInt m)) w') :
  if Region.wanted o (yielded ops a.tmps)=true then Oper.wp P o a w K Q else E:=by
 by_cases h0:m=0
 ·have hw:Region.wanted o (yielded ops a.tmps)=true:=by simp[Region.wanted,hgd]
  rw[if_pos hw];have hcs:cs=[]:=List.eq_nil_of_length_eq_zero (by rw[hn,h0])
  have hrun:=zrN P w dT sT o.type elem dp sp dLen dCap sLen sCap hu (by cases hq:P.info? elem with
   | none=>rw[hq] at hsz;simp at hsz
   | some i=>rfl) (hm.trans h0)
  have hK:=h w (zHd ⟨by rw[hcs];simpa [splice] using hg,World.grownBy.refl _ _⟩);rw[h0] at hK;unfold Oper.wp;simp[execOp,ho,resolve,invoke,builtin,hd,hs,hrun,Result.andThen];exact hK
 ·obtain⟨rfl,ad,rfl,hsrc⟩:=hpos (by omega)
  refine zvr hgd d s dT sT ho elem hu hsz g off ad dLen dCap sLen sCap m hd hs cur t hg cs hm hn hsrc hfit h1 (h _ (zHd ⟨setRow_heap w g _ _ t _ hg,⟨rfl,rfl,rfl,by simp,fun k _ hk=>setRow_other w g k _ (fun e=>hk (by rw[e]))⟩⟩))
theorem zAc (a:ByteArray)(gx n:Nat)(w:World)(hx:w.cell? ⟨gx,0,none⟩=some (.string a))(hgx:gx<w.heap.size)(hn:n<=10000) :
  Calls Tryz.prog 136 #[.slice (some ⟨gx,0,none⟩) 1 1,.int .i64 (n:Int)] w fun e w'=>e=.returned (.slice (some ⟨w.heap.size,0,none⟩) n n)/\zaB 9 (.string ⟨#[]⟩) n (List.replicate n (.string a)) w w':=by
 obtain⟨i0,hi,hz0,hz1,hz2⟩:=info_parts zgo;have hmul:=fun w=>zGK n hn w;have HM:=zHd hmul;have HN:=zHd hn;have HX:=zHd (zAI hx hgx);have n0:¬ (n:Int)<0:=by omega
 have n1:IntKind.u64.wrap (n:Int)=(n:Int):=by rw[IntKind.wrap_u64];omega
 have n2:IntKind.i64.wrap (n:Int)=(n:Int):=by rw[zqah];omega
 have n3:¬ (9223372036854775807:Int)<(n:Int):=by omega
 clear hmul hn hx hgx;go_enter Tryz.func136,Tryz.ntmps136;go_wp2_with fail;refine(HM.out _).mono ?_;rintro e w0 ⟨rfl,rfl⟩;clear HM;go_wp2_with (at_make;refine wpList_make_full _ rfl _ _ 33 rfl w0.heap.size 9 i0 (.string ⟨#[]⟩) 1 Tryz.underlying33 hi hz0 hz1 _ _ _ _ n rfl rfl ?c0 ?c1 ?c2 (by have:=HN.out;unfold maxLen;omega) (zqab _) ?_)
 case c0=>omega
 case c1=>omega
 case c2=>have:=HN.out;first|omega|(rw[hz2];omega)
 intro w1 hown hgr;have hfill:=zaB.start hown hgr;have hx1:=hgr.cell HX.out.1 (by simp);have hrow:=hfill.row;simp only[List.nil_append,List.length_nil,Nat.sub_zero] at hrow;obtain⟨q,hq⟩:∃ q,Nat.min 1 n=q:=⟨_,rfl⟩;have hq1:q<=1:=by rw[<- hq];exact Nat.min_le_left _ _
 have hq2:q<=n:=by rw[<- hq];exact Nat.min_le_right _ _
 have hq3:1<=n->q=1:=fun h=>by rw[<- hq];exact Nat.min_eq_left h
 obtain⟨w2,hrun,hrow2,hg2⟩:=zLa w1 w0.heap.size 0 n n 1 1 ⟨gx,0,none⟩ (List.replicate n (.string ⟨#[]⟩)) (List.replicate q (.string a)) 9 hrow (by rw[zqax,hq]) (fun j v hj=>by
  obtain⟨hj1,rfl⟩:=zqae.1 hj;rw[zqax] at hj1;obtain rfl:j=0:=by omega
  rw[List.getElem_replicate,zcl];exact hx1) (by rw[zqax,zqax];omega) (fun v hv=>by rw[(List.mem_replicate.1 hv).2];rfl)
 have hsp:=zqg (.string a) (.string ⟨#[]⟩) n 0 q (by omega);simp only[List.replicate_zero,List.nil_append,Nat.sub_zero,zqat] at hsp;rw[hsp] at hrow2;rw[zqax] at hrun;have hfill2:zaB 9 (.string ⟨#[]⟩) n (List.replicate q (.string a)) w0 w2:=⟨by rw[zqax];exact hrow2,zaj hgr hg2 (zqab _),by rw[zqax];exact hq2⟩;have HFL:=zHd hfill2;have HQ:=zHd (zAI hq2 hq3);clear hown hgr hfill hx1 hrow hrow2 hg2 hsp hfill2 hq hq1 hq2 hq3;go_wp2;generalize w2=wr at *
 go_loopw [8] (fun iv wr=>∃ p:Nat,iv=.int .i64 (p:Int)/\p<=n/\(1<=n->1<=p)/\zaB 9 (.string ⟨#[]⟩) n (List.replicate p (.string a)) w0 wr) (fun iv _=>n-(intOf iv).toNat)
 case atStart=>exact⟨q,rfl,HQ.out.1,fun h=>by rw[HQ.out.2 h];exact zqab _,HFL.out⟩
 case round =>
  obtain⟨p,rfl,hp,hp1,hfill⟩:=hrel
  by_cases hpn:p<n
  ·have t1:decide (p<n)=true:=by simpa using hpn
   have t1':decide ((p:Int)<(n:Int))=true:=by simpa using hpn
   have i1:(p:Int)<=(n:Int):=by omega
   have i2:¬ (n:Int)<(p:Int):=by omega
   have HFL:=zHd hfill;have HP:=zHd (zAI hpn (zAI hp hp1));clear hfill hpn hp hp1;obtain⟨c,hc⟩:∃ c,Nat.min p (n-p)=c:=⟨_,rfl⟩;have hc1:c<=p:=by rw[<- hc];exact Nat.min_le_left _ _
   have hc2:c<=n-p:=by rw[<- hc];exact Nat.min_le_right _ _
   have hc3:1<=p->1<=c:=fun h=>by
    have hp2:=HP.out.1;rw[<- hc];exact Nat.le_min.2 ⟨h,by omega⟩
   have n4:IntKind.i64.wrap ((p:Int)+(c:Int))=((p+c:Nat):Int):=by have:=HN.out;have:=HP.out.2.1;rw[zqah];omega
   have hrow:=HFL.out.row;rw[zqax] at hrow
   have hcell:∀ j v,(List.replicate c (.string a):List Value)[j]?=some v->wr.drew.cell? ((⟨w0.heap.size,0,none⟩:Addr).add j)=some v:=fun j v hj=>by
    obtain⟨hj1,rfl⟩:=zqae.1 hj;rw[zqax] at hj1;rw[List.getElem_replicate,zcl,zqat];show wr.cell? _=_;rw[zqbw wr w0.heap.size j _ _ (0,0) hrow,zqap,zqal (by rw[zqax];omega),zqbg,if_pos (by omega)]
   have hfit:p+(List.replicate c (.string a):List Value).length<=(List.replicate p (.string a)++List.replicate (n-p) (.string ⟨#[]⟩):List Value).length:=by
    have:=HP.out.1;rw[zqag,zqax,zqax,zqax];omega
   have h1c:∀ v∈(List.replicate c (.string a):List Value),v.oneCell'=true:=fun v hv=>by rw[(List.mem_replicate.1 hv).2];rfl
   have HNP:Hid (¬ n=p):=zHd (by have:=HP.out.1;omega);have HC:=zHd (zAI hc1 (zAI hc2 hc3));have HROW:=zHd (show wr.drew.heap[w0.heap.size]?=_ from hrow);clear hc1 hc2 hc3 hrow;go_wp2_with (fail)
   go_region_law ((refine zqh rfl (.tmp 41) (.tmp 44) 33 33 rfl 9 Tryz.underlying33 (by kernel_rfl) (some ⟨w0.heap.size,p,none⟩) (some ⟨w0.heap.size,0,none⟩) (n-p) (n-p) p n c (by simp[Act.eval,Act.put,HNP.out]) (by simp[Act.eval,Act.put]) w0.heap.size p (List.replicate p (.string a)++List.replicate (n-p) (.string ⟨#[]⟩)) 9 HROW.out (List.replicate c (.string a)) hc (by simp) (fun h=>⟨rfl,_,rfl,hcell⟩) hfit h1c ?_;intro w6 h6))
   all_goals
    go_wp2_with (fail)
    first
    | exact absurd HP.out.1 (Nat.lt_irrefl _)
    | (obtain⟨hc1,hc2,hc3⟩:=HC.out
       obtain⟨hpn,hp,hp1⟩:=HP.out;have hsp:=zqg (.string a) (.string ⟨#[]⟩) n p c (by omega);refine⟨⟨p+c,by simp,by omega,fun h=>by omega,?_,?_,by rw[zqax];omega⟩,by have:=hc3 (by omega);simp[intOf];omega⟩
       ·rw[zqax,<- hsp];exact h6.out.1
       ·exact zaj (zaa HFL.out.gr (zag wr none)) h6.out.2 (zqab _))
  ·have hpe:p=n:=by omega
   subst hpe;have t1:decide (p<p)=false:=by simp
   have t1':decide ((p:Int)<(p:Int))=false:=by simp
   have HFL:=zHd hfill;clear hfill hpn hp hp1;go_wp2;go_ret;exact⟨rfl,HFL.out⟩
def zyw (a:ByteArray)(n:Nat)(w:World)(e:Ending)(w':World):Prop :=
 ∃ g,e=.returned (.slice (some ⟨g,0,none⟩) n n)/\w.heap.size<=g/\w'.heap[g]?=some (.cells (List.replicate n (.string a)).toArray 9 (0,0))/\w.grownBy w' none
theorem zkv {w:World}{g n:Nat}{a:ByteArray}(h:w.heap[g]?=some (.cells (List.replicate n (.string a)).toArray 9 (0,0))):zaq w g 0 n (fun _=>.string a):=by
 refine⟨(zqad.1 h).1,fun j hj=>?_⟩;rw[zqat,zqbw w g j _ _ (0,0) h,zqap,zqbg,if_pos hj]
theorem zgI (k:Int)(n:Nat)(w:World)(hn:n<=10000):Calls Tryz.prog 83 #[zbi k,.int .i64 (n:Int)] w (zyw (zae k) n w):=by
 unfold zbi zyw;have hr:=fun(w1:World) (gx:Nat) h1 h2=>zAc (zae k) gx n w1 h1 h2 hn;have HR:=zHd hr;clear hr hn;go_enter Tryz.func83,Tryz.ntmps83;go_wp2_with fail;refine(HR.out ((w.alloc (.cells #[.int .i64 k,.string (zae k),.string (zal k)] 64)).alloc (.cells #[.string (zae k)] 9)) (w.heap.size+1) ?h1 ?h2).mono ?_
 case h1 =>
  have h:=zao (w.alloc (.cells #[.int .i64 k,.string (zae k),.string (zal k)] 64)) #[.string (zae k)] 9 (j:=0) (u:=.string (zae k)) rfl;rw[show(w.alloc (.cells #[.int .i64 k,.string (zae k),.string (zal k)] 64)).heap.size=w.heap.size+1 by simp] at h;exact h
 case h2=>simp
 rintro e w1 ⟨rfl,hf⟩;have HF:=zHd hf;clear hf;go_wp2;go_ret;have hrow:=HF.out.row;have hg:=HF.out.gr;rw[zqax,zqbr,List.replicate_zero,List.append_nil] at hrow;rw[show((w.alloc (.cells #[.int .i64 k,.string (zae k),.string (zal k)] 64)).alloc (.cells #[.string (zae k)] 9)).heap.size=w.heap.size+1+1 by simp] at hrow;exact⟨_,rfl,by omega,hrow,zaa (zaa (zGA _ _ none) (zGA _ _ none)) hg⟩
open Go.RowKit
theorem zeA (z:Value)(n:Nat):(Builtin.zeroCells #[z] n).toList=List.replicate n z:=by
 have h:∀ i:Nat,[z][i%1]?.getD default=z:=fun i=>by rw[Nat.mod_one];rfl
 simp[Builtin.zeroCells,h];rw[List.map_const',List.length_range]
theorem zDu (n:Nat)(w:World)(hn0:0<n)(hn:n<=20000) :
  Calls Tryz.prog 170 #[.slice none 0 0,.int .i64 (n:Int)] w fun e w'=>∃ v,e=.returned v/\(∃ g c,v=.slice (some ⟨g,0,none⟩) 0 c/\n<=c)/\w'.ownsRow w.heap.size 9 1 v 0 []/\w.grownBy w' none:=by
 obtain⟨i0,hi0,hz0,hzs,hzb⟩:=info_parts zgo
 have hold:(Builtin.firstCells i0.size 0 (.slice none 0 0)).run Tryz.prog w.drew=.ok ([]:List Value).toArray w.drew:=by
  rw[hzs];exact run_firstCells_none w.drew 1 0 0 0
 obtain⟨G,hG⟩:∃ G,G=grownCap w n 0 9:=⟨_,rfl⟩;have hGn:n<=G:=by rw[hG];exact grownCap_ge w _ _ _
 have hG63:G<=maxLen:=by
  rw[hG];exact grownCap_le_maxLen w n 0 9 (by unfold maxLen;omega)
 have hrz:∀ ty,(Builtin.append_ #[33,3] ty #[.slice none 0 0,.int .i64 (n:Int)]).run Tryz.prog w =
   .ok (.slice (some ⟨w.heap.size,0,none⟩) n G) (w.drew.alloc (.cells (List.replicate G (.string ⟨#[]⟩)).toArray 9)):=fun ty=>by
  have h:=Lib.run_append_grow_zeros w 33 3 ty 9 i0 _ .i64 .i64 Tryz.underlying33 Tryz.underlying3 hi0 hz0 none 0 0 [] hold n (by omega) (by omega) (by omega) (by omega) (by rw[hzb];omega) (by rw[hzb,zqat];exact growslice_fits (by omega) (by omega));rw[zqat,<- hG] at h;rw[h];congr 3;apply Array.toList_inj.1;show((#[]++Builtin.zeroCells #[Value.string ⟨#[]⟩] n++Builtin.zeroCells #[Value.string ⟨#[]⟩] (G-n)):Array Value).toList=_;rw[Array.toList_append,Array.toList_append,zeA,zeA];simp[hGn]
 have hi1:¬ (n:Int)<0:=by omega
 have hi2:(0:Int)<(n:Int):=by omega
 have hi3:¬ n=0:=by omega
 have hw1:IntKind.i64.wrap (n:Int)=(n:Int):=by rw[zqah];omega
 have hi6:(0:Int)<=(G:Int):=by omega
 have HP:=zHd (zAI hGn hG63);clear hold hG hGn hG63 hn;go_enter Tryz.func170,Tryz.ntmps170;go_wp2_with (at_builtin;refine Lib.wpList_append_run _ rfl _ _ _ _ rfl _ _ rfl rfl _ _ (hrz _) ?_);go_ret;obtain⟨hGn,hG63⟩:=HP.out;refine⟨_,rfl,⟨_,G,rfl,hGn⟩,⟨rfl,.inr ⟨w.heap.size,G,_,rfl,zqab _,zaE w.drew _,zqaw _,hG63,by simp,rfl⟩⟩,zaa (zag w none) (zGA _ _ none)⟩
def zfW (n m:Nat):Nat->Nat
 | 0=>0
 | 1=>n
 | _=>n+m
def zlh (n m:Nat)(X Y:Nat->ByteArray)(t:Nat):List Value:=(List.range (zfW n m t)).map (fun j=>.string (if j<n then X j else Y (j-n)))
def zim (n:Nat)(X:Nat->ByteArray):List Value:=(List.range n).map (fun j=>.string (X j))
theorem zvs (n:Nat)(X:Nat->ByteArray):(zim n X).length=n:=by unfold zim;simp
theorem zvt {n j:Nat}{X:Nat->ByteArray}{v:Value}(h:(zim n X)[j]?=some v):j<n/\v=.string (X j):=by
 unfold zim at h;obtain⟨h1,h2⟩:=zqae.1 h;simp at h1 h2;exact⟨h1,h2.symm⟩
theorem zvu (n:Nat)(X:Nat->ByteArray):∀ v∈zim n X,v.oneCell'=true:=fun v hv=>by
 unfold zim at hv;obtain⟨j,_,rfl⟩:=zqbf.1 hv;rfl
theorem zGL (n m:Nat)(X Y:Nat->ByteArray):zlh n m X Y 0++zim n X=zlh n m X Y 1:=by
 unfold zlh zim zfW;simp only[List.range_zero,List.map_nil,List.nil_append];apply List.map_congr_left;intro j hj;rw[if_pos (List.mem_range.1 hj)]
theorem zGM (n m:Nat)(X Y:Nat->ByteArray):zlh n m X Y 1++zim m Y=zlh n m X Y 2:=by
 unfold zlh zim zfW;simp only[List.range_add,List.map_append,List.map_map];congr 1;apply List.map_congr_left;intro j hj;show _=Value.string _;dsimp only;rw[if_neg (by omega),Nat.add_sub_cancel_left]
theorem zxn (n m gx:Nat)(ax ay:Addr)(cx cy:Nat)(X Y:Nat->ByteArray)(w:World)(hn0:0<n)(hn:n<=10000)(hm0:0<m)(hm:m<=10000)(hgx:gx<w.heap.size)
  (h0:w.cell? ⟨gx,0,none⟩=some (.slice (some ax) n cx)) (h1:w.cell? ⟨gx,1,none⟩=some (.slice (some ay) m cy))
  (hX:∀ j,j<n->w.cell? (ax.add j)=some (.string (X j))) (hY:∀ j,j<m->w.cell? (ay.add j)=some (.string (Y j))) (hbx:ax.block<w.heap.size) (hby:ay.block<w.heap.size) :
  Calls Tryz.prog 134 #[.slice (some ⟨gx,0,none⟩) 2 2] w fun e w'=>∃ v,e=.returned v/\w'.ownsRow w.heap.size 9 1 v (n+m) (zlh n m X Y 2)/\w.grownBy w' none:=by
 obtain⟨i0,hi0,hz0,hzs,hzb⟩:=info_parts zgo;have hgrow:=fun w'=>zDu (n+m) w' (by omega) (by omega);have HG:=zHd hgrow;have HX:=zHd hX;have HY:=zHd hY;have HB:=zHd (zAI hbx (zAI hby hgx));have HN:=zHd (zAI hn0 (zAI hn (zAI hm0 hm)));have H01:=zHd (zAI h0 h1);clear hgrow hX hY hbx hby hgx hn0 hn hm0 hm h0 h1;go_enter Tryz.func134,Tryz.ntmps134;go_wp2
 go_loopw [3,11] (fun sv iv wr=>∃ t:Nat,t<=2/\iv=.int .i64 (t:Int)/\sv=.int .i64 ((zfW n m t:Nat):Int)/\w=wr) (fun _ iv _=>2-(intOf iv).toNat)
 case atStart=>exact⟨0,by omega,rfl,rfl,rfl⟩
 case round =>
  obtain⟨t,ht,rfl,rfl,rfl⟩:=hrel;obtain⟨hn0,hn,hm0,hm⟩:=HN.out;rcases (show t=0∨t=1∨t=2 by omega) with rfl|rfl|rfl
  ·have c0:=H01.out.1
   have n1:IntKind.i64.wrap (n:Int)=(n:Int):=by rw[zqah];omega
   have n2:¬ (n:Int)<0:=by omega
   clear hn0 hn hm0 hm ht;simp only[zfW];go_wp2;exact⟨⟨1,by omega,by first|rfl|trivial,by first|rfl|trivial,by first|rfl|trivial⟩,by simp[intOf]⟩
  ·have c1:=H01.out.2
   have n1:IntKind.i64.wrap ((n:Int)+(m:Int))=(n:Int)+(m:Int):=by rw[zqah];omega
   have n2:¬ (n:Int)+(m:Int)<0:=by omega
   clear hn0 hn hm0 hm ht;simp only[zfW];go_wp2;exact⟨⟨2,by omega,by first|rfl|trivial,by simp[zfW],by first|rfl|trivial⟩,by simp[intOf]⟩
  ·clear hn0 hn hm0 hm ht
   simp only[zfW];go_wp2_with fail;refine(HG.out _).mono ?_;rintro e w1 ⟨v,rfl,⟨g,c,rfl,hc⟩,hown,hg⟩;have HO:=zHd hown;have HC:=zHd (zAI hc hg);clear hown hc hg;go_wp2
   go_loopw [6,27] (fun sv iv wr=>∃ t:Nat,t<=2/\iv=.int .i64 (t:Int)/\wr.ownsRow w.heap.size 9 1 sv (zfW n m t) (zlh n m X Y t)/\w.grownBy wr none) (fun _ iv _=>2-(intOf iv).toNat)
   case atStart=>exact⟨0,by omega,rfl,HO.out,HC.out.2⟩
   case round =>
    obtain⟨t,ht,rfl,hown,hg⟩:=hrel;obtain⟨hn0,hn,hm0,hm⟩:=HN.out;rcases (show t=0∨t=1∨t=2 by omega) with rfl|rfl|rfl
    ·have c0:=hg.cell H01.out.1 (by simp)
     have HOW:=zHd (zAI hown hg);have HNN:=zHd (zAI hn0 (zAI hn (zAI hm0 hm)));clear hown hg hn0 hn hm0 hm ht;go_wp2_with (at_builtin;refine wpList_append_lies _ rfl _ _ 33 rfl w.heap.size 9 i0 (.string ⟨#[]⟩) 1 16 Tryz.underlying33 hi0 hz0 hzs hzb rfl (by decide) _ _ _ rfl HOW.out.1 ax n cx (zim n X) rfl (by rw[zvs];omega) ?c1 (zvu n X) HNN.out.1 ?c3 ?c4 HOW.out.2.size _ rfl ?_)
     case c1 =>
      intro j u hu;obtain⟨hj,rfl⟩:=zvt hu;exact(zaD (ad:=ax.add j) (by rw[zau];exact HOW.out.2.block _ HB.out.1 (by simp))).trans (HX.out j hj)
     case c3=>have:=HNN.out;unfold maxLen;simp only[zfW];omega
     case c4=>have:=HNN.out;simp only[zfW];omega
     intro g5 cap5 w5 hown5 hg5 hat5 hlt5
     have hg6:w.grownBy w5 none:=by
      rcases hat5 with h|h
      ·rw[h] at hg5
       exact zaj HOW.out.2 hg5 (by have:=HOW.out.1.lt g5 h;omega)
      ·rcases HOW.out.1.2 with⟨e,_⟩|⟨g6,_,_,e,hb6,_⟩
       ·subst e;exact zaa HOW.out.2 hg5
       ·subst e;exact zaj HOW.out.2 hg5 hb6
     have HF:=zHd (zAI hown5 hg6);clear hown5 hg5 hat5 hlt5 hg6;go_wp2;refine⟨⟨1,by omega,rfl,?_,HF.out.2⟩,by simp[intOf]⟩;rw[<- zGL];simpa [zfW] using HF.out.1
    ·have c0:=hg.cell H01.out.2 (by simp)
     have HOW:=zHd (zAI hown hg);have HNN:=zHd (zAI hn0 (zAI hn (zAI hm0 hm)));clear hown hg hn0 hn hm0 hm ht;go_wp2_with (at_builtin;refine wpList_append_lies _ rfl _ _ 33 rfl w.heap.size 9 i0 (.string ⟨#[]⟩) 1 16 Tryz.underlying33 hi0 hz0 hzs hzb rfl (by decide) _ _ _ rfl HOW.out.1 ay m cy (zim m Y) rfl (by rw[zvs];omega) ?c1 (zvu m Y) HNN.out.2.2.1 ?c3 ?c4 HOW.out.2.size _ rfl ?_)
     case c1 =>
      intro j u hu;obtain⟨hj,rfl⟩:=zvt hu;exact(zaD (ad:=ay.add j) (by rw[zau];exact HOW.out.2.block _ HB.out.2.1 (by simp))).trans (HY.out j hj)
     case c3=>have:=HNN.out;unfold maxLen;simp only[zfW];omega
     case c4=>have:=HNN.out;simp only[zfW];omega
     intro g5 cap5 w5 hown5 hg5 hat5 hlt5
     have hg6:w.grownBy w5 none:=by
      rcases HOW.out.1.2 with⟨e,_⟩|⟨g6,_,_,e,hb6,_⟩
      ·subst e;exact zaa HOW.out.2 hg5
      ·subst e;exact zaj HOW.out.2 hg5 hb6
     have HF:=zHd (zAI hown5 hg6);clear hown5 hg5 hat5 hlt5 hg6;go_wp2;refine⟨⟨2,by omega,rfl,?_,HF.out.2⟩,by simp[intOf]⟩;rw[<- zGM];simpa [zfW] using HF.out.1
    ·have HOW:=zHd (zAI hown hg)
     clear hown hg hn0 hn hm0 hm ht;go_wp2;go_ret;exact⟨_,rfl,HOW.out.1,HOW.out.2⟩
theorem zAd {w:World}{B n:Nat}{v:Value}{xs:List Value}(h:w.ownsRow B 9 1 v n xs)(hn:0<n):∃ g c,v=.slice (some ⟨g,0,none⟩) n c/\n<=c/\c<=maxLen/\B<=g/\zaq w g 0 n (fun j=>xs.getD j (.string ⟨#[]⟩)):=by
 obtain⟨hl,⟨_,h0⟩|⟨g,c,cur,rfl,hb,hg,h1,h2,hs,ht⟩⟩:=h
 ·omega
 ·refine⟨g,c,rfl,h1,h2,hb,(zqad.1 hg).1,fun j hj=>?_⟩
  rw[zqat,zqbw w g j _ _ (0,0) hg,<- Array.getElem?_toList];dsimp only;rw[<- ht,zqaa,List.getElem?_take_of_lt (by omega),zqac (by simp;omega)];rfl
theorem zxo (n m:Nat)(xv yv:Value)(X Y:Nat->ByteArray)(w:World)(hn0:0<n)(hn:n<=10000)(hm0:0<m)(hm:m<=10000)(hx:zaG w xv n (fun j=>.string (X j)))(hy:zaG w yv m (fun j=>.string (Y j))) :
  Calls Tryz.prog 77 #[xv,yv] w fun e w'=>∃ g c,e=.returned (.slice (some ⟨g,0,none⟩) (n+m) c)/\n+m<=c/\c<=maxLen/\w.heap.size<=g/\zaq w' g 0 (n+m) (fun j=>.string (if j<n then X j else Y (j-n)))/\w.grownBy w' none:=by
 obtain⟨Ax,cx,rfl,hx1,hx2,hx3⟩:=hx;obtain⟨Ay,cy,rfl,hy1,hy2,hy3⟩:=hy;obtain⟨ax,rfl,hbx,_⟩:=hx3 0 hn0;obtain⟨ay,rfl,hby,_⟩:=hy3 0 hm0
 have hcall:=fun(w1:World) (hg:w.grownBy w1 none) gx hgx c0 c1=>zxn n m gx ax ay cx cy X Y w1 hn0 hn hm0 hm hgx c0 c1
  (fun j hj=>by obtain⟨_,e,_,hc⟩:=hx3 j hj;cases e;exact(zaD (ad:=ax.add j) (by rw[zau];exact hg.block _ hbx (by simp))).trans hc)
  (fun j hj=>by obtain⟨_,e,_,hc⟩:=hy3 j hj;cases e;exact(zaD (ad:=ay.add j) (by rw[zau];exact hg.block _ hby (by simp))).trans hc)
  (zqba hbx hg.size) (zqba hby hg.size)
 have HC:=zHd hcall;have HN:=zHd hn0;clear hcall hx1 hx2 hx3 hy1 hy2 hy3 hn0 hn hm0 hm;go_enter Tryz.func77,Tryz.ntmps77;go_wp2_with fail;refine(HC.out (w.alloc (.cells #[.slice (some ax) n cx,.slice (some ay) m cy] 33)) (zGA _ _ none) w.heap.size (by simp) (zao w _ _ rfl) (zao w _ _ rfl)).mono ?_;rintro e w1 ⟨v,rfl,hown,hg⟩;have HP:=zHd (zAI hown hg);clear hown hg;go_wp2;go_ret;obtain⟨hown,hg⟩:=HP.out;obtain⟨g,c,rfl,h1,h2,h3,h4⟩:=zAd hown (by have:=HN.out;omega);refine⟨g,c,rfl,h1,h2,by simp at h3;omega,⟨h4.1,fun j hj=>(h4.2 j hj).trans ?_⟩,zaa (zGA _ _ none) hg⟩;congr 1;unfold zlh;dsimp only;rw[zqaa,zqaj,zqbe (by show j<zfW n m 2;exact hj)];rfl
open Go.RowKit
theorem zmz:Enters 135:=enters_of Tryz.func135 (by kernel_rfl) rfl
theorem zqi:Enters 167:=enters_of Tryz.func167 (by kernel_rfl) rfl
theorem znZ {α:Type}(S:Sr α)(row f:Nat->α)(R:Nat->Nat->α)(t j:Nat):S.add (zbh S row f R t j) (S.mul (f t) (R t j))=zbh S row f R (t+1) j:=by
 unfold zbh;rw[S.add_assoc];rfl
theorem zjV {α:Type}(S:Sr α)(row f:Nat->α)(R:Nat->Nat->α)(j:Nat):zbh S row f R 0 j=row j:=S.add_zero _
section
variable {k:Int}
def txs (f:Nat->El k)(j:Nat):Value:=.string (tx (f j))
def zJi (hk:zad k)(n m:Nat)(row f:Nat->El k)(R:Nat->Nat->El k)(g0:Nat)(w:World)(e:Ending)(w':World):Prop :=
 zbO (zdT (srE k hk) zam n m row f R) (fun v w'=>∃ g o c,v=.slice (some ⟨g,o,none⟩) m c/\m<=c/\c<=maxLen/\(g=g0∨w.heap.size<=g)/\zaq w' g o m (txs (zbh (srE k hk) row f R n))) w e w'
structure zhZ (hk:zad k)(n m:Nat)(row f:Nat->El k)(R:Nat->Nat->El k)(g0:Nat)(w:World)(t:Nat)(rv:Value)(wr:World):Prop where
 le:t<=n
 gr:w.grownBy wr none
 rv:∃ g o c,rv=.slice (some ⟨g,o,none⟩) m c/\m<=c/\c<=maxLen/\(g=g0∨w.heap.size<=g)/\zaq wr g o m (txs (zbh (srE k hk) row f R t))
 fit:zdT (srE k hk) zam t m row f R
 now:∀ j,j<m->zam (zbh (srE k hk) row f R t j)
theorem zhZ.skip {hk:zad k}{n m:Nat}{row f:Nat->El k}{R:Nat->Nat->El k}{g0:Nat}{w:World}{t:Nat}{rv:Value}{wr:World}(h:zhZ hk n m row f R g0 w t rv wr)(ht:t<n)(hz:f t=(srE k hk).zero):zhZ hk n m row f R g0 w (t+1) rv wr:=by
 have e:∀ j,zbh (srE k hk) row f R (t+1) j=zbh (srE k hk) row f R t j:=fun j=>by rw[<- znZ,hz,(srE k hk).zero_mul,(srE k hk).add_zero]
 have e2:zbh (srE k hk) row f R (t+1)=zbh (srE k hk) row f R t:=funext e;refine⟨ht,h.gr,by rw[e2];exact h.rv,fun s hs j hj=>?_,fun j hj=>by rw[e];exact h.now j hj⟩
 by_cases hst:s<t
 ·exact h.fit s hst j hj
 ·obtain rfl:s=t:=by omega
  exact⟨by rw[hz,(srE k hk).zero_mul];exact zcw hk,by rw[e];exact h.now j hj⟩
theorem zhZ.next {hk:zad k}{n m:Nat}{row f:Nat->El k}{R:Nat->Nat->El k}{g0:Nat}{w:World}{t:Nat}{rv:Value}{wr w':World}(h:zhZ hk n m row f R g0 w t rv wr)(ht:t<n)(hm:m<=maxLen)(hp:∀ j,j<m->zam ((srE k hk).mul (f t) (R t j))/\zam (zbh (srE k hk) row f R (t+1) j))
  {H:Nat} (hH:w.heap.size<=H) (hr:zaq w' H 0 m (fun i=>.string (tx (zbh (srE k hk) row f R (t+1) i)))) (hg:wr.grownBy w' none):zhZ hk n m row f R g0 w (t+1) (.slice (some ⟨H,0,none⟩) m m) w':=by
 refine⟨ht,zaa h.gr hg,⟨H,0,m,rfl,zqab _,hm,.inr hH,hr⟩,fun s hs j hj=>?_,fun j hj=>(hp j hj).2⟩
 by_cases hst:s<t
 ·exact h.fit s hst j hj
 ·obtain rfl:s=t:=by omega
  exact hp j hj
theorem zoC (hk:zad k)(n m g0 off c0:Nat)(row f:Nat->El k)(R:Nat->Nat->El k)(fv Rv:Value)(rs:Nat->Value)(w:World)(hm:m<=10000)(hn:n<=10000)
  (hrow:zaq w g0 off m (txs row)) (hc1:m<=c0) (hc2:c0<=maxLen) (hf:zaG w fv n (txs f)) (hff:∀ j,j<n->zam (f j)) (hrf:∀ j,j<m->zam (row j))
  (hR:zaG w Rv n rs) (hRs:∀ i,i<n->zaG w (rs i) m (txs (R i))) (hRf:∀ i,i<n->∀ j,j<m->zam (R i j)) :
  Calls Tryz.prog 82 #[zbi k,.slice (some ⟨g0,off,none⟩) m c0,fv,Rv] w (zJi hk n m row f R g0 w):=by
 have hmf := @zMF Tryz.prog;obtain⟨Af,cf,rfl,hf1,hf2,hf3⟩:=hf;obtain⟨AR,cR,rfl,hR1,hR2,hR3⟩:=hR
 have hcomb:=fun(t:Nat) (ht:t<n) (g o c:Nat) (w1:World) (hw:w.grownBy w1 none) (h1:m<=c) (h2:c<=maxLen) (hrw:zaq w1 g o m (txs (zbh (srE k hk) row f R t))) (hfit:∀ j,j<m->zam (zbh (srE k hk) row f R t j)) =>
  zlI 135 zmz #[zoA k (tx (f t))] #[] m m (txs (zbh (srE k hk) row f R t)) (txs (R t)) (fun j=>zam ((srE k hk).mul (f t) (R t j))/\zam (zbh (srE k hk) row f R (t+1) j)) (fun j=>tx (zbh (srE k hk) row f R (t+1) j))
   (.slice (some ⟨g,o,none⟩) m c) (rs t) w1 hm (hrw.row h1 h2) ((hRs t ht).grown hw) (zqab m) (fun i hi w' _=>by
    have h:=zqf hk (hff t ht) (hRf t ht i hi) (hfit i hi) w';rw[znZ] at h;exact h)
 have HC:=zHd hcomb;have HF:=zHd hf3;have HR:=zHd hR3;have HFF:=zHd hff;have HN:=zHd hn
 have h0:zhZ hk n m row f R g0 w 0 (.slice (some ⟨g0,off,none⟩) m c0) w:=⟨zqaw _,zaf _ _,⟨g0,off,c0,rfl,hc1,hc2,.inl rfl,by
  have e:zbh (srE k hk) row f R 0=row:=funext fun j=>zjV _ _ _ _ _;rw[e];exact hrow⟩,fun t ht=>absurd ht (by omega),fun j hj=>by rw[zjV];exact hrf j hj⟩
 have H0:=zHd h0;clear hcomb hf1 hf2 hf3 hR1 hR2 hR3 hff hrf hRs hRf hrow hc1 hc2 hm hn h0;unfold zbi;go_enter Tryz.func82,Tryz.ntmps82;go_wp2;have x0:=zao w #[.int .i64 k,.string (zae k),.string (zal k)] 64 (j:=0) rfl;have x1:=zao w #[.int .i64 k,.string (zae k),.string (zal k)] 64 (j:=1) rfl;have x2:=zao w #[.int .i64 k,.string (zae k),.string (zal k)] 64 (j:=2) rfl;have hW:w.grownBy (w.alloc (.cells #[.int .i64 k,.string (zae k),.string (zal k)] 64)) none:=zGA _ _ none;have hbs:w.heap.size<(w.alloc (.cells #[.int .i64 k,.string (zae k),.string (zal k)] 64)).heap.size:=by simp
 generalize w.alloc (.cells #[.int .i64 k,.string (zae k),.string (zal k)] 64)=W at *;have HX:=zHd (zAI x0 (zAI x1 (zAI x2 (zAI hW hbs))));clear x0 x1 x2 hW hbs
 go_loopw [1,13] (fun rv iv wr=>∃ t:Nat,iv=.int .i64 (t:Int)/\zhZ hk n m row f R g0 w t rv wr/\W.grownBy wr none) (fun _ iv _=>n-(intOf iv).toNat)
 case atStart=>exact⟨0,rfl,⟨H0.out.le,HX.out.2.2.2.1,by
  obtain⟨g,o,c,h1,h2,h3,h4,h5⟩:=H0.out.rv;exact⟨g,o,c,h1,h2,h3,h4,h5.grown HX.out.2.2.2.1⟩,H0.out.fit,H0.out.now⟩,zaf _ _⟩
 case round =>
  obtain⟨t,rfl,hinv,hWr⟩:=hrel
  by_cases ht:t<n
  ·obtain⟨adf,rfl,hbf,hcf⟩:=HF.out t ht
   obtain⟨adR,rfl,hbR,hcR⟩:=HR.out t ht;have cf1:wr.cell? (adf.add t)=some (.string (tx (f t))):=(zaD (ad:=adf.add t) (by rw[zau];exact hinv.gr.block adf.block hbf (by simp))).trans hcf;have cR1:wr.cell? (adR.add t)=some (rs t):=(zaD (ad:=adR.add t) (by rw[zau];exact hinv.gr.block adR.block hbR (by simp))).trans hcR;obtain⟨x0,x1,x2,hW,hbs⟩:=HX.out;have y0:=hWr.cell x0 (by simp);have y1:=hWr.cell x1 (by simp);have y2:=hWr.cell x2 (by simp);obtain⟨g,o,c,rfl,hmc,hcm,hgg,hrw⟩:=hinv.rv;have t1:decide (t<n)=true:=by simpa using ht
   have t1':decide ((t:Int)<(n:Int))=true:=by simpa using ht
   have hit:(t:Int)<(n:Int):=by omega
   have n1:IntKind.i64.wrap ((t:Int)+1)=(t:Int)+1:=by have:=HN.out;rw[zqah];omega
   have HI:=zHd hinv;have HRW:=zHd (zAI hmc (zAI hcm hrw));have HT:=zHd (zAI ht hWr);clear hinv hmc hcm hgg hrw ht hWr hbf hcf hbR hcR x0 x1 x2 hW hbs;rcases zcI (tx (f t)) (zae k) with⟨f1,e1⟩|⟨f1,e1⟩
   ·have f2:((tx (f t)).toList != (zae k).toList)=false:=by simp[bne,f1]
    have hz:=zec hk (HFF.out t HT.out.1) e1;have HZ:=zHd hz;clear hz e1;go_wp2;exact⟨⟨t+1,by simp,HI.out.skip HT.out.1 HZ.out,HT.out.2⟩,by have:=HT.out.1;simp[intOf];omega⟩
   ·have f2:((tx (f t)).toList != (zae k).toList)=true:=by simp[bne,f1]
    clear e1;go_upto_region 5 with(fail);have hcall:=HC.out t HT.out.1 g o c wr.drew (zaa HI.out.gr (zag wr none)) HRW.out.1 HRW.out.2.1 (HRW.out.2.2.grown (zag wr none)) HI.out.now;unfold zoA at hcall;have cRd:wr.drew.cell? (adR.add t)=some (rs t):=cR1;have yd0:wr.drew.cell? ⟨w.heap.size,0,none⟩=some (.int .i64 k):=y0;have yd1:wr.drew.cell? ⟨w.heap.size,1,none⟩=some (.string (zae k)):=y1;have yd2:wr.drew.cell? ⟨w.heap.size,2,none⟩=some (.string (zal k)):=y2;have hHs:w.heap.size<=wr.drew.heap.size:=HI.out.gr.size;have hgd:w.grownBy wr.drew none:=zaa HI.out.gr (zag wr none);have hWd:W.grownBy wr.drew none:=zaa HT.out.2 (zag wr none);have hgdd:wr.grownBy wr.drew none:=zag wr none;have HCALL:=zHd hcall;have HD:=zHd (zAI hHs (zAI hgd (zAI hWd hgdd)));clear hcall hHs hgd hWd hgdd
    go_region_with (go_at_call 86;refine HCALL.out.mono ?_;rintro e w6 (⟨hp,v,rfl,⟨rfl,hr6⟩,hg6⟩|⟨hn,rfl,hg6⟩);rotate_left 1;(go_wp2;exact⟨rfl,.inr ⟨fun h=>hn (fun i hi=>h t HT.out.1 i hi),rfl,zaa HD.out.2.1 hg6⟩⟩);have HP6:=zHd (zAI hp (zAI hr6 hg6));clear hp hr6 hg6)
    all_goals
     go_wp2;obtain⟨hp,hr6,hg6⟩:=HP6.out;exact⟨⟨t+1,by simp,HI.out.next HT.out.1 (zqam HRW.out.1 HRW.out.2.1) hp HD.out.1 hr6 (zaa HD.out.2.2.2 hg6),zaa HD.out.2.2.1 hg6⟩,by have:=HT.out.1;simp[intOf];omega⟩
  ·have hte:t=n:=by have:=hinv.le;omega
   subst hte;have t1:decide (t<t)=false:=by simp
   have t1':decide ((t:Int)<(t:Int))=false:=by simp
   obtain⟨g,o,c,rfl,hmc,hcm,hgg,hrw⟩:=hinv.rv;have HI:=zHd hinv;have HRW:=zHd (zAI hmc (zAI hcm (zAI hgg hrw)));clear hinv hmc hcm hgg hrw ht;go_wp2;go_ret;obtain⟨hmc,hcm,hgg,hrw⟩:=HRW.out;exact .inl ⟨HI.out.fit,_,rfl,⟨g,o,c,rfl,hmc,hcm,hgg,hrw⟩,HI.out.gr⟩
end
open Go.RowKit
section
variable {k:Int}
def zjW (k:Int)(g o n c:Nat):Value:=.agg #[.int .i64 k,.string (zae k),.string (zal k),.slice (some ⟨g,o,none⟩) n c]
def putF (hk:zad k)(A F:Nat->El k)(j:Nat):El k:=zbh (srE k hk) (fun j=>A (j+1)) (fun _=>A 0) (fun _=>F) 1 j
def zJj (hk:zad k)(m:Nat)(A F:Nat->El k):Prop:=zdT (srE k hk) zam 1 m (fun j=>A (j+1)) (fun _=>A 0) (fun _=>F)
theorem zaq.tail {w:World}{g o n:Nat}{L:Nat->Value}(h:zaq w g o (n+1) L):zaq w g (o+1) n (fun j=>L (j+1)) :=
 ⟨h.1,fun j hj=>by rw[Nat.add_assoc,Nat.add_comm 1 j];exact h.2 (j+1) (by omega)⟩
theorem zaq.head {w:World}{g o n m:Nat}{L:Nat->Value}(h:zaq w g o n L)(hm:m<=n):zaq w g o m L:=⟨h.1,fun j hj=>h.2 j (by omega)⟩
theorem zrO (w:World)(u:Value)(T:TypeId):zaq (w.alloc (.cells #[u] T)) w.heap.size 0 1 (fun _=>u):=by
 refine⟨by simp,fun j hj=>?_⟩;obtain rfl:j=0:=by omega
 exact zao w #[u] T rfl
theorem zxp (hk:zad k)(m g0 off c0 gs os cs:Nat)(A F:Nat->El k)(w:World)(hm0:1<=m)(hm:m<=10000)(hA:zaq w g0 off (m+1) (txs A))(hc1:m+1<=c0)(hc2:c0<=maxLen)
  (hF:zaq w gs os m (txs F)) (hs1:m<=cs) (hs2:cs<=maxLen) (hAf:∀ j,j<m+1->zam (A j)) (hFf:∀ j,j<m->zam (F j)) :
  Calls Tryz.prog 132 #[zjW k gs os m cs,.slice (some ⟨g0,off,none⟩) (m+1) c0] w (zbO (zJj hk m A F) (fun v w'=>∃ g o c,v=.slice (some ⟨g,o,none⟩) m c/\m<=c/\c<=maxLen/\(g=g0∨w.heap.size<=g)/\zaq w' g o m (txs (putF hk A F))) w):=by
 have hW:w.grownBy (w.alloc (.cells #[.int .i64 k,.string (zae k),.string (zal k),.slice (some ⟨gs,os,none⟩) m cs] 124)) none:=zGA _ _ none;have x0:=zao w #[.int .i64 k,.string (zae k),.string (zal k),.slice (some ⟨gs,os,none⟩) m cs] 124 (j:=0) rfl;have x1:=zao w #[.int .i64 k,.string (zae k),.string (zal k),.slice (some ⟨gs,os,none⟩) m cs] 124 (j:=1) rfl;have x2:=zao w #[.int .i64 k,.string (zae k),.string (zal k),.slice (some ⟨gs,os,none⟩) m cs] 124 (j:=2) rfl;have x3:=zao w #[.int .i64 k,.string (zae k),.string (zal k),.slice (some ⟨gs,os,none⟩) m cs] 124 (j:=3) rfl
 have hsum:=fun(Z:World) (hZ:w.grownBy Z none) (gz:Nat) (hz:zaq Z gz 0 1 (fun _=>.slice (some ⟨gs,os,none⟩) m cs)) =>
  zoC hk 1 m g0 (off+1) (c0-1) (fun j=>A (j+1)) (fun _=>A 0) (fun _=>F) (.slice (some ⟨g0,off,none⟩) 1 c0) (.slice (some ⟨gz,0,none⟩) 1 1) (fun _=>.slice (some ⟨gs,os,none⟩) m cs) Z hm (by omega)
   ((hA.grown hZ).tail) (by omega) (by omega) (((hA.grown hZ).head (m:=1) (by omega)).row (by omega) hc2 |> fun h=>by
     obtain⟨Ad,cap,e,h1,h2,h3⟩:=h;refine⟨Ad,cap,e,h1,h2,fun j hj=>?_⟩;obtain rfl:j=0:=by omega
     exact h3 0 hj) (fun j hj=>hAf 0 (by omega)) (fun j hj=>hAf (j+1) (by omega)) (hz.row (zqab _) (by unfold maxLen;omega)) (fun i hi=>(hF.grown hZ).row hs1 hs2) (fun i hi j hj=>hFf j hj)
 have HS:=zHd hsum;have HX:=zHd (zAI x0 (zAI x1 (zAI x2 (zAI x3 hW))));have i1:¬ (c0:Int)<1:=by omega
 have i2:(1:Int)<=(m:Int)+1:=by omega
 have i3:¬ c0=1:=by omega
 have i5:(1:Int)<=(c0:Int):=by omega
 have i6:1<=c0:=by omega
 have i7:(1:Int)<=((m+1:Nat):Int):=by omega
 have i8:((m+1:Nat):Int)<=(c0:Int):=by omega
 clear hsum x0 x1 x2 x3 hA hF hAf hFf hs1 hs2;unfold zjW zbi at *;go_enter Tryz.func132,Tryz.ntmps132;go_upto_region 1 with(fail);obtain⟨x0,x1,x2,x3,hW⟩:=HX.out;have hbs:w.heap.size<(w.alloc (.cells #[.int .i64 k,.string (zae k),.string (zal k),.slice (some ⟨gs,os,none⟩) m cs] 124)).heap.size:=by simp
 generalize w.alloc (.cells #[.int .i64 k,.string (zae k),.string (zal k),.slice (some ⟨gs,os,none⟩) m cs] 124)=W at *;have d0:W.drew.cell? ⟨w.heap.size,0,none⟩=some (.int .i64 k):=x0;have d1:W.drew.cell? ⟨w.heap.size,1,none⟩=some (.string (zae k)):=x1;have d2:W.drew.cell? ⟨w.heap.size,2,none⟩=some (.string (zal k)):=x2;have d3:W.drew.cell? ⟨w.heap.size,3,none⟩=some (.slice (some ⟨gs,os,none⟩) m cs):=x3;have hgz:w.grownBy ((W.alloc (.cells #[.slice (some ⟨gs,os,none⟩) m cs] 33)).drew) none:=zaa (zaa hW (zGA _ _ none)) (zag _ none);have hcall:=HS.out ((W.alloc (.cells #[.slice (some ⟨gs,os,none⟩) m cs] 33)).drew) hgz W.heap.size ((zrO W (.slice (some ⟨gs,os,none⟩) m cs) 33).grown (zag _ none));have hga:W.grownBy ((W.alloc (.cells #[.slice (some ⟨gs,os,none⟩) m cs] 33)).drew) none:=zaa (zGA _ _ none) (zag _ none);have z0:=hga.cell x0 (by simp);have z1:=hga.cell x1 (by simp);have z2:=hga.cell x2 (by simp);have z3:=hga.cell x3 (by simp);have HC:=zHd hcall;have HG:=zHd hgz;clear x0 x1 x2 x3 hW hcall hgz hga HS HX
 go_region_with (go_at_call 82;refine HC.out.mono ?_;rintro e w6 (⟨hp,v,rfl,⟨g,o,c,rfl,hc3,hc4,hgg,hrw⟩,hg6⟩|⟨hn,rfl,hg6⟩);rotate_left 1;(exact⟨rfl,.inr ⟨hn,rfl,zaa HG.out hg6⟩⟩);have HP6:=zHd (zAI hp (zAI hc3 (zAI hc4 (zAI hgg (zAI hrw hg6)))));clear hp hc3 hc4 hgg hrw hg6)
 all_goals
  go_wp2;go_ret;obtain⟨hp,hc3,hc4,hgg,hrw,hg6⟩:=HP6.out;refine .inl ⟨hp,_,rfl,⟨g,o,c,rfl,hc3,hc4,?_,hrw⟩,zaa HG.out hg6⟩;rcases hgg with h|h
  ·exact .inl h
  ·exact .inr (zqam HG.out.size h)
end
open Go.RowKit
section
variable {k:Int}
def zcr (hk:zad k)(f:Nat->El k)(κ:Nat->Nat)(t d:Nat):El k:=sm (srE k hk) t (fun j=>if κ j=d then f j else (srE k hk).zero)
theorem zyx (hk:zad k)(f:Nat->El k)(κ:Nat->Nat)(t:Nat):zcr hk f κ (t+1) (κ t)=(srE k hk).add (zcr hk f κ t (κ t)) (f t):=by
 show(srE k hk).add (zcr hk f κ t (κ t)) (if κ t=κ t then f t else (srE k hk).zero)=_;rw[if_pos rfl]
theorem zoD (hk:zad k)(f:Nat->El k)(κ:Nat->Nat)(t d:Nat)(h:d≠κ t):zcr hk f κ (t+1) d=zcr hk f κ t d:=by
 show(srE k hk).add (zcr hk f κ t d) (if κ t=d then f t else (srE k hk).zero)=_;rw[if_neg (Ne.symm h),(srE k hk).add_zero]
def zin (hk:zad k)(f:Nat->El k)(κ:Nat->Nat)(K t:Nat):List Value:=(List.range K).map (fun d=>.string (tx (zcr hk f κ t d)))
theorem zfv (hk:zad k)(f:Nat->El k)(κ:Nat->Nat){K d:Nat}(t:Nat)(h:d<K):(zin hk f κ K t)[d]?=some (.string (tx (zcr hk f κ t d))):=by
 unfold zin;rw[zqaj,zqbe h];rfl
theorem zsL (hk:zad k)(f:Nat->El k)(κ:Nat->Nat)(K:Nat):zin hk f κ K 0=List.replicate K (.string (zae k)):=by
 unfold zin;apply List.ext_getElem?;intro d;rw[zqaj,zqbg]
 by_cases h:d<K
 ·rw[zqbe h,if_pos h,<- zdG hk];rfl
 ·rw[if_neg h,zqas (by simpa using h)];rfl
theorem zGN (hk:zad k)(f:Nat->El k)(κ:Nat->Nat)(K t:Nat)(h:κ t<K):(zin hk f κ K t).set (κ t) (.string (tx (zcr hk f κ (t+1) (κ t))))=zin hk f κ K (t+1):=by
 apply List.ext_getElem?;intro d;rw[List.getElem?_set]
 by_cases hd:d<K
 ·rw[zfv hk f κ (t+1) hd]
  by_cases e:κ t=d
  ·subst e
   rw[if_pos rfl,if_pos (by unfold zin;simpa using hd)]
  ·rw[if_neg e,zfv hk f κ t hd,zoD hk f κ t d (Ne.symm e)]
 ·rw[zqas (l:=zin hk f κ K (t+1)) (by unfold zin;simpa using hd)]
  rw[if_neg (by omega),zqas (by unfold zin;simpa using hd)]
structure zje (hk:zad k)(f:Nat->El k)(κ:Nat->Nat)(n K g:Nat)(w:World)(t:Nat)(wr:World):Prop where
 le:t<=n
 gr:w.grownBy wr none
 hg:w.heap.size<=g
 row:wr.heap[g]?=some (.cells (zin hk f κ K t).toArray 9 (0,0))
 fit:∀ s,s<t->zam (zcr hk f κ (s+1) (κ s))
 now:∀ d,zam (zcr hk f κ t d)
theorem zje.next {hk:zad k}{f:Nat->El k}{κ:Nat->Nat}{n K g:Nat}{w wr w5:World}{t:Nat}(h:zje hk f κ n K g w t wr)(ht:t<n)(hκ:κ t<K)(hg:wr.grownBy w5 none)(hr:w5.heap[g]?=some (.cells (zin hk f κ K t).toArray 9 (0,0)))
  (hp:zam (zcr hk f κ (t+1) (κ t))):zje hk f κ n K g w (t+1) (w5.setCell ⟨g,κ t,none⟩ (.string (tx (zcr hk f κ (t+1) (κ t))))):=by
 refine⟨ht,zaj (zaa h.gr hg) (zac _ _ _) h.hg,h.hg,?_,fun s hs=>?_,fun d=>?_⟩
 ·rw[heap_setCell_same w5 g (κ t) _ _ _ hr]
  congr 2;rw[List.setIfInBounds_toArray,zGN hk f κ K t hκ]
 ·by_cases e:s<t
  ·exact h.fit s e
  ·obtain rfl:s=t:=by omega
   exact hp
 ·by_cases e:d=κ t
  ·subst e;exact hp
  ·rw[zoD hk f κ t d e];exact h.now d
theorem zaZ {w:World}{b g o j:Nat}{u v:Value}(hb:b≠g)(h:w.cell? ⟨b,j,none⟩=some v):(w.setCell ⟨g,o,none⟩ u).cell? ⟨b,j,none⟩=some v:=((zac w ⟨g,o,none⟩ u).cell h (by simpa using hb))
theorem zAe (hk:zad k)(f:Nat->El k)(κ:Nat->Nat)(n K:Nat)(fv cv:Value)(w:World)(hn:n<=10000)(hK:K<=10000)(hκ:∀ j,j<n->κ j<K)(hf:zaG w fv n (fun j=>Value.string (tx (f j))))(hff:∀ j,j<n->zam (f j))
  (hc:zaG w cv n (fun j=>.int .i64 ((κ j:Nat):Int))) :
  Calls Tryz.prog 80 #[zbi k,fv,cv,.int .i64 (K:Int)] w (zbO (∀ s,s<n->zam (zcr hk f κ (s+1) (κ s))) (fun v w'=>∃ g,v=.slice (some ⟨g,0,none⟩) K K/\w.heap.size<=g/\zaq w' g 0 K (fun d=>.string (tx (zcr hk f κ n d)))) w):=by
 obtain⟨Af,cf,rfl,hf1,hf2,hf3⟩:=hf;obtain⟨Ac,cc,rfl,hc1,hc2,hc3⟩:=hc;have hz:=fun w'=>zgI k K w' hK;have HZ:=zHd hz;have HF:=zHd hf3;have HC:=zHd hc3;have HFF:=zHd hff;have HN:=zHd (zAI hn (zAI hK hκ));clear hz hf1 hf2 hf3 hc1 hc2 hc3 hff hn hK hκ;unfold zbi at *;go_enter Tryz.func80,Tryz.ntmps80;go_wp2_with fail;refine(HZ.out _).mono ?_;rintro e w1 ⟨g,rfl,hgW,hrow,hg1⟩;have x0:=hg1.cell (zao w #[.int .i64 k,.string (zae k),.string (zal k)] 64 (j:=0) rfl) (by simp);have x1:=hg1.cell (zao w #[.int .i64 k,.string (zae k),.string (zal k)] 64 (j:=1) rfl) (by simp);have x2:=hg1.cell (zao w #[.int .i64 k,.string (zae k),.string (zal k)] 64 (j:=2) rfl) (by simp);have hW:w.grownBy w1 none:=zaa (zGA _ _ none) hg1;have hgb:w.heap.size+1<=g:=by simpa using hgW
 have hinv:zje hk f κ n K g w 0 w1:=⟨zqaw _,hW,by omega,by rw[zsL];exact hrow,fun s hs=>absurd hs (by omega),fun d=>zcw hk⟩;have HI:=zHd hinv;have HX:=zHd (zAI x0 (zAI x1 (zAI x2 hgb)));clear hgW hrow hg1 x0 x1 x2 hW hinv hgb;go_wp2
 go_loopw [17] (fun iv wr=>∃ t:Nat,iv=.int .i64 (t:Int)/\zje hk f κ n K g w t wr/\wr.cell? ⟨w.heap.size,0,none⟩=some (.int .i64 k)/\wr.cell? ⟨w.heap.size,1,none⟩=some (.string (zae k))/\wr.cell? ⟨w.heap.size,2,none⟩=some (.string (zal k))) (fun iv _=>n-(intOf iv).toNat)
 case atStart=>exact⟨0,rfl,HI.out,HX.out.1,HX.out.2.1,HX.out.2.2.1⟩
 case round =>
  obtain⟨t,rfl,hinv,y0,y1,y2⟩:=hrel
  by_cases ht:t<n
  ·obtain⟨adf,rfl,hbf,hcf⟩:=HF.out t ht
   obtain⟨adc,rfl,hbc,hcc⟩:=HC.out t ht;have cf1:wr.drew.cell? (adf.add t)=some (.string (tx (f t))):=(zaD (w:=w) (w':=wr) (ad:=adf.add t) (by rw[zau];exact hinv.gr.block adf.block hbf (by simp))).trans hcf;have cc1:wr.cell? (adc.add t)=some (.int .i64 ((κ t:Nat):Int)):=(zaD (ad:=adc.add t) (by rw[zau];exact hinv.gr.block adc.block hbc (by simp))).trans hcc;have hκt:=HN.out.2.2 t ht
   have r1:wr.drew.cell? ⟨g,κ t,none⟩=some (.string (tx (zcr hk f κ t (κ t)))):=by
    show wr.cell? _=_;rw[zqbw wr g (κ t) _ _ (0,0) hinv.row,zqap,zfv hk f κ t hκt]
   have hcall:=fun w'=>zjH hk (hinv.now (κ t)) (HFF.out t ht) w';rw[<- zyx] at hcall;have t1:decide (t<n)=true:=by simpa using ht
   have t1':decide ((t:Int)<(n:Int))=true:=by simpa using ht
   have hit:(t:Int)<(n:Int):=by omega
   have i1:((κ t:Nat):Int)<(K:Int):=by omega
   have i2:(0:Int)<=((κ t:Nat):Int):=by omega
   have n1:IntKind.i64.wrap ((t:Int)+1)=(t:Int)+1:=by have:=HN.out.1;rw[zqah];omega
   have hne1:¬ w.heap.size=g:=by have:=HX.out.2.2.2;omega
   have hne2:¬ g=w.heap.size:=by have:=HX.out.2.2.2;omega
   have HI2:=zHd hinv;have HCALL:=zHd hcall;have HT:=zHd (zAI ht hκt);clear hinv hcall ht hκt hbf hcf hbc hcc;unfold zbi at HCALL;go_upto_region 5 with(fail);have d0:wr.drew.cell? ⟨w.heap.size,0,none⟩=some (.int .i64 k):=y0;have d1:wr.drew.cell? ⟨w.heap.size,1,none⟩=some (.string (zae k)):=y1;have d2:wr.drew.cell? ⟨w.heap.size,2,none⟩=some (.string (zal k)):=y2;clear y0 y1 y2
   go_region_with (go_at_call 87;refine(HCALL.out _).mono ?_;rintro e w5 (⟨hp,rfl,hg5⟩|⟨hn,rfl,hg5⟩);rotate_left 1;(go_wp2;exact⟨rfl,.inr ⟨fun h=>hn (h t HT.out.1),rfl,zaa (zaa HI2.out.gr (zag wr none)) hg5⟩⟩);have s0:=hg5.cell d0 (by simp);have s1:=hg5.cell d1 (by simp);have s2:=hg5.cell d2 (by simp);have hr5:=(hg5.block g (zqad.1 HI2.out.row).1 (by simp)).trans (show wr.drew.heap[g]?=_ from HI2.out.row);have z0:=zqbx w5 g (κ t) _ _ hr5;have q0:=zqbw w5 g (κ t) _ _ (0,0) hr5;rw[zqap,zfv hk f κ t HT.out.2] at q0;have H5:=zHd (zAI hp (zAI hg5 hr5));clear hp hg5 hr5)
   all_goals
    go_wp2;obtain⟨hp,hg5,hr5⟩:=H5.out;exact⟨⟨t+1,by simp,HI2.out.next HT.out.1 HT.out.2 (zaa (zag wr none) hg5) hr5 hp,zaZ hne1 s0,zaZ hne1 s1,zaZ hne1 s2⟩,by have:=HT.out.1;simp[intOf];omega⟩
  ·have hte:t=n:=by have:=hinv.le;omega
   subst hte;have t1:decide (t<t)=false:=by simp
   have t1':decide ((t:Int)<(t:Int))=false:=by simp
   have HI2:=zHd hinv;clear hinv ht;go_wp2;go_ret;refine .inl ⟨HI2.out.fit,_,rfl,⟨g,rfl,HI2.out.hg,(zqad.1 HI2.out.row).1,fun d hd=>?_⟩,HI2.out.gr⟩;rw[zqat,zqbw wr g d _ _ (0,0) HI2.out.row,zqap,zfv hk f κ t hd]
end
open Go.RowKit
section
variable {k:Int}
theorem zDv (k:Int)(w:World):Calls Tryz.prog 73 #[.int .i64 k] w (zab (zbi k) w):=by
 have hz:=fun w'=>zDm k w';have ho:=fun w'=>zoz k w';have hs0:∀ w1:World,(w.alloc (.cells #[.int .i64 0,.string ⟨#[]⟩,.string ⟨#[]⟩] 62)).grownBy w1 none->w1.heap[w.heap.size]?=some (.cells #[.int .i64 0,.string ⟨#[]⟩,.string ⟨#[]⟩] 62 (0,0)):=fun w1 h=>(h.block w.heap.size (by simp) (by simp)).trans (zaE w _);have HZ:=zHd hz;have HO:=zHd ho;have HS:=zHd hs0;clear hz ho hs0;unfold zbi;go_enter Tryz.func73,Tryz.ntmps73;go_wp2_with fail;refine(HZ.out _).mono ?_;rintro e w1 ⟨rfl,hg1⟩;go_wp2_with fail;refine(HO.out _).mono ?_;rintro e w2 ⟨rfl,hg2⟩;have hgA:=zaa hg1 hg2;have hb:=HS.out w2 hgA;have q0:=zqbw w2 _ 0 _ _ (0,0) hb;have q1:=zqbw w2 _ 1 _ _ (0,0) hb;have q2:=zqbw w2 _ 2 _ _ (0,0) hb;have z0:=zqbx w2 w.heap.size 0 _ _ hb;have z1:=zqbx w2 w.heap.size 1 _ _ hb;have z2:=zqbx w2 w.heap.size 2 _ _ hb;have HG:=zHd (zaa (zGA w _ none) hgA);clear hg1 hg2 hgA hb;go_wp2;refine zqby (v:=.agg #[.int .i64 k,.string (zae k),.string (zal k)]) ?_ rfl ⟨rfl,?_⟩
 ·simp[results,Tryz.results73,go_sem,q0,q1,q2]
 ·exact zaj (zaj (zaj HG.out (zac _ _ _) (zqab _)) (zac _ _ _) (zqab _)) (zac _ _ _) (zqab _)
theorem znA (k:Int)(w:World):Calls Tryz.prog 42 #[.int .i64 k] w (zab (zbi k) w):=by
 have hz:=fun w'=>zDv k w';have hs0:∀ w1:World,(w.alloc (.cells #[.int .i64 0,.string ⟨#[]⟩,.string ⟨#[]⟩] 64)).grownBy w1 none->w1.heap[w.heap.size]?=some (.cells #[.int .i64 0,.string ⟨#[]⟩,.string ⟨#[]⟩] 64 (0,0)):=fun w1 h=>(h.block w.heap.size (by simp) (by simp)).trans (zaE w _);have HZ:=zHd hz;have HS:=zHd hs0;clear hz hs0;unfold zbi at *;go_enter Tryz.func42,Tryz.ntmps42;go_wp2_with fail;refine(HZ.out _).mono ?_;rintro e w2 ⟨rfl,hgA⟩;have hb:=HS.out w2 hgA;have q0:=zqbw w2 _ 0 _ _ (0,0) hb;have q1:=zqbw w2 _ 1 _ _ (0,0) hb;have q2:=zqbw w2 _ 2 _ _ (0,0) hb;have z0:=zqbx w2 w.heap.size 0 _ _ hb;have z1:=zqbx w2 w.heap.size 1 _ _ hb;have z2:=zqbx w2 w.heap.size 2 _ _ hb;have HG:=zHd (zaa (zGA w _ none) hgA);clear hgA hb;go_wp2;refine zqby (v:=.agg #[.int .i64 k,.string (zae k),.string (zal k)]) ?_ rfl ⟨rfl,?_⟩
 ·simp[results,Tryz.results42,go_sem,q0,q1,q2]
 ·exact zaj (zaj (zaj HG.out (zac _ _ _) (zqab _)) (zac _ _ _) (zqab _)) (zac _ _ _) (zqab _)
def zcR (w:World)(g:Nat)(k:Int):Prop:=w.cell? ⟨g,0,none⟩=some (.int .i64 k)/\w.cell? ⟨g,1,none⟩=some (.string (zae k))/\w.cell? ⟨g,2,none⟩=some (.string (zal k))
theorem zcR.grown {w w':World}{g:Nat}(h:zcR w g k)(hg:w.grownBy w' none):zcR w' g k:=⟨hg.cell h.1 (by simp),hg.cell h.2.1 (by simp),hg.cell h.2.2 (by simp)⟩
theorem zAf (hk:zad k)(f:Nat->El k)(κ:Nat->Nat)(n K g1 g2 g3:Nat)(Ac Ar:Option Addr)(cc cr:Nat)(fv:Value)(w:World)(hn:n<=10000)(hK:K<=10000)(hκ:∀ j,j<n->κ j<K)(hf:zaG w fv n (fun j=>Value.string (tx (f j))))(hff:∀ j,j<n->zam (f j))
  (hcal:zcR w g1 k) (hcv:w.cell? ⟨g2,0,none⟩=some (.slice Ac n cc)) (hrv:w.cell? ⟨g3,0,none⟩=some (.slice Ar K cr)) (hc:zaG w (.slice Ac n cc) n (fun j=>.int .i64 ((κ j:Nat):Int))) :
  Calls Tryz.prog 79 #[fv,.pointer (some ⟨g1,0,none⟩),.pointer (some ⟨g2,0,none⟩),.pointer (some ⟨g3,0,none⟩)] w (zbO (∀ s,s<n->zam (zcr hk f κ (s+1) (κ s))) (fun v w'=>∃ g,v=.slice (some ⟨g,0,none⟩) K K/\w.heap.size<=g/\zaq w' g 0 K (fun d=>.string (tx (zcr hk f κ n d)))) w):=by
 have h:=zAe hk f κ n K fv (.slice Ac n cc) w hn hK hκ hf hff hc;obtain⟨c0,c1,c2⟩:=hcal;obtain⟨Af,cf,rfl,-⟩:=hf;have H:=zHd h;clear h hc hκ hff;unfold zbi at H;go_enter Tryz.func79,Tryz.ntmps79;go_wp2_with fail;refine H.out.mono ?_;rintro e w1 (⟨hp,v,rfl,⟨g,rfl,hg,hr⟩,hg1⟩|⟨hn,rfl,hg1⟩)
 ·have HP:=zHd (zAI hp (zAI hg (zAI hr hg1)))
  clear hp hg hr hg1 H;go_wp2;go_ret;obtain⟨hp,hg,hr,hg1⟩:=HP.out;exact .inl ⟨hp,_,rfl,⟨g,rfl,hg,hr⟩,hg1⟩
 ·exact⟨rfl,.inr ⟨hn,rfl,hg1⟩⟩
theorem zvv:Enters 87:=enters_of Tryz.func87 (by kernel_rfl) rfl
theorem zaG.at_drew {w:World}{v:Value}{n:Nat}{L:Nat->Value}(h:zaG w v n L):zaG w.drew v n L:=h.grown (zag w none)
theorem zAg (hk:zad k)(b:Nat->El k)(Y:Nat->El k)(K m d g1 g2:Nat)(Ay:Option Addr)(cy:Nat)(ys:Nat->Value)(bv:Value)(w:World)(hm:m<=10000)(hd:d<K)(hb:zaG w bv m (txs b))(hbf:∀ j,j<m->zam (b j))
  (hcal:zcR w g1 k) (hyv:w.cell? ⟨g2,0,none⟩=some (.slice Ay K cy)) (hy:zaG w (.slice Ay K cy) K ys) (hyd:zaG w (ys d) m (txs Y)) (hyf:∀ j,j<m->zam (Y j)) :
  Calls Tryz.prog 85 #[bv,.int .i64 (d:Int),.pointer (some ⟨g2,0,none⟩),.pointer (some ⟨g1,0,none⟩)] w (zla (∀ j,j<m->zam ((srE k hk).add (b j) (Y j))) m (fun j=>tx ((srE k hk).add (b j) (Y j))) w):=by
 have hmf := @zMF Tryz.prog
 have hcall:=zlI 87 zvv #[zbi k] #[] m m (txs b) (txs Y) (fun j=>zam ((srE k hk).add (b j) (Y j))) (fun j=>tx ((srE k hk).add (b j) (Y j))) bv (ys d) w.drew hm hb.at_drew hyd.at_drew (zqab m)
  (fun i hi w' _=>zjH hk (hbf i hi) (hyf i hi) w')
 obtain⟨Ay',cy',e,hy1,hy2,hy3⟩:=hy;obtain⟨rfl,rfl⟩:Ay'=Ay/\cy'=cy:=by simp at e;exact⟨e.1.symm,e.2.symm⟩
 obtain⟨ad,rfl,hbl,hcl⟩:=hy3 d hd;obtain⟨c0,c1,c2⟩:=hcal;have d0:w.drew.cell? ⟨g1,0,none⟩=some (.int .i64 k):=c0;have d1:w.drew.cell? ⟨g1,1,none⟩=some (.string (zae k)):=c1;have d2:w.drew.cell? ⟨g1,2,none⟩=some (.string (zal k)):=c2;have d3:w.drew.cell? ⟨g2,0,none⟩=some (.slice (some ad) K cy'):=hyv;have d4:w.drew.cell? (ad.add d)=some (ys d):=hcl;have i1:(d:Int)<(K:Int):=by omega
 have i2:(0:Int)<=(d:Int):=by omega
 have HC:=zHd hcall;clear hcall hb hyd hbf hyf hy1 hy2 hy3 hbl hcl c0 c1 c2 e hyv;unfold zbi at HC;go_enter Tryz.func85,Tryz.ntmps85;go_upto_region 1 with(fail)
 go_region_held2 (fun W'=>W'.cell? ⟨g1,0,none⟩=some (.int .i64 k)/\W'.cell? ⟨g1,1,none⟩=some (.string (zae k))/\W'.cell? ⟨g1,2,none⟩=some (.string (zal k))/\W'.cell? ⟨g2,0,none⟩=some (.slice (some ad) K cy')/\W'.cell? (ad.add d)=some (ys d)) (go_keep)
  (first
  | (go_at_call 86;refine HC.out.mono ?_;rintro e w6 (⟨hp,v,rfl,⟨rfl,hr6⟩,hg6⟩|⟨hn,rfl,hg6⟩);rotate_left 1;(exact⟨rfl,.inr ⟨hn,rfl,zaa (zag w none) hg6⟩⟩);have s0:=hg6.cell d0 (by simp);have s1:=hg6.cell d1 (by simp);have s2:=hg6.cell d2 (by simp);have s3:=hg6.cell d3 (by simp);have s4:=hg6.cell d4 (by simp);have H6:=zHd (zAI hp (zAI hr6 hg6));clear hp hr6 hg6))
 all_goals
  go_wp2;go_ret;obtain⟨hp,hr6,hg6⟩:=H6.out;exact .inl ⟨hp,_,rfl,⟨rfl,hr6⟩,zaa (zag w none) hg6⟩
theorem zsM (ad:Addr):ad.add 0=ad:=by unfold Addr.add;rcases ad with⟨b,o,s⟩;cases s <;> simp
theorem zAh (hk:zad k)(f:Nat->El k)(b:Nat->Nat->El k)(n m g1 g2:Nat)(Ab:Option Addr)(cb:Nat)(bs:Nat->Value)(fv:Value)(w:World)(hn0:1<=n)(hn:n<=10000)(hm:m<=10000)(hf:zaG w fv n (txs f))(hff:∀ j,j<n->zam (f j))
  (hcal:zcR w g1 k) (hbv:w.cell? ⟨g2,0,none⟩=some (.slice Ab n cb)) (hb:zaG w (.slice Ab n cb) n bs) (hbs:∀ i,i<n->zaG w (bs i) m (txs (b i))) (hbf:∀ i,i<n->∀ j,j<m->zam (b i j)) :
  Calls Tryz.prog 81 #[fv,.pointer (some ⟨g1,0,none⟩),.pointer (some ⟨g2,0,none⟩)] w (zbO (zdT (srE k hk) zam n m (fun _=>(srE k hk).zero) f b) (fun v w'=>∃ g o c,v=.slice (some ⟨g,o,none⟩) m c/\m<=c/\c<=maxLen/\w.heap.size<=g/\zaq w' g o m (txs (zbh (srE k hk) (fun _=>(srE k hk).zero) f b n))) w):=by
 have hz:=fun w'=>zgI k m w' hm
 have hsum:=fun(w5:World) (h5:w.grownBy w5 none) (g:Nat) (hr:zaq w5 g 0 m (fun _=>.string (zae k)))=>zoC hk n m g 0 m (fun _=>(srE k hk).zero) f b fv (.slice Ab n cb) bs w5 hm hn
  (by
    have e:txs (fun _=>(srE k hk).zero)=fun _=>Value.string (zae k):=funext fun j=>by unfold txs;rw[zdG]
    rw[e];exact hr) (zqab m) (by unfold maxLen;omega) (hf.grown h5) hff (fun j _=>zcw hk) (hb.grown h5) (fun i hi=>(hbs i hi).grown h5) hbf
 obtain⟨Ab',cb',e,hb1,hb2,hb3⟩:=hb;obtain⟨rfl,rfl⟩:Ab'=Ab/\cb'=cb:=by simp at e;exact⟨e.1.symm,e.2.symm⟩
 obtain⟨ad,rfl,hbl,hcl⟩:=hb3 0 (by omega);rw[zsM] at hcl;obtain⟨A0,c00,e0,-⟩:=hbs 0 (by omega);rw[e0] at hcl;obtain⟨c0,c1,c2⟩:=hcal;obtain⟨Af,cf,rfl,-⟩:=hf;have d0:w.drew.cell? ⟨g1,0,none⟩=some (.int .i64 k):=c0;have d1:w.drew.cell? ⟨g1,1,none⟩=some (.string (zae k)):=c1;have d2:w.drew.cell? ⟨g1,2,none⟩=some (.string (zal k)):=c2;have d3:w.drew.cell? ⟨g2,0,none⟩=some (.slice (some ad) n cb'):=hbv;have d4:w.drew.cell? ad=some (.slice A0 m c00):=hcl;have i1:(0:Int)<(n:Int):=by omega
 have i3:0<n:=by omega
 have i4:¬ n=0:=by omega
 have i5:(1:Int)<=(n:Int):=by omega
 have HZ:=zHd hz;have HS:=zHd hsum;clear hz hsum hbs hbf hff hb1 hb2 hb3 hbl hcl c0 c1 c2 e e0 hbv;unfold zbi at HZ HS;go_enter Tryz.func81,Tryz.ntmps81;go_upto_region 1 with(fail)
 go_region_held2 (fun W'=>W'.cell? ⟨g1,0,none⟩=some (.int .i64 k)/\W'.cell? ⟨g1,1,none⟩=some (.string (zae k))/\W'.cell? ⟨g1,2,none⟩=some (.string (zal k))/\W'.cell? ⟨g2,0,none⟩=some (.slice (some ad) n cb')/\W'.cell? ad=some (.slice A0 m c00)) (go_keep)
  (first
  | (go_at_call 83;refine(HZ.out _).mono ?_;clear HZ;rintro e w5 ⟨g,rfl,hgW,hrow,hg5⟩;have s0:=hg5.cell d0 (by simp);have s1:=hg5.cell d1 (by simp);have s2:=hg5.cell d2 (by simp);have s3:=hg5.cell d3 (by simp);have s4:=hg5.cell d4 (by simp);have hg5':=zaa (zag w none) hg5;have H5:=zHd (zAI hgW (zAI hrow hg5'));clear hgW hrow hg5 hg5')
  | (go_at_call 82;refine(HS.out w5 H5.out.2.2 g (zkv H5.out.2.1)).mono ?_;clear HS;rintro e w6 (⟨hp,v,rfl,⟨gg,o,c,rfl,hc3,hc4,hgg,hrw⟩,hg6⟩|⟨hn,rfl,hg6⟩);rotate_left 1;(exact⟨rfl,.inr ⟨hn,rfl,zaa H5.out.2.2 hg6⟩⟩);have p0:=hg6.cell s0 (by simp);have p1:=hg6.cell s1 (by simp);have p2:=hg6.cell s2 (by simp);have p3:=hg6.cell s3 (by simp);have p4:=hg6.cell s4 (by simp);have H6:=zHd (zAI hp (zAI hc3 (zAI hc4 (zAI hgg (zAI hrw hg6)))));clear hp hc3 hc4 hgg hrw hg6))
 all_goals
  go_wp2;go_ret;obtain⟨hp,hc3,hc4,hgg,hrw,hg6⟩:=H6.out;refine .inl ⟨hp,_,rfl,⟨gg,o,c,rfl,hc3,hc4,?_,hrw⟩,zaa H5.out.2.2 hg6⟩;have h1:w.heap.size<=g:=H5.out.1;have h2:=H5.out.2.2.size;rcases hgg with h|h <;> omega
end
open Go.RowKit
section
variable {k:Int}
theorem zaB.other {T:TypeId}{z:Value}{n:Nat}{zs:List Value}{w wr:World}(h:zaB T z n zs w wr){g o:Nat}{u:Value}(hg:w.heap.size<g):zaB T z n zs w (wr.setCell ⟨g,o,none⟩ u) :=
 ⟨((zac wr ⟨g,o,none⟩ u).block _ (zqad.1 h.row).1 (by simp;omega)).trans h.row,zaj h.gr (zac _ _ _) (by show w.heap.size<=g;omega),h.le⟩
theorem zGO (hk:zad k){w:World}{g n t:Nat}(h:w.heap[g]?=some (.cells (List.replicate n (.string (zae k))).toArray 9 (0,0)))(ht:t<n) :
  zaq (w.setCell ⟨g,t,none⟩ (.string (zal k))) g 0 n (txs (idm (srE k hk) t)):=by
 have h2:=heap_setCell_same w g t _ _ (.string (zal k)) h;refine⟨(zqad.1 h2).1,fun j hj=>?_⟩;rw[zqat,zqbw _ g j _ _ (0,0) h2,List.setIfInBounds_toArray,zqap,List.getElem?_set];unfold txs idm
 by_cases e:t=j
 ·subst e
  rw[if_pos rfl,if_pos (by simpa using hj),if_pos rfl,zvq]
 ·rw[if_neg e,if_neg e,zqbg,if_pos hj,zdG]
def zli (hk:zad k)(H n:Nat)(zs:List Value)(wr:World):Prop :=
 ∀ i,i<zs.length->∃ gi,zs.getD i (.slice none 0 0)=.slice (some ⟨gi,0,none⟩) n n/\H<gi/\zaq wr gi 0 n (txs (idm (srE k hk) i))
theorem zGP (hk:zad k)(n:Nat)(w:World)(hn:n<=10000) :
  Calls Tryz.prog 44 #[zbi k,.int .i64 (n:Int)] w fun e w'=>∃ g zs,e=.returned (.slice (some ⟨g,0,none⟩) n n)/\w.heap.size<=g/\zs.length=n/\zaq w' g 0 n (fun j=>zs.getD j (.slice none 0 0))/\zli hk g n zs w'/\w.grownBy w' none:=by
 obtain⟨i0,hi,hz0,hz1,hz2⟩:=info_parts zeN;have hz:=fun w'=>zgI k n w' hn;have HZ:=zHd hz;have HN:=zHd hn;clear hz hn;have n0:¬ (n:Int)<0:=by omega
 unfold zbi at *;go_enter Tryz.func44,Tryz.ntmps44;have x0:=zao w #[.int .i64 k,.string (zae k),.string (zal k)] 64 (j:=0) rfl;have x1:=zao w #[.int .i64 k,.string (zae k),.string (zal k)] 64 (j:=1) rfl;have x2:=zao w #[.int .i64 k,.string (zae k),.string (zal k)] 64 (j:=2) rfl;have hsz:(w.alloc (.cells #[.int .i64 k,.string (zae k),.string (zal k)] 64)).heap.size=w.heap.size+1:=by simp
 go_wp2_with (at_make;refine wpList_make_full _ rfl _ _ 22 rfl (w.heap.size+1) 33 i0 (.slice none 0 0) 1 Tryz.underlying22 hi hz0 hz1 _ _ _ _ n rfl rfl ?c0 ?c1 ?c2 (by have:=HN.out;unfold maxLen;omega) (Nat.le_of_eq hsz.symm) ?_)
 case c0=>omega
 case c1=>omega
 case c2=>have:=HN.out;first|omega|(rw[hz2];omega)
 intro w1 hown hgr;have hW:w.grownBy (w.alloc (.cells #[.int .i64 k,.string (zae k),.string (zal k)] 64)) none:=zGA _ _ none;generalize w.alloc (.cells #[.int .i64 k,.string (zae k),.string (zal k)] 64)=W at *;have hfill:zaB 33 (.slice none 0 0) n [] W w1:=zaB.start (by rw[hsz];exact hown) hgr;have HFI:=zHd hfill;have HX:=zHd (zAI (show zcR w1 w.heap.size k from⟨hgr.cell x0 (by simp),hgr.cell x1 (by simp),hgr.cell x2 (by simp)⟩) (zAI hsz hW));clear hown hgr x0 x1 x2 hfill hsz hW;go_wp2
 go_loopw [11] (fun iv wr=>∃ zs:List Value,iv=.int .i64 (zs.length:Int)/\zaB 33 (.slice none 0 0) n zs W wr/\zli hk W.heap.size n zs wr/\zcR wr w.heap.size k) (fun iv _=>n-(intOf iv).toNat)
 case atStart=>exact⟨[],rfl,HFI.out,fun i hi=>absurd hi (by simp),HX.out.1⟩
 case round =>
  obtain⟨zs,rfl,hfill,hrows,hcal⟩:=hrel;obtain⟨t,hzt⟩:∃ t,zs.length=t:=⟨_,rfl⟩;have hle:=hfill.le
  by_cases ht:t<n
  ·have t1:decide (t<n)=true:=by simpa using ht
   have t1':decide ((t:Int)<(n:Int))=true:=by simpa using ht
   have hit:(t:Int)<(n:Int):=by omega
   have n1:IntKind.i64.wrap ((t:Int)+1)=(t:Int)+1:=by have:=HN.out;rw[zqah];omega
   obtain⟨y0,y1,y2⟩:=hcal;have HF:=zHd hfill;have HR:=zHd hrows;have HT:=zHd (zAI ht (zAI hzt hle));rw[hzt];clear hfill hrows ht hle hzt;go_wp2_with fail;refine(HZ.out _).mono ?_;rintro e w5 ⟨g,rfl,hgW,hrow,hg5⟩;obtain⟨ht,hzt,hle⟩:=HT.out;have hsz:=HX.out.2.1;have hWsz:W.heap.size<wr.heap.size:=(zqad.1 HF.out.row).1;have hf5:=HF.out.grown hg5;have q0:=hf5.cell (by rw[hzt];exact ht);have z0:=hf5.free t;rw[hzt,hsz] at q0;rw[hsz] at z0;have c2:=hg5.cell y2 (by simp);have c0:=hg5.cell y0 (by simp);have c1:=hg5.cell y1 (by simp);have hput:=hf5.put (by rw[hzt];exact ht) (.slice (some ⟨g,0,none⟩) n n);rw[hzt,hsz] at hput;have hgne:g≠w.heap.size+1:=by omega
   have hrow2:(w5.setCell ⟨w.heap.size+1,t,none⟩ (.slice (some ⟨g,0,none⟩) n n)).heap[g]?=some (.cells (List.replicate n (.string (zae k))).toArray 9 (0,0)):=((zac w5 ⟨w.heap.size+1,t,none⟩ _).block g (zqad.1 hrow).1 (by simpa using hgne)).trans hrow;have HP:=zHd (zAI hput (zAI hrow2 (zAI hgW (zAI hg5 (zAI hWsz (zAI c0 (zAI c1 (zAI c2 hrow))))))));clear hput hrow2 hgW hg5 hWsz hf5 hrow y0 y1 y2 ht hzt hle;go_upto_region 6 with(fail)
   have a0:(w5.setCell ⟨w.heap.size+1,t,none⟩ (.slice (some ⟨g,0,none⟩) n n)).cell? ⟨w.heap.size+1,t,none⟩=some (.slice (some ⟨g,0,none⟩) n n):=by
    have hr:=HP.out.1.row;rw[hsz] at hr;rw[zqbw _ _ t _ _ (0,0) hr,zqap,zqbj,zqaq (by have:=HT.out.2.1;omega),HT.out.2.1,zqbr];rfl
   have b2:(w5.setCell ⟨w.heap.size+1,t,none⟩ (.slice (some ⟨g,0,none⟩) n n)).cell? ⟨w.heap.size,2,none⟩=some (.string (zal k)):=zaZ (by omega) HP.out.2.2.2.2.2.2.2.1;have r0:=zqbw _ g t _ _ (0,0) HP.out.2.1;rw[zqap,zqbg,if_pos HT.out.1] at r0;have f0:=zqbx _ g t _ _ HP.out.2.1;have hgn:w.heap.size+1<g:=by have:=HP.out.2.2.1;have:=HP.out.2.2.2.2.1;omega
   have hCA:zcR (w5.setCell ⟨w.heap.size+1,t,none⟩ (.slice (some ⟨g,0,none⟩) n n)) w.heap.size k:=⟨zaZ (by omega) HP.out.2.2.2.2.2.1,zaZ (by omega) HP.out.2.2.2.2.2.2.1,b2⟩
   have hU:zli hk W.heap.size n zs (w5.setCell ⟨w.heap.size+1,t,none⟩ (.slice (some ⟨g,0,none⟩) n n))/\∀ i,i<zs.length->∃ gi,zs.getD i (.slice none 0 0)=.slice (some ⟨gi,0,none⟩) n n/\gi<g:=by
    refine⟨fun i hi=>?_,fun i hi=>?_⟩
    ·obtain⟨gi,e1,e2,e3⟩:=HR.out i hi
     exact⟨gi,e1,e2,(e3.grown HP.out.2.2.2.1).grownB (zac _ _ _) (by show gi≠w.heap.size+1;omega)⟩
    ·obtain⟨gi,e1,e2,e3⟩:=HR.out i hi
     exact⟨gi,e1,by have:=e3.1;have:=HP.out.2.2.1;omega⟩
   have hput:=HP.out.1;have hrow2:=HP.out.2.1;generalize w5.setCell ⟨w.heap.size+1,t,none⟩ (.slice (some ⟨g,0,none⟩) n n)=V at *;have hne1:¬ w.heap.size=g:=by omega
   have hne2:¬ w.heap.size+1=g:=by omega
   have HV:=zHd (zAI hput (zAI hrow2 (zAI hgn (zAI hCA hU))));have d0:V.drew.cell? ⟨w.heap.size+1,t,none⟩=some (.slice (some ⟨g,0,none⟩) n n):=a0;have d2:V.drew.cell? ⟨w.heap.size,2,none⟩=some (.string (zal k)):=b2;have dr:V.drew.cell? ⟨g,t,none⟩=some (.string (zae k)):=r0;have df:V.drew.frozen? ⟨g,t,none⟩=false:=f0;have e0:=zaZ (w:=V.drew) (o:=t) (u:=.string (zal k)) hne2 d0;have e2:=zaZ (w:=V.drew) (o:=t) (u:=.string (zal k)) hne1 d2;clear hput hrow2 hgn hCA hU a0 b2 r0 f0 hgne
   go_region_held2 (fun W'=>W'.cell? ⟨w.heap.size+1,t,none⟩=some (.slice (some ⟨g,0,none⟩) n n)/\W'.cell? ⟨w.heap.size,2,none⟩=some (.string (zal k))) (first|exact⟨d0,d2⟩|exact⟨e0,e2⟩|go_keep) (fail)
   all_goals
    go_wp2;obtain⟨hput,hrow2,hgn,hCA,hU1,hU2⟩:=HV.out;have hzt:=HT.out.2.1;have hsz2:W.heap.size=w.heap.size+1:=hsz;refine⟨⟨zs++[.slice (some ⟨g,0,none⟩) n n],by simp[hzt],(hput.grown (zag V none)).other (by omega),fun i hi=>?_,⟨zaZ hne1 hCA.1,zaZ hne1 hCA.2.1,zaZ hne1 hCA.2.2⟩⟩,by have:=HT.out.1;simp[intOf];omega⟩
    by_cases hil:i<zs.length
    ·obtain⟨gi,q1,q2,q3⟩:=hU1 i hil
     obtain⟨gj,p1,p2⟩:=hU2 i hil;rw[q1] at p1;have hgg:gi=gj:=(by simpa using p1);refine⟨gi,?_,q2,(q3.grown (zag V none)).grownB (zac _ _ _) (by show gi≠g;omega)⟩;rw[zqaa,zqal hil,<- zqaa];exact q1
    ·have hie:i=t:=by simp at hi;omega
     subst hie;refine⟨g,?_,by omega,zGO hk (w:=V.drew) hrow2 HT.out.1⟩;rw[zqaa,zqaq (by omega),hzt,zqbr];rfl
  ·have hte:t=n:=by omega
   subst hte;have t1:decide (t<t)=false:=by simp
   have t1':decide ((t:Int)<(t:Int))=false:=by simp
   have HF:=zHd hfill;have HR:=zHd hrows;have HT:=zHd hzt;rw[hzt];clear hfill hrows ht hle hzt hcal;go_wp2;go_ret;have hsz:=HX.out.2.1;have hra:=HF.out.rowAt HT.out;rw[hsz] at hra;have hru:=HR.out;rw[hsz] at hru;exact⟨w.heap.size+1,zs,rfl,by omega,HT.out,hra,hru,zaa HX.out.2.2 HF.out.gr⟩
end
open Go.RowKit
theorem zAi (n t g:Nat)(L:Nat->Value)(a:ByteArray)(fv:Value)(w:World)(hn:t<n)(hf:zaG w fv n L)(h0:L t=.string a)(hi:w.cell? ⟨g,0,none⟩=some (.int .i64 (t:Int))) :
  Calls Tryz.prog 144 #[fv,.pointer (some ⟨g,0,none⟩)] w (zab (.string a) w):=by
 obtain⟨A,c,rfl,h1,h2,h3⟩:=hf;obtain⟨ad,rfl,hb,hc⟩:=h3 t hn;rw[h0] at hc;have i1:(t:Int)<(n:Int):=by omega
 have i2:¬ (n:Int)<=(t:Int):=by omega
 have i3:¬ (t:Int)<0:=by omega
 clear h3 hb;go_enter Tryz.func144,Tryz.ntmps144;go_wp2;go_ret;exact⟨rfl,World.grownBy.refl _ _⟩
theorem ztH:Enters 144:=enters_of Tryz.func144 (by kernel_rfl) rfl
def zvw (G:Nat->Nat->ByteArray)(H n:Nat)(zs:List Value)(wr:World):Prop :=
 ∀ t,t<zs.length->∃ g,zs.getD t (.slice none 0 0)=.slice (some ⟨g,0,none⟩) n n/\H<g/\zaq wr g 0 n (fun i=>.string (G i t))
theorem zrP (n:Nat)(V:Nat->Value)(G:Nat->Nat->ByteArray)(lv:Value)(w:World)(hn:n<=10000)(hl:zaG w lv n V)(hrow:∀ i,i<n->zaG w (V i) n (fun j=>.string (G i j))) :
  Calls Tryz.prog 99 #[lv] w (fun e w'=>∃ zs,e=.returned (.slice (some ⟨w.heap.size,0,none⟩) n n)/\zs.length=n/\zaq w' w.heap.size 0 n (fun j=>zs.getD j (.slice none 0 0))/\zvw G w.heap.size n zs w'/\w.grownBy w' none):=by
 obtain⟨i0,hi,hz0,hz1,hz2⟩:=info_parts zeN
 have hm:∀ (t g:Nat) (w':World),t<n->w.grownBy w' none->w'.cell? ⟨g,0,none⟩=some (.int .i64 (t:Int))->Calls Tryz.prog 141 #[lv,.func (.func 144) #[] #[.pointer (some ⟨g,0,none⟩)]] w' (fun e w2=>e=.returned (.slice (some ⟨w'.heap.size,0,none⟩) n n)/\zaq w2 w'.heap.size 0 n (fun i=>.string (G i t))/\w'.grownBy w2 none):=by
  intro t g w' ht hg hc
  have h:=zlH 144 ztH #[] #[.pointer (some ⟨g,0,none⟩)] n V (fun _=>True) (fun i=>G i t) lv w' hn (hl.grown hg) (fun i hi w2 hg2=>by
   have h1:=zAi n t g _ (G i t) (V i) w2 ht (((hrow i hi).grown hg).grown hg2) rfl (hg2.cell hc (by simp));exact h1.mono (fun e w3 h3=>.inl ⟨trivial,h3⟩))
  refine h.mono (fun e w2 h2=>?_);rcases h2 with⟨-,v,rfl,⟨rfl,hr⟩,hg2⟩|⟨hnp,-⟩
  ·exact⟨rfl,hr,hg2⟩
  ·exact absurd (fun _ _=>trivial) hnp
 obtain⟨A,c,rfl,hl1,hl2,-⟩:=hl;have HM:=zHd hm;have HN:=zHd hn;clear hm hn hrow hl1 hl2;have n0:¬ (n:Int)<0:=by omega
 go_enter Tryz.func99,Tryz.ntmps99;go_wp2_with (at_make;refine wpList_make_full _ rfl _ _ 22 rfl w.heap.size 33 i0 (.slice none 0 0) 1 Tryz.underlying22 hi hz0 hz1 _ _ _ _ n rfl rfl ?c0 ?c1 ?c2 (by have:=HN.out;unfold maxLen;omega) (zqab _) ?_)
 case c0=>omega
 case c1=>omega
 case c2=>have:=HN.out;first|omega|(rw[hz2];omega)
 intro w1 hown hgr;have HFI:=zHd (zaB.start hown hgr);clear hown hgr;go_wp2
 go_loopw [10] (fun iv wr=>∃ zs:List Value,iv=.int .i64 (zs.length:Int)/\zaB 33 (.slice none 0 0) n zs w wr/\zvw G w.heap.size n zs wr) (fun iv _=>n-(intOf iv).toNat)
 case atStart=>exact⟨[],rfl,HFI.out,fun i hi=>absurd hi (by simp)⟩
 case round =>
  obtain⟨zs,rfl,hfill,hrows⟩:=hrel;obtain⟨t,hzt⟩:∃ t,zs.length=t:=⟨_,rfl⟩;have hle:=hfill.le
  by_cases ht:t<n
  ·have t1:decide (t<n)=true:=by simpa using ht
   have t1':decide ((t:Int)<(n:Int))=true:=by simpa using ht
   have hit:(t:Int)<(n:Int):=by omega
   have hit0:¬ (t:Int)<0:=by omega
   have n1:IntKind.i64.wrap ((t:Int)+1)=(t:Int)+1:=by have:=HN.out;rw[zqah];omega
   have hwr:w.heap.size<wr.heap.size:=(zqad.1 hfill.row).1;have HF:=zHd hfill;have HR:=zHd hrows;have HT:=zHd (zAI ht (zAI hzt (zAI hle hwr)));rw[hzt];clear hfill hrows ht hle hzt hwr;go_upto_region 5 with(fail);have c0:(wr.alloc (.cells #[.int .i64 (t:Int)] 3)).cell? ⟨wr.heap.size,0,none⟩=some (.int .i64 (t:Int)):=zao wr #[.int .i64 (t:Int)] 3 (j:=0) rfl;have hU:wr.grownBy (wr.alloc (.cells #[.int .i64 (t:Int)] 3)) none:=zGA _ _ none;generalize wr.alloc (.cells #[.int .i64 (t:Int)] 3)=U at *;have d0:U.drew.cell? ⟨wr.heap.size,0,none⟩=some (.int .i64 (t:Int)):=c0;have HG:=zHd (zaa hU (zag U none));have hne:¬ wr.heap.size=w.heap.size:=by have:=HT.out.2.2.2;omega
   clear hU
   go_region_held3 (fun W'=>W'.cell? ⟨wr.heap.size,0,none⟩=some (.int .i64 (t:Int))) (first|exact s1|go_keep)
    (first
     | (go_at_call 141;refine(HM.out t wr.heap.size _ HT.out.1 (zaa HF.out.gr HG.out) d0).mono ?_;rintro e w5 ⟨rfl,hr5,hg5⟩;have s0:=hg5.cell d0 (by simp);have s1:=zaZ (w:=w5) (o:=t) (u:=.slice (some ⟨U.drew.heap.size,0,none⟩) n n) hne s0;have q0:=((HF.out.grown HG.out).grown hg5).cell (by rw[HT.out.2.1];exact HT.out.1);have z0:=((HF.out.grown HG.out).grown hg5).free t;rw[HT.out.2.1] at q0;have H5:=zHd (zAI hr5 hg5);clear hr5 hg5))
   all_goals
    go_wp2;have hsz:=HG.out.size;have hzt:=HT.out.2.1;have hws:=HT.out.2.2.2;have hgg:=zaa HG.out H5.out.2;have hput:=((HF.out.grown HG.out).grown H5.out.2).put (by rw[hzt];exact HT.out.1) (.slice (some ⟨U.drew.heap.size,0,none⟩) n n);rw[hzt] at hput;refine⟨⟨zs++[.slice (some ⟨U.drew.heap.size,0,none⟩) n n],by simp[hzt],hput,fun i hi=>?_⟩,by have:=HT.out.1;simp[intOf];omega⟩
    by_cases hil:i<zs.length
    ·obtain⟨gi,q1,q2,q3⟩:=HR.out i hil
     refine⟨gi,?_,q2,(q3.grown hgg).grownB (zac _ _ _) (by show gi≠w.heap.size;omega)⟩;rw[zqaa,zqal hil,<- zqaa];exact q1
    ·have hie:i=t:=by simp at hi;omega
     subst hie;refine⟨U.drew.heap.size,?_,by omega,H5.out.1.grownB (zac _ _ _) (by show U.drew.heap.size≠w.heap.size;omega)⟩;rw[zqaa,zqaq (by omega),hzt,zqbr];rfl
  ·have hte:t=n:=by omega
   subst hte;have t1:decide (t<t)=false:=by simp
   have t1':decide ((t:Int)<(t:Int))=false:=by simp
   have HF:=zHd hfill;have HR:=zHd hrows;have HT:=zHd hzt;rw[hzt];clear hfill hrows ht hle hzt;go_wp2;go_ret;exact⟨zs,rfl,HT.out,HF.out.rowAt HT.out,HR.out,HF.out.gr⟩
end Go.Proofs.YtaogepcaoogpgaaGreatDoor
