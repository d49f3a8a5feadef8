/- W12 W81 W83 W88 -/
import Derived.Test.YtaogepcaoogpgaaGreatDoorX12
import Derived.Test.YtaogepcaoogpgaaGreatDoorX14
set_option linter.unusedVariables false
set_option linter.unusedSimpArgs false
set_option maxRecDepth 100000
set_option maxHeartbeats 16000000
namespace Go.Proofs.YtaogepcaoogpgaaGreatDoor
open Go.RowKit
open Go.Lib (nDigits decDigits)
def RVal (s:ByteArray)(b:Bool):Prop:=∀ w,Calls Tryz.prog 208 #[.string s] w fun e w'=>e = .returned (.bool b)∧w=w'
theorem zHV (neg:Bool)(num den:ByteArray)(w:World)(V:Hid (RVal num false)) :
  Calls Tryz.prog 188 #[.bool neg,.string num,.string den] w (zab (.tuple #[.string ⟨#[]⟩,.int .i64 1]) w):=by
 go_enter Tryz.func188,Tryz.ntmps188;go_wp2_with fail;refine(V.out _).mono ?_;rintro e w' ⟨rfl,rfl⟩;go_wp2
 go_ret2
 exact⟨rfl,zah _ _⟩
theorem zxP (m n:Nat)(w:World)(hm:nDigits m≤400)(hn:nDigits n≤400) :
  Calls Tryz.prog 139 #[.string (decS m),.string (decS n)] w (zab (.string (decS (m * n))) w):=by
 have d:=zcF hm hn;refine zuL _ _ _ w (zHd fun w => ?_);have:=zDj (decS m) (decS n) w (zaK m (by omega)) (zaK n (by omega));rw[zsi m n (by omega) (by omega) (by omega)] at this;exact this
theorem zAU (p q:Bool)(A B C:ByteArray)(w:World)(h:(p == q)=true)(AD:Hid (∀ w,Calls Tryz.prog 175 #[.string A,.string B] w (zab (.tuple #[.string C,.int .i64 0]) w))) :
  Calls Tryz.prog 138 #[.bool p,.string A,.bool q,.string B] w (zab (.tuple #[.bool p,.string C]) w):=by
 go_enter Tryz.func138,Tryz.ntmps138;go_wp2_with fail;refine(AD.out _).mono ?_;rintro e w1 ⟨rfl,hg⟩;have G1:=zHd hg;clear hg;go_wp2
 go_ret2
 exact⟨rfl,G1.out⟩
theorem zAV (p q:Bool)(A B C:ByteArray)(c:Int)(w:World)(h:(p == q)=false)(hc:0≤c)(CM:Hid (∀ w,Calls Tryz.prog 176 #[.string A,.string B] w (zlx c w)))(SU:Hid (∀ w,Calls Tryz.prog 177 #[.string A,.string B] w (zab (.tuple #[.string C,.int .i64 0]) w))) :
  Calls Tryz.prog 138 #[.bool p,.string A,.bool q,.string B] w (zab (.tuple #[.bool p,.string C]) w):=by
 go_enter Tryz.func138,Tryz.ntmps138;go_wp2_with fail;refine(CM.out _).mono ?_;rintro e w1 ⟨rfl,hg⟩;have G1:=zHd hg;clear hg;go_wp2_with fail;refine(SU.out _).mono ?_;rintro e w2 ⟨rfl,hg⟩;have G2:=zHd (zaa G1.out hg);clear hg G1;go_wp2
 go_ret2
 exact⟨rfl,G2.out⟩
theorem zAW (p q:Bool)(A B C:ByteArray)(c:Int)(w:World)(h:(p == q)=false)(hc:¬ 0≤c)(CM:Hid (∀ w,Calls Tryz.prog 176 #[.string A,.string B] w (zlx c w)))(SU:Hid (∀ w,Calls Tryz.prog 177 #[.string B,.string A] w (zab (.tuple #[.string C,.int .i64 0]) w))) :
  Calls Tryz.prog 138 #[.bool p,.string A,.bool q,.string B] w (zab (.tuple #[.bool q,.string C]) w):=by
 go_enter Tryz.func138,Tryz.ntmps138;go_wp2_with fail;refine(CM.out _).mono ?_;rintro e w1 ⟨rfl,hg⟩;have G1:=zHd hg;clear hg;go_wp2_with fail;refine(SU.out _).mono ?_;rintro e w2 ⟨rfl,hg⟩;have G2:=zHd (zaa G1.out hg);clear hg G1;go_wp2
 go_ret2
 exact⟨rfl,G2.out⟩
def sumR (p:Bool)(m:Nat)(q:Bool)(n:Nat):Bool × Nat:=if p == q then (p,m+n) else if m<n then (q,n - m) else (p,m - n)
theorem zGg (p:Bool)(m:Nat)(q:Bool)(n:Nat):sg (sumR p m q n).1 (sumR p m q n).2=sg p m+sg q n:=by
 unfold sumR
 by_cases h:p=q
 ·subst h;simp only[BEq.rfl,if_true];exact zvL p m n
 ·rw[if_neg (by simpa using h)]
  split
  ·rename_i hl;exact zvM p q m n h hl
  ·rename_i hl;exact zvN p q m n h hl
theorem zDU (p:Bool)(m:Nat)(q:Bool)(n:Nat)(w:World)(hm:nDigits m≤800)(hn:nDigits n≤800) :
  Calls Tryz.prog 138 #[.bool p,.string (decS m),.bool q,.string (decS n)] w (zab (.tuple #[.bool (sumR p m q n).1,.string (decS (sumR p m q n).2)]) w):=by
 unfold sumR;cases h:(p == q)
 ·simp only[Bool.false_eq_true,if_false]
  have cm:=fun w=>zDb (decS m) (decS n) w (zaK m (by omega)) (zaK n (by omega));rw[zlv m n (by omega) (by omega)] at cm
  by_cases hl:m<n
  ·rw[if_pos hl]
   have su:=fun w=>zst (decS n) (decS m) w (zaK n (by omega)) (zaK m (by omega));rw[zlw n m (by omega) (by omega) (by omega)] at su;exact zAW p q _ _ _ _ w h (by have:=(zdG m n).2 hl;omega) (zHd cm) (zHd su)
  ·rw[if_neg hl]
   have su:=fun w=>zst (decS m) (decS n) w (zaK m (by omega)) (zaK n (by omega));rw[zlw m n (by omega) (by omega) (by omega)] at su;exact zAV p q _ _ _ _ w h (by have:=(zdG m n);omega) (zHd cm) (zHd su)
 ·simp only[if_true]
  have d:=zif m n 800 hm hn;have ad:=fun w=>zDg (decS m) (decS n) w (zaK m (by omega)) (zaK n (by omega));rw[zsh _ _ (decS (m+n)) (zaM _ (by omega)) (zaM _ (by omega)) (zaM _ (by omega)) (by rw[zaD,zaD,zaD])] at ad;exact zAU p q _ _ _ w h (zHd ad)
def zfJ (a:ByteArray)(p:Bool)(A B:ByteArray)(k:Bool):Prop:=∀ w,Calls Tryz.prog 137 #[.string a] w (zab (.tuple #[.bool p,.string A,.string B,.bool k]) w)
theorem zqu (a:ByteArray)(p:Bool)(A B:ByteArray)(k:Bool)(w:World)(R:Hid (zfJ a p A B k)) :
  Calls Tryz.prog 88 #[.string a] w (zab (.bool k) w):=by
 go_enter Tryz.func88,Tryz.ntmps88;go_wp2_with fail;refine(R.out _).mono ?_;rintro e w1 ⟨rfl,hg⟩;have G1:=zHd hg;clear hg;go_wp2;go_ret;exact⟨rfl,G1.out⟩
theorem zAX (a b:ByteArray)(p q:Bool)(A B C D:ByteArray)(X Y c:ByteArray)(ng:Bool)(w:World)(R1:Hid (zfJ a p A B true))(R2:Hid (zfJ b q C D true))(T1:Hid (∀ w,Calls Tryz.prog 139 #[.string A,.string D] w (zab (.string X) w)))(T2:Hid (∀ w,Calls Tryz.prog 139 #[.string C,.string B] w (zab (.string Y) w)))(SM:Hid (∀ w,Calls Tryz.prog 138 #[.bool p,.string X,.bool (!q),.string Y] w (zab (.tuple #[.bool ng,.string c]) w)))(f:(c.toList == [48])=true) :
  Calls Tryz.prog 89 #[.string a,.string b] w (zab (.int .i64 0) w):=by
 go_enter Tryz.func89,Tryz.ntmps89;go_wp2_with fail;refine(R1.out _).mono ?_;rintro e w1 ⟨rfl,hg⟩;have G1:=zHd hg;clear hg;go_wp2_with fail;refine(R2.out _).mono ?_;rintro e w2 ⟨rfl,hg⟩;have G2:=zHd (zaa G1.out hg);clear hg G1;go_wp2_with fail;refine(T1.out _).mono ?_;rintro e w3 ⟨rfl,hg⟩;have G3:=zHd (zaa G2.out hg);clear hg G2;go_wp2_with fail;refine(T2.out _).mono ?_;rintro e w4 ⟨rfl,hg⟩;have G4:=zHd (zaa G3.out hg);clear hg G3;go_wp2_with fail;refine(SM.out _).mono ?_;rintro e w5 ⟨rfl,hg⟩;have G5:=zHd (zaa G4.out hg);clear hg G4;go_wp2;go_ret;exact⟨rfl,G5.out⟩
theorem zAY (a b:ByteArray)(p q:Bool)(A B C D:ByteArray)(X Y c:ByteArray)(ng:Bool)(w:World)(R1:Hid (zfJ a p A B true))(R2:Hid (zfJ b q C D true))(T1:Hid (∀ w,Calls Tryz.prog 139 #[.string A,.string D] w (zab (.string X) w)))(T2:Hid (∀ w,Calls Tryz.prog 139 #[.string C,.string B] w (zab (.string Y) w)))(SM:Hid (∀ w,Calls Tryz.prog 138 #[.bool p,.string X,.bool (!q),.string Y] w (zab (.tuple #[.bool ng,.string c]) w)))(f:(c.toList == [48])=false) :
  Calls Tryz.prog 89 #[.string a,.string b] w (zab (.int .i64 (if ng then -1 else 1)) w):=by
 cases ng
 all_goals
  go_enter Tryz.func89,Tryz.ntmps89;go_wp2_with fail;refine(R1.out _).mono ?_;rintro e w1 ⟨rfl,hg⟩;have G1:=zHd hg;clear hg;go_wp2_with fail;refine(R2.out _).mono ?_;rintro e w2 ⟨rfl,hg⟩;have G2:=zHd (zaa G1.out hg);clear hg G1;go_wp2_with fail;refine(T1.out _).mono ?_;rintro e w3 ⟨rfl,hg⟩;have G3:=zHd (zaa G2.out hg);clear hg G2;go_wp2_with fail;refine(T2.out _).mono ?_;rintro e w4 ⟨rfl,hg⟩;have G4:=zHd (zaa G3.out hg);clear hg G3;go_wp2_with fail;refine(SM.out _).mono ?_;rintro e w5 ⟨rfl,hg⟩;have G5:=zHd (zaa G4.out hg);clear hg G4;go_wp2;go_ret;exact⟨rfl,G5.out⟩
open Go.RowKit
open Go.Lib (nDigits decDigits)
theorem zeA {a:ByteArray}{x:Rat}(h:zay a x):zfJ a (sgn x) (decS x.num.natAbs) (decS x.den) true:=fun w=>zxF h w
theorem zxQ {a:ByteArray}(h:zcS a)(ha:a.size≤maxLen):zfJ a false ⟨#[]⟩ ⟨#[]⟩ false:=fun w=>zAz h ha w
theorem zxR {a:ByteArray}{x:Rat}(h:zay a x)(w:World):Calls Tryz.prog 88 #[.string a] w (zab (.bool true) w):=zqu a _ _ _ _ w (zHd (zeA h))
theorem zAZ {a:ByteArray}(h:zcS a)(ha:a.size≤maxLen)(w:World):Calls Tryz.prog 88 #[.string a] w (zab (.bool false) w):=zqu a _ _ _ _ w (zHd (zxQ h ha))
theorem rtm (m n:Nat)(hm:nDigits m≤400)(hn:nDigits n≤400):Hid (∀ w,Calls Tryz.prog 139 #[.string (decS m),.string (decS n)] w (zab (.string (decS (m * n))) w)):=zHd fun w=>zxP m n w hm hn
theorem zHo (q:Bool)(n:Nat):sg (!q) n = - sg q n:=by cases q <;> simp[sg]
theorem zHp (x y:Rat):cmpQ x y=if (sumR (sgn x) (x.num.natAbs * y.den) (!sgn y) (y.num.natAbs * x.den)).2=0 then 0 else if (sumR (sgn x) (x.num.natAbs * y.den) (!sgn y) (y.num.natAbs * x.den)).1 then -1 else 1:=by
 have h:=zGg (sgn x) (x.num.natAbs * y.den) (!sgn y) (y.num.natAbs * x.den);rw[zHo,zlu,zlu,← zdh,← zdh] at h;generalize sumR (sgn x) (x.num.natAbs * y.den) (!sgn y) (y.num.natAbs * x.den)=r at *;obtain⟨ng,c⟩:=r;simp only at h ⊢;unfold cmpQ;simp only[Rat.lt_iff];generalize x.num * (y.den:Int)=u at *;generalize y.num * (x.den:Int)=v at *;unfold sg at h;cases ng <;> simp only[Bool.false_eq_true,if_false,if_true] at h ⊢
 all_goals
  split <;> (try split) <;> (try split) <;> omega
theorem zDV {a b:ByteArray}{x y:Rat}(ha:zay a x)(hb:zay b y)(w:World):Calls Tryz.prog 89 #[.string a,.string b] w (zab (.int .i64 (cmpQ x y)) w):=by
 have hx:=ha.short;have hy:=hb.short;have d1:=zcF hx.1 hy.2;have d2:=zcF hy.1 hx.2;have SM:=zHd fun w=>zDU (sgn x) (x.num.natAbs * y.den) (!sgn y) (y.num.natAbs * x.den) w d1 d2;have e:=zHp x y;have f:=(zero_str' (sumR (sgn x) (x.num.natAbs * y.den) (!sgn y) (y.num.natAbs * x.den)).2).1
 by_cases h0:(sumR (sgn x) (x.num.natAbs * y.den) (!sgn y) (y.num.natAbs * x.den)).2=0
 ·rw[if_pos h0] at e
  rw[e];exact zAX a b _ _ _ _ _ _ _ _ _ _ w (zHd (zeA ha)) (zHd (zeA hb)) (rtm _ _ hx.1 hy.2) (rtm _ _ hy.1 hx.2) SM (by rw[f];simpa using h0)
 ·rw[if_neg h0] at e
  rw[e];exact zAY a b _ _ _ _ _ _ _ _ _ _ w (zHd (zeA ha)) (zHd (zeA hb)) (rtm _ _ hx.1 hy.2) (rtm _ _ hy.1 hx.2) SM (by rw[f];simpa using h0)
open Go.RowKit
section
variable {k:Int}
def tx (v:El k):ByteArray:=extT v.1
def FitE (v:El k):Prop:=Fits v.1
def calV (k:Int):Value := .agg #[.int .i64 k,.string (zaf k),.string (oneT k)]
def facV (k:Int)(a:ByteArray):Value := .agg #[.int .i64 k,.string (zaf k),.string (oneT k),.string a]
def ziH (P:Prop)(V:Value)(w:World)(e:Ending)(w':World):Prop:=(P∧zab V w e w')∨(¬ P∧zei 2 w e w')
theorem zlE {v:El k}(h:FitE v):IsE (tx v) v.1:=zvV h
theorem zby {v:El k}(h:FitE v):Val k (tx v) v.1:=⟨zlE h,v.2⟩
theorem zeY (hk:zad k):tx (srE k hk).zero=zaf k:=(zDT hk).text.symm
theorem znW (hk:zad k):tx (srE k hk).one=oneT k:=(zpB hk).text.symm
theorem zcJ (hk:zad k):FitE (srE k hk).zero:=(zda k).fits (by omega)
theorem zlF (hk:zad k):FitE (srE k hk).one:=(zgD k).fits (by omega)
theorem zdl {u v:El k}(hu:FitE u)(hv:FitE v)(h:tx u=tx v):u=v:=Subtype.ext ((zlE hu).uniq (h ▸ zlE hv))
theorem zfq (hk:zad k){u:El k}(hu:FitE u)(h:tx u=zaf k):u=(srE k hk).zero:=zdl hu (zcJ hk) (by rw[h,zeY])
theorem zqv (hk:zad k){u:El k}(hu:FitE u)(h:tx u=oneT k):u=(srE k hk).one:=zdl hu (zlF hk) (by rw[h,znW])
theorem zhw {v:Ext}(h:¬ Fits v):extV v = .tuple #[.string ⟨#[]⟩,.int .i64 2]:=by
 rcases v with(_|_)|x
 ·exact absurd trivial h
 ·exact absurd trivial h
 ·exact zhF h
theorem zcU (a b:ByteArray):((a.toList == b.toList)=true∧a=b)∨((a.toList == b.toList)=false∧a≠b):=by
 by_cases h:a=b
 ·left;exact⟨by rw[h];exact beq_self_eq_true _,h⟩
 ·right
  refine⟨?_,h⟩;rw[Bool.eq_false_iff];intro e;have:=eq_of_beq e;rw[Lib.toList_data,Lib.toList_data] at this;exact h (ByteArray.ext (Array.ext' this))
theorem zmC (a:ByteArray)(w:World):Calls Tryz.prog 102 #[.string a,.int .i64 0] w (zab (.string a) w):=by
 go_enter Tryz.func102,Tryz.ntmps102;go_wp2;go_ret;exact⟨rfl,zah _ _⟩
theorem zkD (a:ByteArray)(w:World):Calls Tryz.prog 102 #[.string a,.int .i64 2] w (zei 2 w):=by
 go_enter Tryz.func102,Tryz.ntmps102;go_wp2;exact⟨rfl,rfl,zah _ _⟩
theorem zhY (hk:zad k){u v:El k}(hu:FitE u)(hv:FitE v)(w:World) :
  Calls Tryz.prog 87 #[calV k,.string (tx u),.string (tx v)] w (ziH (FitE ((srE k hk).add u v)) (.string (tx ((srE k hk).add u v))) w):=by
 unfold calV;rcases zcU (tx u) (zaf k) with⟨f1,e1⟩|⟨f1,e1⟩
 ·have hz:=zfq hk hu e1
  have hs:(srE k hk).add u v=v:=by rw[hz,(srE k hk).zero_add]
  rw[hs];have HFV:=zHd hv;clear hs hz e1;go_enter Tryz.func87,Tryz.ntmps87;go_wp2;go_ret;exact .inl ⟨HFV.out,rfl,zGA _ _ _⟩
 ·rcases zcU (tx v) (zaf k) with⟨f2,e2⟩|⟨f2,e2⟩
  ·have hz:=zfq hk hv e2
   have hs:(srE k hk).add u v=u:=by rw[hz,(srE k hk).add_zero]
   rw[hs];clear hs hz e2 e1;go_enter Tryz.func87,Tryz.ntmps87;go_wp2;go_ret;exact .inl ⟨hu,rfl,zGA _ _ _⟩
  ·have hp:=zqt (zby hu) (zby hv)
   clear e1 e2
   by_cases hf:FitE ((srE k hk).add u v)
   ·have e:extV (zcp k u.1 v.1) = .tuple #[.string (tx ((srE k hk).add u v)),.int .i64 0]:=zko hf
    rw[e] at hp;have HP:=zHd hp;have HFF:=zHd hf;clear hp e hf;generalize (srE k hk).add u v=s at *;go_enter Tryz.func87,Tryz.ntmps87;go_wp2_with fail;refine(HP.out _).mono ?_;rintro e w1 ⟨rfl,hg1⟩;go_wp2_with fail;refine(zmC _ _).mono ?_;rintro e w2 ⟨rfl,hg2⟩;have HG:=zHd (zaa (zaa (zGA _ _ none) hg1) hg2);clear hg1 hg2;go_wp2;go_ret;exact .inl ⟨HFF.out,rfl,HG.out⟩
   ·have e:extV (zcp k u.1 v.1) = .tuple #[.string ⟨#[]⟩,.int .i64 2]:=zhw hf
    rw[e] at hp;have HP:=zHd hp;have HF:=zHd hf;clear hp e hf;go_enter Tryz.func87,Tryz.ntmps87;go_wp2_with fail;refine(HP.out _).mono ?_;rintro e w1 ⟨rfl,hg1⟩;go_wp2_with fail;refine(zkD _ _).mono ?_;rintro e w2 ⟨rfl,hg2⟩;exact⟨rfl,.inr ⟨HF.out,rfl,zaa (zaa (zGA _ _ none) hg1) hg2⟩⟩
theorem znX (hk:zad k){u v:El k}(hu:FitE u)(hv:FitE v)(w:World) :
  Calls Tryz.prog 59 #[calV k,.string (tx u),.string (tx v)] w (ziH (FitE ((srE k hk).mul u v)) (.string (tx ((srE k hk).mul u v))) w):=by
 unfold calV;rcases zcU (tx u) (zaf k) with⟨f1,e1⟩|⟨f1,e1⟩
 ·have hz:=zfq hk hu e1
  have hs:(srE k hk).mul u v=u:=by rw[hz,(srE k hk).zero_mul]
  rw[hs];clear hs hz e1;go_enter Tryz.func59,Tryz.ntmps59;go_wp2;go_ret;exact .inl ⟨hu,rfl,zGA _ _ _⟩
 ·rcases zcU (tx v) (oneT k) with⟨f2,e2⟩|⟨f2,e2⟩
  ·have hz:=zqv hk hv e2
   have hs:(srE k hk).mul u v=u:=by rw[hz,(srE k hk).mul_one]
   rw[hs];clear hs hz e2 e1;go_enter Tryz.func59,Tryz.ntmps59;go_wp2;go_ret;exact .inl ⟨hu,rfl,zGA _ _ _⟩
  ·rcases zcU (tx v) (zaf k) with⟨f3,e3⟩|⟨f3,e3⟩
   ·have hz:=zfq hk hv e3
    have hs:(srE k hk).mul u v=v:=by rw[hz,(srE k hk).mul_zero]
    rw[hs];clear hs hz e2 e1 e3;go_enter Tryz.func59,Tryz.ntmps59;go_wp2;go_ret;exact .inl ⟨hv,rfl,zGA _ _ _⟩
   ·rcases zcU (tx u) (oneT k) with⟨f4,e4⟩|⟨f4,e4⟩
    ·have hz:=zqv hk hu e4
     have hs:(srE k hk).mul u v=v:=by rw[hz,(srE k hk).one_mul]
     rw[hs];clear hs hz e2 e1 e3 e4;go_enter Tryz.func59,Tryz.ntmps59;go_wp2;go_ret;exact .inl ⟨hv,rfl,zGA _ _ _⟩
    ·have hp:=znV (zby hu) (zby hv)
     clear e1 e2 e3 e4
     by_cases hf:FitE ((srE k hk).mul u v)
     ·have e:extV (zaZ k u.1 v.1) = .tuple #[.string (tx ((srE k hk).mul u v)),.int .i64 0]:=zko hf
      rw[e] at hp;have HP:=zHd hp;have HFF:=zHd hf;clear hp e hf;generalize (srE k hk).mul u v=s at *;go_enter Tryz.func59,Tryz.ntmps59;go_wp2_with fail;refine(HP.out _).mono ?_;rintro e w1 ⟨rfl,hg1⟩;go_wp2_with fail;refine(zmC _ _).mono ?_;rintro e w2 ⟨rfl,hg2⟩;have HG:=zHd (zaa (zaa (zGA _ _ none) hg1) hg2);clear hg1 hg2;go_wp2;go_ret;exact .inl ⟨HFF.out,rfl,HG.out⟩
     ·have e:extV (zaZ k u.1 v.1) = .tuple #[.string ⟨#[]⟩,.int .i64 2]:=zhw hf
      rw[e] at hp;have HP:=zHd hp;have HF:=zHd hf;clear hp e hf;go_enter Tryz.func59,Tryz.ntmps59;go_wp2_with fail;refine(HP.out _).mono ?_;rintro e w1 ⟨rfl,hg1⟩;go_wp2_with fail;refine(zkD _ _).mono ?_;rintro e w2 ⟨rfl,hg2⟩;exact⟨rfl,.inr ⟨HF.out,rfl,zaa (zaa (zGA _ _ none) hg1) hg2⟩⟩
theorem zBa (hk:zad k){u:El k}(hu:FitE u)(w:World) :
  Calls Tryz.prog 166 #[calV k,.string (tx u)] w (ziH (FitE ((srE k hk).star u)) (.string (tx ((srE k hk).star u))) w):=by
 unfold calV;have hp:=zAS (zby hu)
 by_cases hf:FitE ((srE k hk).star u)
 ·have e:extV (zcM k u.1) = .tuple #[.string (tx ((srE k hk).star u)),.int .i64 0]:=zko hf
  rw[e] at hp;have HP:=zHd hp;have HFF:=zHd hf;clear hp e hf;generalize (srE k hk).star u=s at *;go_enter Tryz.func166,Tryz.ntmps166;go_wp2_with fail;refine(HP.out _).mono ?_;rintro e w1 ⟨rfl,hg1⟩;go_wp2_with fail;refine(zmC _ _).mono ?_;rintro e w2 ⟨rfl,hg2⟩;have HG:=zHd (zaa (zaa (zGA _ _ none) hg1) hg2);clear hg1 hg2;go_wp2;go_ret;exact .inl ⟨HFF.out,rfl,HG.out⟩
 ·have e:extV (zcM k u.1) = .tuple #[.string ⟨#[]⟩,.int .i64 2]:=zhw hf
  rw[e] at hp;have HP:=zHd hp;have HF:=zHd hf;clear hp e hf;go_enter Tryz.func166,Tryz.ntmps166;go_wp2_with fail;refine(HP.out _).mono ?_;rintro e w1 ⟨rfl,hg1⟩;go_wp2_with fail;refine(zkD _ _).mono ?_;rintro e w2 ⟨rfl,hg2⟩;exact⟨rfl,.inr ⟨HF.out,rfl,zaa (zaa (zGA _ _ none) hg1) hg2⟩⟩
theorem zkE (hk:zad k){u v:El k}(hu:FitE u)(hv:FitE v)(w:World) :
  Calls Tryz.prog 167 #[facV k (tx u),.string (tx v)] w (ziH (FitE ((srE k hk).mul u v)) (.string (tx ((srE k hk).mul u v))) w):=by
 have ht:=fun w'=>znX hk hu hv w';unfold facV;unfold calV at *;have HT:=zHd ht;clear ht;go_enter Tryz.func167,Tryz.ntmps167;go_wp2_with fail;refine(HT.out _).mono ?_;rintro e w1 (⟨hp,rfl,hg⟩|⟨hn,rfl,hg⟩)
 ·have HG:=zHd hg;have HPP:=zHd hp
  clear hg HT hp;go_wp2;go_ret;exact .inl ⟨HPP.out,rfl,zaa (zGA _ _ none) HG.out⟩
 ·exact⟨rfl,.inr ⟨hn,rfl,zaa (zGA _ _ none) hg⟩⟩
theorem zak (w:World)(cur:Array Value)(t:TypeId){j:Nat}{u:Value}(h:cur[j]? = some u):(w.alloc (.cells cur t)).cell? ⟨w.heap.size,j,none⟩=some u:=by
 rw[cell_of_row (w.alloc (.cells cur t)) w.heap.size j cur t (0,0) (by show(w.heap.push _)[w.heap.size]? = _;rw[Array.getElem?_push_size])];exact h
theorem znY (hk:zad k){u v t:El k}(hu:FitE u)(hv:FitE v)(ht:FitE t)(w:World) :
  Calls Tryz.prog 135 #[facV k (tx u),.string (tx t),.string (tx v)] w (ziH (FitE ((srE k hk).mul u v)∧FitE ((srE k hk).add t ((srE k hk).mul u v))) (.string (tx ((srE k hk).add t ((srE k hk).mul u v)))) w):=by
 have h1:=fun w'=>zkE hk hu hv w';have h2:=fun(hm:FitE ((srE k hk).mul u v)) w'=>zhY hk ht hm w';generalize (srE k hk).mul u v=p at *;generalize (srE k hk).add t p=s at *;unfold facV at *;unfold calV at *;have H1:=zHd h1;have H2:=zHd h2;clear h1 h2;go_enter Tryz.func135,Tryz.ntmps135;go_upto_region 1 with(fail)
 have x0:(w.alloc (.cells #[.int .i64 k,.string (zaf k),.string (oneT k),.string (tx u)] 129)).cell? ⟨w.heap.size,0,none⟩=some (.int .i64 k):=zak w _ _ rfl;have x1:(w.alloc (.cells #[.int .i64 k,.string (zaf k),.string (oneT k),.string (tx u)] 129)).cell? ⟨w.heap.size,1,none⟩=some (.string (zaf k)):=zak w _ _ rfl;have x2:(w.alloc (.cells #[.int .i64 k,.string (zaf k),.string (oneT k),.string (tx u)] 129)).cell? ⟨w.heap.size,2,none⟩=some (.string (oneT k)):=zak w _ _ rfl;have x3:(w.alloc (.cells #[.int .i64 k,.string (zaf k),.string (oneT k),.string (tx u)] 129)).cell? ⟨w.heap.size,3,none⟩=some (.string (tx u)):=zak w _ _ rfl;have hg0:w.grownBy (w.alloc (.cells #[.int .i64 k,.string (zaf k),.string (oneT k),.string (tx u)] 129)) none:=zGA _ _ none;generalize w.alloc (.cells #[.int .i64 k,.string (zaf k),.string (oneT k),.string (tx u)] 129)=W at *;have d0:W.drew.cell? ⟨w.heap.size,0,none⟩=some (.int .i64 k):=x0;have d1:W.drew.cell? ⟨w.heap.size,1,none⟩=some (.string (zaf k)):=x1;have d2:W.drew.cell? ⟨w.heap.size,2,none⟩=some (.string (oneT k)):=x2;have d3:W.drew.cell? ⟨w.heap.size,3,none⟩=some (.string (tx u)):=x3;have HGD:=zHd (zaa hg0 (zae W none));clear x0 x1 x2 x3 hg0
 go_region_with (first
  | (go_at_call 167;refine(H1.out _).mono ?_;clear H1;rintro e w5 (⟨hp,rfl,hg5⟩|⟨hn,rfl,hg5⟩);rotate_left 1;(exact⟨rfl,.inr ⟨fun h=>hn h.1,rfl,zaa HGD.out hg5⟩⟩);have s0:=hg5.cell d0 (by simp);have s1:=hg5.cell d1 (by simp);have s2:=hg5.cell d2 (by simp);have s3:=hg5.cell d3 (by simp);have HG5:=zHd hg5;have HPP:=zHd hp;clear hg5 hp)
  | (go_at_call 87;refine(H2.out HPP.out _).mono ?_;clear H2;rintro e w6 (⟨hs,rfl,hg6⟩|⟨hn,rfl,hg6⟩);rotate_left 1;(exact⟨rfl,.inr ⟨fun h=>hn h.2,rfl,zaa (zaa HGD.out HG5.out) hg6⟩⟩);have HG6:=zHd hg6;have HSS:=zHd hs;clear hg6 hs))
 all_goals
  go_wp2;go_ret;exact .inl ⟨⟨HPP.out,HSS.out⟩,rfl,zaa (zaa HGD.out HG5.out) HG6.out⟩
end
open Go.RowKit
theorem zDW (n:Nat)(hn:n≤10000)(w:World):Calls Tryz.prog 171 #[.int .u64 1,.int .u64 (n:Int)] w fun e w'=>e = .returned (.tuple #[.int .u64 0,.int .u64 (n:Int)])∧w'=w:=by
 have h:=fun w=>Tryz.bits_Mul64 1 n (by omega) (by omega) w;rw[Nat.one_mul,Nat.div_eq_of_lt (by omega),Nat.mod_eq_of_lt (by omega)] at h;have H:=zHd h;clear h;go_enter Tryz.func171,Tryz.ntmps171;go_wp2_with fail;refine(H.out _).mono ?_;rintro e w' ⟨rfl,rfl⟩;go_wp2
 go_ret2
 exact⟨rfl,rfl⟩
theorem zHW (w:World)(g off dLen dCap sLen sCap:Nat)(ad:Addr)(cur cs:List Value)(T:TypeId)(hg:w.heap[g]? = some (.cells cur.toArray T (0,0)))(hn:cs.length=Nat.min sLen dLen)
  (hsrc:∀ j v,cs[j]? = some v→w.cell? (ad.add j)=some v) (hfit:off+cs.length≤cur.length) (h1:∀ v∈cs,v.oneCell'=true) :
  ∃ w',(Builtin.copy_ #[33,33] 3 #[.slice (some ⟨g,off,none⟩) dLen dCap,.slice (some ad) sLen sCap]).run Tryz.prog w = .ok (.int .i64 (cs.length:Nat)) w'∧w'.heap[g]? = some (.cells (splice cur off cs).toArray T (0,0))∧w.grownBy w' (some g):=by
 have hrun:=run_copy_row (P:=Tryz.prog) w 33 33 3 9 g off dLen dCap ad sLen sCap cur.toArray T cs Tryz.underlying33 (by kernel_rfl) hg hn hsrc (by simpa using hfit) h1;refine⟨_,hrun,?_,⟨rfl,rfl,rfl,by simp,fun k _ hk=>setRow_other w g k _ (fun e=>hk (by rw[e]))⟩⟩;rw[setRow_heap w g _ _ T _ hg];simp[splice]
theorem znZ (a:Value)(z:Value)(n p q:Nat)(h:p+q≤n):splice (List.replicate p a++List.replicate (n - p) z) p (List.replicate q a)=List.replicate (p+q) a++List.replicate (n - (p+q)) z:=by
 unfold splice;rw[List.take_left' (by simp),List.length_replicate,List.drop_append,List.drop_eq_nil_of_le (by simp),List.length_replicate,List.nil_append,show p+q - p=q by omega,List.drop_replicate,← List.append_assoc,List.replicate_append_replicate]
 congr 2
 omega
theorem zpC (P:Program)(w:World)(dT sT ty elem:TypeId)(d a:Option Addr)(dLen dCap sLen sCap:Nat)(hu:P.underlying dT=some (.slice elem))(hs:((P.info? elem).map (·.size)).isSome=true)(hn:Nat.min sLen dLen=0) :
  (Builtin.copy_ #[dT,sT] ty #[.slice d dLen dCap,.slice a sLen sCap]).run P w = .ok (goInt 0) w:=by
 have hl:=fun a=>run_loadCells_list (P:=P) w a [] (fun j v h=>by simp at h);simp only[List.length_nil] at hl;cases hq:P.info? elem with
 | none=>simp[hq] at hs
 | some i=>cases d <;> cases a <;> simp[Builtin.copy_,run_underlying hu,Builtin.lenOf,Builtin.firstCells,sizeOf,typeInfo,hq,storeCells,hn,hl]
theorem ztl {P:Program}{ops:Array Oper}{o:Oper}{a:Act}{w:World}{K:Act→World→Prop}{Q:Exit→Act→World→Prop}{E:Prop}(hgd:o.guard=none)(d s:Operand)(dT sT:TypeId)
  (ho:o.op = .call { callee := .builtin .copy,args:=#[d,s],argTypes:=#[dT,sT] }) (elem:TypeId) (hu:P.underlying dT=some (.slice elem)) (hsz:(P.info? elem).map (·.size)=some 1)
  (g off:Nat) (ad:Addr) (dLen dCap sLen sCap m:Nat) (hd:a.eval d = .slice (some ⟨g,off,none⟩) dLen dCap) (hs:a.eval s = .slice (some ad) sLen sCap)
  (cur:List Value) (t:TypeId) (hg:w.heap[g]? = some (.cells cur.toArray t (0,0))) (cs:List Value) (hm:Nat.min sLen dLen=m) (hn:cs.length=m)
  (hsrc:∀ j v,cs[j]? = some v→w.cell? (ad.add j)=some v)
  (hfit:off+cs.length≤cur.length) (h1:∀ v∈cs,v.oneCell'=true)
  (h:K (a.put o.dst (goInt m)) (w.setRow g (splice cur off cs).toArray)) :
  if Region.wanted o (yielded ops a.tmps)=true then Oper.wp P o a w K Q else E:=by
 have hw:Region.wanted o (yielded ops a.tmps)=true:=by simp[Region.wanted,hgd]
 rw[if_pos hw];subst hm;rw[← hn] at h;have hrun:=run_copy_row (P:=P) w dT sT o.type elem g off dLen dCap ad sLen sCap cur.toArray t cs hu hsz hg hn hsrc (by simpa using hfit) h1;unfold Oper.wp;have e:splice cur off cs=List.take off cur.toArray.toList++cs++List.drop (off+cs.length) cur.toArray.toList:=by simp[splice]
 rw[e] at h;simp only[execOp,ho,resolve,invoke,builtin,hd,hs,Result.andThen];simp[hd,hs,hrun,Result.andThen]
 first|exact h|(simp only[Oper.upon];exact h)|(simp at h;exact h)
theorem zxS {P:Program}{ops:Array Oper}{o:Oper}{a:Act}{w:World}{K:Act→World→Prop}{Q:Exit→Act→World→Prop}{E:Prop}(hgd:o.guard=none)(d s:Operand)(dT sT:TypeId)
  (ho:o.op = .call { callee := .builtin .copy,args:=#[d,s],argTypes:=#[dT,sT] }) (elem:TypeId) (hu:P.underlying dT=some (.slice elem)) (hsz:(P.info? elem).map (·.size)=some 1)
  (dp sp:Option Addr) (dLen dCap sLen sCap m:Nat) (hd:a.eval d = .slice dp dLen dCap) (hs:a.eval s = .slice sp sLen sCap)
  (g off:Nat) (cur:List Value) (t:TypeId) (hg:w.heap[g]? = some (.cells cur.toArray t (0,0))) (cs:List Value) (hm:Nat.min sLen dLen=m) (hn:cs.length=m)
  (hpos:0<m→dp=some ⟨g,off,none⟩∧∃ ad,sp=some ad∧∀ j v,cs[j]? = some v→w.cell? (ad.add j)=some v)
  (hfit:off+cs.length≤cur.length) (h1:∀ v∈cs,v.oneCell'=true)
  (h:∀ w',Hid (w'.heap[g]? = some (.cells (splice cur off cs).toArray t (0,0))∧w.grownBy w' (some g))→K (a.put o.dst (goInt m)) w') :
  if Region.wanted o (yielded ops a.tmps)=true then Oper.wp P o a w K Q else E:=by
 by_cases h0:m=0
 ·have hw:Region.wanted o (yielded ops a.tmps)=true:=by simp[Region.wanted,hgd]
  rw[if_pos hw];have hcs:cs=[]:=List.eq_nil_of_length_eq_zero (by rw[hn,h0])
  have hrun:=zpC P w dT sT o.type elem dp sp dLen dCap sLen sCap hu (by cases hq:P.info? elem with
   | none=>rw[hq] at hsz;simp at hsz
   | some i=>rfl) (hm.trans h0)
  have hK:=h w (zHd ⟨by rw[hcs];simpa [splice] using hg,World.grownBy.refl _ _⟩);rw[h0] at hK;unfold Oper.wp;simp[execOp,ho,resolve,invoke,builtin,hd,hs,hrun,Result.andThen];exact hK
 ·obtain⟨rfl,ad,rfl,hsrc⟩:=hpos (by omega)
  refine ztl hgd d s dT sT ho elem hu hsz g off ad dLen dCap sLen sCap m hd hs cur t hg cs hm hn hsrc hfit h1 (h _ (zHd ⟨setRow_heap w g _ _ t _ hg,⟨rfl,rfl,rfl,by simp,fun k _ hk=>setRow_other w g k _ (fun e=>hk (by rw[e]))⟩⟩))
theorem zxT (a:ByteArray)(gx n:Nat)(w:World)(hx:w.cell? ⟨gx,0,none⟩=some (.string a))(hgx:gx<w.heap.size)(hn:n≤10000) :
  Calls Tryz.prog 136 #[.slice (some ⟨gx,0,none⟩) 1 1,.int .i64 (n:Int)] w fun e w'=>e = .returned (.slice (some ⟨w.heap.size,0,none⟩) n n)∧zas 9 (.string ⟨#[]⟩) n (List.replicate n (.string a)) w w':=by
 obtain⟨i0,hi,hz0,hz1,hz2⟩:=info_parts zeK;have hmul:=fun w=>zDW n hn w;have HM:=zHd hmul;have HN:=zHd hn;have HX:=zHd (zAI hx hgx);have n0:¬ (n:Int)<0:=by omega
 have n1:IntKind.u64.wrap (n:Int)=(n:Int):=by rw[IntKind.wrap_u64];omega
 have n2:IntKind.i64.wrap (n:Int)=(n:Int):=by rw[IntKind.wrap_i64];omega
 have n3:¬ (9223372036854775807:Int)<(n:Int):=by omega
 clear hmul hn hx hgx;go_enter Tryz.func136,Tryz.ntmps136;go_wp2_with fail;refine(HM.out _).mono ?_;rintro e w0 ⟨rfl,rfl⟩;clear HM;go_wp2_with (at_make;refine wpList_make_full _ rfl _ _ 33 rfl w0.heap.size 9 i0 (.string ⟨#[]⟩) 1 Tryz.underlying33 hi hz0 hz1 _ _ _ _ n rfl rfl ?c0 ?c1 ?c2 (by have:=HN.out;unfold maxLen;omega) (Nat.le_refl _) ?_)
 case c0=>omega
 case c1=>omega
 case c2=>have:=HN.out;first|omega|(rw[hz2];omega)
 intro w1 hown hgr;have hfill:=zas.start hown hgr;have hx1:=hgr.cell HX.out.1 (by simp);have hrow:=hfill.row;simp only[List.nil_append,List.length_nil,Nat.sub_zero] at hrow;obtain⟨q,hq⟩:∃ q,Nat.min 1 n=q:=⟨_,rfl⟩;have hq1:q≤1:=by rw[← hq];exact Nat.min_le_left _ _
 have hq2:q≤n:=by rw[← hq];exact Nat.min_le_right _ _
 have hq3:1≤n→q=1:=fun h=>by rw[← hq];exact Nat.min_eq_left h
 obtain⟨w2,hrun,hrow2,hg2⟩:=zHW w1 w0.heap.size 0 n n 1 1 ⟨gx,0,none⟩ (List.replicate n (.string ⟨#[]⟩)) (List.replicate q (.string a)) 9 hrow (by rw[List.length_replicate,hq]) (fun j v hj=>by
  obtain⟨hj1,rfl⟩:=List.getElem?_eq_some_iff.1 hj;rw[List.length_replicate] at hj1;obtain rfl:j=0:=by omega
  rw[List.getElem_replicate,zbF];exact hx1) (by rw[List.length_replicate,List.length_replicate];omega) (fun v hv=>by rw[(List.mem_replicate.1 hv).2];rfl)
 have hsp:=znZ (.string a) (.string ⟨#[]⟩) n 0 q (by omega);simp only[List.replicate_zero,List.nil_append,Nat.sub_zero,Nat.zero_add] at hsp;rw[hsp] at hrow2;rw[List.length_replicate] at hrun;have hfill2:zas 9 (.string ⟨#[]⟩) n (List.replicate q (.string a)) w0 w2:=⟨by rw[List.length_replicate];exact hrow2,zai hgr hg2 (Nat.le_refl _),by rw[List.length_replicate];exact hq2⟩;have HFL:=zHd hfill2;have HQ:=zHd (zAI hq2 hq3);clear hown hgr hfill hx1 hrow hrow2 hg2 hsp hfill2 hq hq1 hq2 hq3;go_wp2;generalize w2=wr at *
 go_loopw [8] (fun iv wr=>∃ p:Nat,iv = .int .i64 (p:Int)∧p≤n∧(1≤n→1≤p)∧zas 9 (.string ⟨#[]⟩) n (List.replicate p (.string a)) w0 wr) (fun iv _=>n - (intOf iv).toNat)
 case atStart=>exact⟨q,rfl,HQ.out.1,fun h=>by rw[HQ.out.2 h];exact Nat.le_refl _,HFL.out⟩
 case round =>
  obtain⟨p,rfl,hp,hp1,hfill⟩:=hrel
  by_cases hpn:p<n
  ·have t1:decide (p<n)=true:=by simpa using hpn
   have t1':decide ((p:Int)<(n:Int))=true:=by simpa using hpn
   have i1:(p:Int)≤(n:Int):=by omega
   have i2:¬ (n:Int)<(p:Int):=by omega
   have HFL:=zHd hfill;have HP:=zHd (zAI hpn (zAI hp hp1));clear hfill hpn hp hp1;obtain⟨c,hc⟩:∃ c,Nat.min p (n - p)=c:=⟨_,rfl⟩;have hc1:c≤p:=by rw[← hc];exact Nat.min_le_left _ _
   have hc2:c≤n - p:=by rw[← hc];exact Nat.min_le_right _ _
   have hc3:1≤p→1≤c:=fun h=>by
    have hp2:=HP.out.1;rw[← hc];exact Nat.le_min.2 ⟨h,by omega⟩
   have n4:IntKind.i64.wrap ((p:Int)+(c:Int))=((p+c:Nat):Int):=by have:=HN.out;have:=HP.out.2.1;rw[IntKind.wrap_i64];omega
   have hrow:=HFL.out.row;rw[List.length_replicate] at hrow
   have hcell:∀ j v,(List.replicate c (.string a):List Value)[j]? = some v→wr.drew.cell? ((⟨w0.heap.size,0,none⟩:Addr).add j)=some v:=fun j v hj=>by
    obtain⟨hj1,rfl⟩:=List.getElem?_eq_some_iff.1 hj;rw[List.length_replicate] at hj1;rw[List.getElem_replicate,zbF,Nat.zero_add];show wr.cell? _=_;rw[cell_of_row wr w0.heap.size j _ _ (0,0) hrow,List.getElem?_toArray,List.getElem?_append_left (by rw[List.length_replicate];omega),List.getElem?_replicate,if_pos (by omega)]
   have hfit:p+(List.replicate c (.string a):List Value).length≤(List.replicate p (.string a)++List.replicate (n - p) (.string ⟨#[]⟩):List Value).length:=by
    have:=HP.out.1;rw[List.length_append,List.length_replicate,List.length_replicate,List.length_replicate];omega
   have h1c:∀ v∈(List.replicate c (.string a):List Value),v.oneCell'=true:=fun v hv=>by rw[(List.mem_replicate.1 hv).2];rfl
   have HNP:Hid (¬ n=p):=zHd (by have:=HP.out.1;omega);have HC:=zHd (zAI hc1 (zAI hc2 hc3));have HROW:=zHd (show wr.drew.heap[w0.heap.size]? = _ from hrow);clear hc1 hc2 hc3 hrow;go_wp2_with (fail)
   go_region_law ((refine zxS rfl (.tmp 41) (.tmp 44) 33 33 rfl 9 Tryz.underlying33 (by kernel_rfl) (some ⟨w0.heap.size,p,none⟩) (some ⟨w0.heap.size,0,none⟩) (n - p) (n - p) p n c (by simp[Act.eval,Act.put,HNP.out]) (by simp[Act.eval,Act.put]) w0.heap.size p (List.replicate p (.string a)++List.replicate (n - p) (.string ⟨#[]⟩)) 9 HROW.out (List.replicate c (.string a)) hc (by simp) (fun h=>⟨rfl,_,rfl,hcell⟩) hfit h1c ?_;intro w6 h6))
   all_goals
    go_wp2_with (fail)
    first
    | exact absurd HP.out.1 (Nat.lt_irrefl _)
    | (obtain⟨hc1,hc2,hc3⟩:=HC.out
       obtain⟨hpn,hp,hp1⟩:=HP.out;have hsp:=znZ (.string a) (.string ⟨#[]⟩) n p c (by omega);refine⟨⟨p+c,by simp,by omega,fun h=>by omega,?_,?_,by rw[List.length_replicate];omega⟩,by have:=hc3 (by omega);simp[intOf];omega⟩
       ·rw[List.length_replicate,← hsp];exact h6.out.1
       ·exact zai (zaa HFL.out.gr (zae wr none)) h6.out.2 (Nat.le_refl _))
  ·have hpe:p=n:=by omega
   subst hpe;have t1:decide (p<p)=false:=by simp
   have t1':decide ((p:Int)<(p:Int))=false:=by simp
   have HFL:=zHd hfill;clear hfill hpn hp hp1;go_wp2;go_ret;exact⟨rfl,HFL.out⟩
def zwp (a:ByteArray)(n:Nat)(w:World)(e:Ending)(w':World):Prop :=
 ∃ g,e = .returned (.slice (some ⟨g,0,none⟩) n n)∧w.heap.size≤g∧w'.heap[g]? = some (.cells (List.replicate n (.string a)).toArray 9 (0,0))∧w.grownBy w' none
theorem ziI {w:World}{g n:Nat}{a:ByteArray}(h:w.heap[g]? = some (.cells (List.replicate n (.string a)).toArray 9 (0,0))):zam w g 0 n (fun _ => .string a):=by
 refine⟨(Array.getElem?_eq_some_iff.1 h).1,fun j hj => ?_⟩;rw[Nat.zero_add,cell_of_row w g j _ _ (0,0) h,List.getElem?_toArray,List.getElem?_replicate,if_pos hj]
theorem zeZ (k:Int)(n:Nat)(w:World)(hn:n≤10000):Calls Tryz.prog 83 #[calV k,.int .i64 (n:Int)] w (zwp (zaf k) n w):=by
 unfold calV zwp;have hr:=fun(w1:World) (gx:Nat) h1 h2=>zxT (zaf k) gx n w1 h1 h2 hn;have HR:=zHd hr;clear hr hn;go_enter Tryz.func83,Tryz.ntmps83;go_wp2_with fail;refine(HR.out ((w.alloc (.cells #[.int .i64 k,.string (zaf k),.string (oneT k)] 64)).alloc (.cells #[.string (zaf k)] 9)) (w.heap.size+1) ?h1 ?h2).mono ?_
 case h1 =>
  have h:=zak (w.alloc (.cells #[.int .i64 k,.string (zaf k),.string (oneT k)] 64)) #[.string (zaf k)] 9 (j:=0) (u := .string (zaf k)) rfl;rw[show(w.alloc (.cells #[.int .i64 k,.string (zaf k),.string (oneT k)] 64)).heap.size=w.heap.size+1 by simp] at h;exact h
 case h2=>simp
 rintro e w1 ⟨rfl,hf⟩;have HF:=zHd hf;clear hf;go_wp2;go_ret;have hrow:=HF.out.row;have hg:=HF.out.gr;rw[List.length_replicate,Nat.sub_self,List.replicate_zero,List.append_nil] at hrow;rw[show((w.alloc (.cells #[.int .i64 k,.string (zaf k),.string (oneT k)] 64)).alloc (.cells #[.string (zaf k)] 9)).heap.size=w.heap.size+1+1 by simp] at hrow;exact⟨_,rfl,by omega,hrow,zaa (zaa (zGA _ _ none) (zGA _ _ none)) hg⟩
open Go.RowKit
theorem zkF:Enters 135:=enters_of Tryz.func135 (by kernel_rfl) rfl
theorem zoa:Enters 167:=enters_of Tryz.func167 (by kernel_rfl) rfl
theorem zmf {α:Type}(S:Sr α)(row f:Nat→α)(R:Nat→Nat→α)(t j:Nat):S.add (zaN S row f R t j) (S.mul (f t) (R t j))=zaN S row f R (t+1) j:=by
 unfold zaN;rw[S.add_assoc]
 rfl
theorem zij {α:Type}(S:Sr α)(row f:Nat→α)(R:Nat→Nat→α)(j:Nat):zaN S row f R 0 j=row j:=S.add_zero _
section
variable {k:Int}
def txs (f:Nat→El k)(j:Nat):Value := .string (tx (f j))
def zGh (hk:zad k)(n m:Nat)(row f:Nat→El k)(R:Nat→Nat→El k)(g0:Nat)(w:World)(e:Ending)(w':World):Prop :=
 zbo (zcN (srE k hk) FitE n m row f R) (fun v w'=>∃ g o c,v = .slice (some ⟨g,o,none⟩) m c∧m≤c∧c≤maxLen∧(g=g0∨w.heap.size≤g)∧zam w' g o m (txs (zaN (srE k hk) row f R n))) w e w'
structure zgo (hk:zad k)(n m:Nat)(row f:Nat→El k)(R:Nat→Nat→El k)(g0:Nat)(w:World)(t:Nat)(rv:Value)(wr:World):Prop where
 le:t≤n
 gr:w.grownBy wr none
 rv:∃ g o c,rv = .slice (some ⟨g,o,none⟩) m c∧m≤c∧c≤maxLen∧(g=g0∨w.heap.size≤g)∧zam wr g o m (txs (zaN (srE k hk) row f R t))
 fit:zcN (srE k hk) FitE t m row f R
 now:∀ j,j<m→FitE (zaN (srE k hk) row f R t j)
theorem zgo.skip {hk:zad k}{n m:Nat}{row f:Nat→El k}{R:Nat→Nat→El k}{g0:Nat}{w:World}{t:Nat}{rv:Value}{wr:World}(h:zgo hk n m row f R g0 w t rv wr)(ht:t<n)(hz:f t=(srE k hk).zero):zgo hk n m row f R g0 w (t+1) rv wr:=by
 have e:∀ j,zaN (srE k hk) row f R (t+1) j=zaN (srE k hk) row f R t j:=fun j=>by rw[← zmf,hz,(srE k hk).zero_mul,(srE k hk).add_zero]
 have e2:zaN (srE k hk) row f R (t+1)=zaN (srE k hk) row f R t:=funext e;refine⟨ht,h.gr,by rw[e2];exact h.rv,fun s hs j hj => ?_,fun j hj=>by rw[e];exact h.now j hj⟩
 by_cases hst:s<t
 ·exact h.fit s hst j hj
 ·obtain rfl:s=t:=by omega
  exact⟨by rw[hz,(srE k hk).zero_mul];exact zcJ hk,by rw[e];exact h.now j hj⟩
theorem zgo.next {hk:zad k}{n m:Nat}{row f:Nat→El k}{R:Nat→Nat→El k}{g0:Nat}{w:World}{t:Nat}{rv:Value}{wr w':World}(h:zgo hk n m row f R g0 w t rv wr)(ht:t<n)(hm:m≤maxLen)(hp:∀ j,j<m→FitE ((srE k hk).mul (f t) (R t j))∧FitE (zaN (srE k hk) row f R (t+1) j))
  {H:Nat} (hH:w.heap.size≤H) (hr:zam w' H 0 m (fun i => .string (tx (zaN (srE k hk) row f R (t+1) i)))) (hg:wr.grownBy w' none):zgo hk n m row f R g0 w (t+1) (.slice (some ⟨H,0,none⟩) m m) w':=by
 refine⟨ht,zaa h.gr hg,⟨H,0,m,rfl,Nat.le_refl _,hm,.inr hH,hr⟩,fun s hs j hj => ?_,fun j hj=>(hp j hj).2⟩
 by_cases hst:s<t
 ·exact h.fit s hst j hj
 ·obtain rfl:s=t:=by omega
  exact hp j hj
theorem zmD (hk:zad k)(n m g0 off c0:Nat)(row f:Nat→El k)(R:Nat→Nat→El k)(fv Rv:Value)(rs:Nat→Value)(w:World)(hm:m≤10000)(hn:n≤10000)
  (hrow:zam w g0 off m (txs row)) (hc1:m≤c0) (hc2:c0≤maxLen) (hf:RowR w fv n (txs f)) (hff:∀ j,j<n→FitE (f j)) (hrf:∀ j,j<m→FitE (row j))
  (hR:RowR w Rv n rs) (hRs:∀ i,i<n→RowR w (rs i) m (txs (R i))) (hRf:∀ i,i<n→∀ j,j<m→FitE (R i j)) :
  Calls Tryz.prog 82 #[calV k,.slice (some ⟨g0,off,none⟩) m c0,fv,Rv] w (zGh hk n m row f R g0 w):=by
 have hmf:∀ (fn:Fn) (first cap:Array Value) (w:World),(Instr.makeFunc fn first cap).run Tryz.prog w = .ok (.func fn first cap) w:=fun _ _ _ _=>rfl;obtain⟨Af,cf,rfl,hf1,hf2,hf3⟩:=hf;obtain⟨AR,cR,rfl,hR1,hR2,hR3⟩:=hR
 have hcomb:=fun(t:Nat) (ht:t<n) (g o c:Nat) (w1:World) (hw:w.grownBy w1 none) (h1:m≤c) (h2:c≤maxLen) (hrw:zam w1 g o m (txs (zaN (srE k hk) row f R t))) (hfit:∀ j,j<m→FitE (zaN (srE k hk) row f R t j)) =>
  zjM 135 zkF #[facV k (tx (f t))] #[] m m (txs (zaN (srE k hk) row f R t)) (txs (R t)) (fun j=>FitE ((srE k hk).mul (f t) (R t j))∧FitE (zaN (srE k hk) row f R (t+1) j)) (fun j=>tx (zaN (srE k hk) row f R (t+1) j))
   (.slice (some ⟨g,o,none⟩) m c) (rs t) w1 hm (hrw.row h1 h2) ((hRs t ht).grown hw) (Nat.le_refl m) (fun i hi w' _=>by
    have h:=znY hk (hff t ht) (hRf t ht i hi) (hfit i hi) w';rw[zmf] at h;exact h)
 have HC:=zHd hcomb;have HF:=zHd hf3;have HR:=zHd hR3;have HFF:=zHd hff;have HN:=zHd hn
 have h0:zgo hk n m row f R g0 w 0 (.slice (some ⟨g0,off,none⟩) m c0) w:=⟨Nat.zero_le _,zah _ _,⟨g0,off,c0,rfl,hc1,hc2,.inl rfl,by
  have e:zaN (srE k hk) row f R 0=row:=funext fun j=>zij _ _ _ _ _;rw[e];exact hrow⟩,fun t ht=>absurd ht (by omega),fun j hj=>by rw[zij];exact hrf j hj⟩
 have H0:=zHd h0;clear hcomb hf1 hf2 hf3 hR1 hR2 hR3 hff hrf hRs hRf hrow hc1 hc2 hm hn h0;unfold calV;go_enter Tryz.func82,Tryz.ntmps82;go_wp2;have x0:=zak w #[.int .i64 k,.string (zaf k),.string (oneT k)] 64 (j:=0) rfl;have x1:=zak w #[.int .i64 k,.string (zaf k),.string (oneT k)] 64 (j:=1) rfl;have x2:=zak w #[.int .i64 k,.string (zaf k),.string (oneT k)] 64 (j:=2) rfl;have hW:w.grownBy (w.alloc (.cells #[.int .i64 k,.string (zaf k),.string (oneT k)] 64)) none:=zGA _ _ none;have hbs:w.heap.size<(w.alloc (.cells #[.int .i64 k,.string (zaf k),.string (oneT k)] 64)).heap.size:=by simp
 generalize w.alloc (.cells #[.int .i64 k,.string (zaf k),.string (oneT k)] 64)=W at *;have HX:=zHd (zAI x0 (zAI x1 (zAI x2 (zAI hW hbs))));clear x0 x1 x2 hW hbs
 go_loopw [1,13] (fun rv iv wr=>∃ t:Nat,iv = .int .i64 (t:Int)∧zgo hk n m row f R g0 w t rv wr∧W.grownBy wr none) (fun _ iv _=>n - (intOf iv).toNat)
 case atStart=>exact⟨0,rfl,⟨H0.out.le,HX.out.2.2.2.1,by
  obtain⟨g,o,c,h1,h2,h3,h4,h5⟩:=H0.out.rv;exact⟨g,o,c,h1,h2,h3,h4,h5.grown HX.out.2.2.2.1⟩,H0.out.fit,H0.out.now⟩,zah _ _⟩
 case round =>
  obtain⟨t,rfl,hinv,hWr⟩:=hrel
  by_cases ht:t<n
  ·obtain⟨adf,rfl,hbf,hcf⟩:=HF.out t ht
   obtain⟨adR,rfl,hbR,hcR⟩:=HR.out t ht;have cf1:wr.cell? (adf.add t)=some (.string (tx (f t))):=(zaq (ad:=adf.add t) (by rw[zaj];exact hinv.gr.block adf.block hbf (by simp))).trans hcf;have cR1:wr.cell? (adR.add t)=some (rs t):=(zaq (ad:=adR.add t) (by rw[zaj];exact hinv.gr.block adR.block hbR (by simp))).trans hcR;obtain⟨x0,x1,x2,hW,hbs⟩:=HX.out;have y0:=hWr.cell x0 (by simp);have y1:=hWr.cell x1 (by simp);have y2:=hWr.cell x2 (by simp);obtain⟨g,o,c,rfl,hmc,hcm,hgg,hrw⟩:=hinv.rv;have t1:decide (t<n)=true:=by simpa using ht
   have t1':decide ((t:Int)<(n:Int))=true:=by simpa using ht
   have hit:(t:Int)<(n:Int):=by omega
   have n1:IntKind.i64.wrap ((t:Int)+1)=(t:Int)+1:=by have:=HN.out;rw[IntKind.wrap_i64];omega
   have HI:=zHd hinv;have HRW:=zHd (zAI hmc (zAI hcm hrw));have HT:=zHd (zAI ht hWr);clear hinv hmc hcm hgg hrw ht hWr hbf hcf hbR hcR x0 x1 x2 hW hbs;rcases zcU (tx (f t)) (zaf k) with⟨f1,e1⟩|⟨f1,e1⟩
   ·have f2:((tx (f t)).toList != (zaf k).toList)=false:=by simp[bne,f1]
    have hz:=zfq hk (HFF.out t HT.out.1) e1;have HZ:=zHd hz;clear hz e1;go_wp2;exact⟨⟨t+1,by simp,HI.out.skip HT.out.1 HZ.out,HT.out.2⟩,by have:=HT.out.1;simp[intOf];omega⟩
   ·have f2:((tx (f t)).toList != (zaf k).toList)=true:=by simp[bne,f1]
    clear e1;go_upto_region 5 with(fail)
    have hcall:=HC.out t HT.out.1 g o c wr.drew (zaa HI.out.gr (zae wr none)) HRW.out.1 HRW.out.2.1 (HRW.out.2.2.grown (zae wr none)) HI.out.now;unfold facV at hcall;have cRd:wr.drew.cell? (adR.add t)=some (rs t):=cR1;have yd0:wr.drew.cell? ⟨w.heap.size,0,none⟩=some (.int .i64 k):=y0;have yd1:wr.drew.cell? ⟨w.heap.size,1,none⟩=some (.string (zaf k)):=y1;have yd2:wr.drew.cell? ⟨w.heap.size,2,none⟩=some (.string (oneT k)):=y2;have hHs:w.heap.size≤wr.drew.heap.size:=HI.out.gr.size;have hgd:w.grownBy wr.drew none:=zaa HI.out.gr (zae wr none);have hWd:W.grownBy wr.drew none:=zaa HT.out.2 (zae wr none);have hgdd:wr.grownBy wr.drew none:=zae wr none;have HCALL:=zHd hcall;have HD:=zHd (zAI hHs (zAI hgd (zAI hWd hgdd)));clear hcall hHs hgd hWd hgdd
    go_region_with (go_at_call 86;refine HCALL.out.mono ?_;rintro e w6 (⟨hp,v,rfl,⟨rfl,hr6⟩,hg6⟩|⟨hn,rfl,hg6⟩);rotate_left 1;(go_wp2;exact⟨rfl,.inr ⟨fun h=>hn (fun i hi=>h t HT.out.1 i hi),rfl,zaa HD.out.2.1 hg6⟩⟩);have HP6:=zHd (zAI hp (zAI hr6 hg6));clear hp hr6 hg6)
    all_goals
     go_wp2;obtain⟨hp,hr6,hg6⟩:=HP6.out;exact⟨⟨t+1,by simp,HI.out.next HT.out.1 (Nat.le_trans HRW.out.1 HRW.out.2.1) hp HD.out.1 hr6 (zaa HD.out.2.2.2 hg6),zaa HD.out.2.2.1 hg6⟩,by have:=HT.out.1;simp[intOf];omega⟩
  ·have hte:t=n:=by have:=hinv.le;omega
   subst hte;have t1:decide (t<t)=false:=by simp
   have t1':decide ((t:Int)<(t:Int))=false:=by simp
   obtain⟨g,o,c,rfl,hmc,hcm,hgg,hrw⟩:=hinv.rv;have HI:=zHd hinv;have HRW:=zHd (zAI hmc (zAI hcm (zAI hgg hrw)));clear hinv hmc hcm hgg hrw ht;go_wp2;go_ret;obtain⟨hmc,hcm,hgg,hrw⟩:=HRW.out;exact .inl ⟨HI.out.fit,_,rfl,⟨g,o,c,rfl,hmc,hcm,hgg,hrw⟩,HI.out.gr⟩
end
end Go.Proofs.YtaogepcaoogpgaaGreatDoor
