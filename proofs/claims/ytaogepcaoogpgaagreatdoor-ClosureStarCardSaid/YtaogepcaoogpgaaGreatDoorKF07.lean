/- Part. -/
import Derived.Test.YtaogepcaoogpgaaGreatDoorKF06
set_option linter.unusedVariables false
set_option linter.unusedSimpArgs false
set_option maxRecDepth 100000
set_option maxHeartbeats 16000000
namespace Go.Proofs.YtaogepcaoogpgaaGreatDoor
open Go.RowKit
open Go.Lib (nDigits decDigits)
theorem zrr (s:ByteArray)(k:Nat)(hk:k<s.size):s.data.toList[k]?=some s[k]:=Lib.data_getElem? s k hk
theorem zzR (s:ByteArray)(w:World)(hs:s.size<=maxLen) :
  Calls Tryz.prog 172 #[.string s,.int .u8 47] w fun e w'=>e=.returned (.int .i64 (Lib.indexByte s.data.toList 47))/\w=w':=by
 unfold maxLen at hs;go_enter Tryz.func172,Tryz.ntmps172;go_wp2
 go_loop [5] (fun i=>∃ k:Nat,i=.int .i64 k/\k<=s.size/\Lib.NoAny s.data.toList [47] k) (fun i=>s.size-(intOf i).toNat)
 case atStart=>exact⟨0,rfl,by omega,Lib.NoAny.zero _ _⟩
 case round =>
  obtain⟨k,rfl,hk,hno⟩:=hrel;have HNO:=zHd hno;clear hno
  by_cases hlt:k<s.size
  ·have hat:=zHd (zrr s k hlt)
   cases he:((s[k].toNat:Int)==47)
   ·have hx:¬ (s[k].toNat:Int)=47:=by simpa using he
    have hc:([47]:List UInt8).contains s[k]=false:=by
     simp only[List.contains_cons,List.contains_nil,Bool.or_false,beq_eq_false_iff_ne];intro e;rw[e] at hx;exact hx rfl
    have HS:=zHd (HNO.out.succ hat.out hc);clear hx hc;go_wp2;go_round
    case rel=>exact⟨k+1,by go_num,by omega,HS.out⟩
    case measure=>simp[intOf];omega
   ·have hx:(s[k].toNat:Int)=47:=by simpa using he
    have hc:([47]:List UInt8).contains s[k]=true:=by
     have:s[k]=47:=UInt8.toNat_inj.1 (by have:(47:UInt8).toNat=47:=rfl;omega);rw[this];decide
    have HS:=zHd (Lib.indexAny_hit HNO.out hat.out hc);clear hx hc;go_wp2;go_ret;exact⟨by rw[<- Lib.indexAny_one,HS.out];rfl,rfl⟩
  ·have HS:=zHd (Lib.indexAny_none (s:=s.data.toList) (chars:=[47]) (by
    have e:k=s.data.toList.length:=(by rw[<- Lib.size_eq];omega);rw[<- e];exact HNO.out))
   go_wp2;go_ret;exact⟨by rw[<- Lib.indexAny_one,HS.out];rfl,rfl⟩
def zdK (s:ByteArray):Bool:=decide (s.size<=400)&&zan s
theorem zjE (s:ByteArray)(w:World)(hs:s.size<=maxLen) :
  Calls Tryz.prog 173 #[.string s] w fun e w'=>e=.returned (.bool (zdK s))/\w=w':=by
 have hv:=fun w=>zas s w hs
 by_cases h:s.size<=400
 ·have HN:=zHd (show zdK s=zan s by unfold zdK;simp[h])
  have h1:(s.size:Int)<=400:=by omega
  generalize zan s=b at *;have HV:=zHd hv;clear hv;go_enter Tryz.func173,Tryz.ntmps173;go_wp2_with fail;refine(HV.out _).mono ?_;rintro e w' ⟨rfl,rfl⟩;go_wp2;go_ret;exact⟨by rw[HN.out];rfl,rfl⟩
 ·have HN:=zHd (show zdK s=false by unfold zdK;simp[h])
  have h1:¬ (s.size:Int)<=400:=by omega
  clear hv;go_enter Tryz.func173,Tryz.ntmps173;go_wp2;go_ret;exact⟨by rw[HN.out];rfl,rfl⟩
theorem zxe (A C P:ByteArray)(w:World)(M:Hid (∀ w,Calls Tryz.prog 178 #[.string A,.string C] w (zab (.tuple #[.string P,.int .i64 0]) w))) :
  Calls Tryz.prog 139 #[.string A,.string C] w (zab (.string P) w):=by
 go_enter Tryz.func139,Tryz.ntmps139;go_wp2_with fail;refine(M.out _).mono ?_;rintro e w1 ⟨rfl,hg⟩;have G1:=zHd hg;clear hg;go_wp2;go_ret;exact⟨rfl,G1.out⟩
open Go.RowKit
open Go.Lib (nDigits decDigits)
def zcQ (R:ByteArray)(z:Int):Prop:=∀ w,Calls Tryz.prog 172 #[.string R,.int .u8 47] w fun e w'=>e=.returned (.int .i64 z)/\w=w'
def zbd (s:ByteArray)(b:Bool):Prop:=∀ w,Calls Tryz.prog 173 #[.string s] w fun e w'=>e=.returned (.bool b)/\w=w'
def zgn (n d G:ByteArray):Prop:=∀ w,Calls Tryz.prog 174 #[.string n,.string d] w (zab (.tuple #[.string G,.int .i64 0]) w)
theorem zrs (a R G:ByteArray)(w:World)(h0:¬ (0:Int)<(a.size:Int))(eR:a=R)
  (IX:Hid (zcQ R (-1))) (S1:Hid (zbd R false)) :
  Calls Tryz.prog 137 #[.string a] w (zab (.tuple #[.bool false,.string ⟨#[]⟩,.string ⟨#[]⟩,.bool false]) w):=by
 subst eR;go_enter Tryz.func137,Tryz.ntmps137;go_wp2_with fail;refine(IX.out _).mono ?_;rintro e w' ⟨rfl,rfl⟩;go_wp2_with fail;refine(S1.out _).mono ?_;rintro e w' ⟨rfl,rfl⟩;go_wp2;exact zqby (v:=.tuple #[.bool _,.string _,.string _,.bool _]) (by simp[results,Tryz.results137,go_sem]) rfl ⟨rfl,zaf _ _⟩
theorem zrt (a R G:ByteArray)(w:World)(h0:(0:Int)<(a.size:Int))(hp:0<a.size)(h1:(((a[0]'hp).toNat:Int)==45)=false)(eR:a=R)
  (IX:Hid (zcQ R (-1))) (S1:Hid (zbd R false)) :
  Calls Tryz.prog 137 #[.string a] w (zab (.tuple #[.bool false,.string ⟨#[]⟩,.string ⟨#[]⟩,.bool false]) w):=by
 subst eR;go_enter Tryz.func137,Tryz.ntmps137;go_wp2_with fail;refine(IX.out _).mono ?_;rintro e w' ⟨rfl,rfl⟩;go_wp2_with fail;refine(S1.out _).mono ?_;rintro e w' ⟨rfl,rfl⟩;go_wp2;exact zqby (v:=.tuple #[.bool _,.string _,.string _,.bool _]) (by simp[results,Tryz.results137,go_sem]) rfl ⟨rfl,zaf _ _⟩
theorem zru (a R G:ByteArray)(w:World)(h0:(0:Int)<(a.size:Int))(hp:0<a.size)(h1:(((a[0]'hp).toNat:Int)==45)=true)(hle:(1:Int)<=(a.size:Int))(eR:a.extract 1 a.size=R)
  (IX:Hid (zcQ R (-1))) (S1:Hid (zbd R false)) :
  Calls Tryz.prog 137 #[.string a] w (zab (.tuple #[.bool false,.string ⟨#[]⟩,.string ⟨#[]⟩,.bool false]) w):=by
 go_enter Tryz.func137,Tryz.ntmps137;go_wp2_with fail;refine(IX.out _).mono ?_;rintro e w' ⟨rfl,rfl⟩;go_wp2_with fail;refine(S1.out _).mono ?_;rintro e w' ⟨rfl,rfl⟩;go_wp2;exact zqby (v:=.tuple #[.bool _,.string _,.string _,.bool _]) (by simp[results,Tryz.results137,go_sem]) rfl ⟨rfl,zaf _ _⟩
theorem zpV (a R G:ByteArray)(w:World)(h0:(0:Int)<(a.size:Int))(hp:0<a.size)(h1:(((a[0]'hp).toNat:Int)==45)=false)(eR:a=R)
  (IX:Hid (zcQ R (-1))) (S1:Hid (zbd R true)) (S2:Hid (zbd ⟨#[49]⟩ true)) (z1:(R.toList==[48])=true) (GC:Hid (zgn R ⟨#[49]⟩ G)) (q1:(G.toList==[49])=true) (q2:(G.toList != [49])=false) :
  Calls Tryz.prog 137 #[.string a] w (zab (.tuple #[.bool false,.string R,.string ⟨#[49]⟩,.bool true]) w):=by
 subst eR;go_enter Tryz.func137,Tryz.ntmps137;go_wp2_with fail;refine(IX.out _).mono ?_;rintro e w' ⟨rfl,rfl⟩;go_wp2_with fail;refine(S1.out _).mono ?_;rintro e w' ⟨rfl,rfl⟩;go_wp2_with fail;refine(S2.out _).mono ?_;rintro e w' ⟨rfl,rfl⟩;go_wp2_with fail;refine(GC.out _).mono ?_;rintro e w1 ⟨rfl,hg⟩;have G1:=zHd hg;clear hg;go_wp2;exact zqby (v:=.tuple #[.bool _,.string _,.string _,.bool _]) (by simp[results,Tryz.results137,go_sem]) rfl ⟨rfl,G1.out⟩
theorem zpW (a R G:ByteArray)(w:World)(h0:(0:Int)<(a.size:Int))(hp:0<a.size)(h1:(((a[0]'hp).toNat:Int)==45)=false)(eR:a=R)
  (IX:Hid (zcQ R (-1))) (S1:Hid (zbd R true)) (S2:Hid (zbd ⟨#[49]⟩ true)) (z1:(R.toList==[48])=false) (GC:Hid (zgn R ⟨#[49]⟩ G)) (q1:(G.toList==[49])=true) (q2:(G.toList != [49])=false) :
  Calls Tryz.prog 137 #[.string a] w (zab (.tuple #[.bool false,.string R,.string ⟨#[49]⟩,.bool true]) w):=by
 subst eR;go_enter Tryz.func137,Tryz.ntmps137;go_wp2_with fail;refine(IX.out _).mono ?_;rintro e w' ⟨rfl,rfl⟩;go_wp2_with fail;refine(S1.out _).mono ?_;rintro e w' ⟨rfl,rfl⟩;go_wp2_with fail;refine(S2.out _).mono ?_;rintro e w' ⟨rfl,rfl⟩;go_wp2_with fail;refine(GC.out _).mono ?_;rintro e w1 ⟨rfl,hg⟩;have G1:=zHd hg;clear hg;go_wp2;exact zqby (v:=.tuple #[.bool _,.string _,.string _,.bool _]) (by simp[results,Tryz.results137,go_sem]) rfl ⟨rfl,G1.out⟩
theorem zrv (a R G:ByteArray)(w:World)(h0:(0:Int)<(a.size:Int))(hp:0<a.size)(h1:(((a[0]'hp).toNat:Int)==45)=true)(hle:(1:Int)<=(a.size:Int))(eR:a.extract 1 a.size=R)
  (IX:Hid (zcQ R (-1))) (S1:Hid (zbd R true)) (S2:Hid (zbd ⟨#[49]⟩ true)) (z1:(R.toList==[48])=true) :
  Calls Tryz.prog 137 #[.string a] w (zab (.tuple #[.bool false,.string ⟨#[]⟩,.string ⟨#[]⟩,.bool false]) w):=by
 go_enter Tryz.func137,Tryz.ntmps137;go_wp2_with fail;refine(IX.out _).mono ?_;rintro e w' ⟨rfl,rfl⟩;go_wp2_with fail;refine(S1.out _).mono ?_;rintro e w' ⟨rfl,rfl⟩;go_wp2_with fail;refine(S2.out _).mono ?_;rintro e w' ⟨rfl,rfl⟩;go_wp2;exact zqby (v:=.tuple #[.bool _,.string _,.string _,.bool _]) (by simp[results,Tryz.results137,go_sem]) rfl ⟨rfl,zaf _ _⟩
theorem zpX (a R G:ByteArray)(w:World)(h0:(0:Int)<(a.size:Int))(hp:0<a.size)(h1:(((a[0]'hp).toNat:Int)==45)=true)(hle:(1:Int)<=(a.size:Int))(eR:a.extract 1 a.size=R)
  (IX:Hid (zcQ R (-1))) (S1:Hid (zbd R true)) (S2:Hid (zbd ⟨#[49]⟩ true)) (z1:(R.toList==[48])=false) (GC:Hid (zgn R ⟨#[49]⟩ G)) (q1:(G.toList==[49])=true) (q2:(G.toList != [49])=false) :
  Calls Tryz.prog 137 #[.string a] w (zab (.tuple #[.bool true,.string R,.string ⟨#[49]⟩,.bool true]) w):=by
 go_enter Tryz.func137,Tryz.ntmps137;go_wp2_with fail;refine(IX.out _).mono ?_;rintro e w' ⟨rfl,rfl⟩;go_wp2_with fail;refine(S1.out _).mono ?_;rintro e w' ⟨rfl,rfl⟩;go_wp2_with fail;refine(S2.out _).mono ?_;rintro e w' ⟨rfl,rfl⟩;go_wp2_with fail;refine(GC.out _).mono ?_;rintro e w1 ⟨rfl,hg⟩;have G1:=zHd hg;clear hg;go_wp2;exact zqby (v:=.tuple #[.bool _,.string _,.string _,.bool _]) (by simp[results,Tryz.results137,go_sem]) rfl ⟨rfl,G1.out⟩
theorem zrw (a R n d G:ByteArray)(i:Nat)(w:World)(h0:(0:Int)<(a.size:Int))(hp:0<a.size)(h1:(((a[0]'hp).toNat:Int)==45)=false)(eR:a=R)
  (hi:i<R.size) (hR:R.size<=9223372036854775807) (IX:Hid (zcQ R i)) (eN:R.extract 0 i=n) (eD:R.extract (i+1) R.size=d) (S1:Hid (zbd n false)) :
  Calls Tryz.prog 137 #[.string a] w (zab (.tuple #[.bool false,.string ⟨#[]⟩,.string ⟨#[]⟩,.bool false]) w):=by
 have c1:(0:Int)<=(i:Int):=by omega
 have c2:(i:Int)<=(R.size:Int):=by omega
 have c3:(0:Int)<=(i:Int)+1:=by omega
 have c4:(i:Int)+1<=(R.size:Int):=by omega
 subst eR;go_enter Tryz.func137,Tryz.ntmps137;go_wp2_with fail;refine(IX.out _).mono ?_;rintro e w' ⟨rfl,rfl⟩;go_wp2_with fail;refine(S1.out _).mono ?_;rintro e w' ⟨rfl,rfl⟩;go_wp2;exact zqby (v:=.tuple #[.bool _,.string _,.string _,.bool _]) (by simp[results,Tryz.results137,go_sem]) rfl ⟨rfl,zaf _ _⟩
theorem zrx (a R n d G:ByteArray)(i:Nat)(w:World)(h0:(0:Int)<(a.size:Int))(hp:0<a.size)(h1:(((a[0]'hp).toNat:Int)==45)=false)(eR:a=R)
  (hi:i<R.size) (hR:R.size<=9223372036854775807) (IX:Hid (zcQ R i)) (eN:R.extract 0 i=n) (eD:R.extract (i+1) R.size=d) (S1:Hid (zbd n true)) (S2:Hid (zbd d false)) :
  Calls Tryz.prog 137 #[.string a] w (zab (.tuple #[.bool false,.string ⟨#[]⟩,.string ⟨#[]⟩,.bool false]) w):=by
 have c1:(0:Int)<=(i:Int):=by omega
 have c2:(i:Int)<=(R.size:Int):=by omega
 have c3:(0:Int)<=(i:Int)+1:=by omega
 have c4:(i:Int)+1<=(R.size:Int):=by omega
 subst eR;go_enter Tryz.func137,Tryz.ntmps137;go_wp2_with fail;refine(IX.out _).mono ?_;rintro e w' ⟨rfl,rfl⟩;go_wp2_with fail;refine(S1.out _).mono ?_;rintro e w' ⟨rfl,rfl⟩;go_wp2_with fail;refine(S2.out _).mono ?_;rintro e w' ⟨rfl,rfl⟩;go_wp2;exact zqby (v:=.tuple #[.bool _,.string _,.string _,.bool _]) (by simp[results,Tryz.results137,go_sem]) rfl ⟨rfl,zaf _ _⟩
theorem zry (a R n d G:ByteArray)(i:Nat)(w:World)(h0:(0:Int)<(a.size:Int))(hp:0<a.size)(h1:(((a[0]'hp).toNat:Int)==45)=false)(eR:a=R)
  (hi:i<R.size) (hR:R.size<=9223372036854775807) (IX:Hid (zcQ R i)) (eN:R.extract 0 i=n) (eD:R.extract (i+1) R.size=d) (S1:Hid (zbd n true)) (S2:Hid (zbd d true)) (z2:(d.toList==[48])=true) :
  Calls Tryz.prog 137 #[.string a] w (zab (.tuple #[.bool false,.string ⟨#[]⟩,.string ⟨#[]⟩,.bool false]) w):=by
 have c1:(0:Int)<=(i:Int):=by omega
 have c2:(i:Int)<=(R.size:Int):=by omega
 have c3:(0:Int)<=(i:Int)+1:=by omega
 have c4:(i:Int)+1<=(R.size:Int):=by omega
 subst eR;go_enter Tryz.func137,Tryz.ntmps137;go_wp2_with fail;refine(IX.out _).mono ?_;rintro e w' ⟨rfl,rfl⟩;go_wp2_with fail;refine(S1.out _).mono ?_;rintro e w' ⟨rfl,rfl⟩;go_wp2_with fail;refine(S2.out _).mono ?_;rintro e w' ⟨rfl,rfl⟩;go_wp2;exact zqby (v:=.tuple #[.bool _,.string _,.string _,.bool _]) (by simp[results,Tryz.results137,go_sem]) rfl ⟨rfl,zaf _ _⟩
theorem zrz (a R n d G:ByteArray)(i:Nat)(w:World)(h0:(0:Int)<(a.size:Int))(hp:0<a.size)(h1:(((a[0]'hp).toNat:Int)==45)=false)(eR:a=R)
  (hi:i<R.size) (hR:R.size<=9223372036854775807) (IX:Hid (zcQ R i)) (eN:R.extract 0 i=n) (eD:R.extract (i+1) R.size=d) (S1:Hid (zbd n true)) (S2:Hid (zbd d true)) (z2:(d.toList==[48])=false) (z1:(n.toList==[48])=true) :
  Calls Tryz.prog 137 #[.string a] w (zab (.tuple #[.bool false,.string ⟨#[]⟩,.string ⟨#[]⟩,.bool false]) w):=by
 have c1:(0:Int)<=(i:Int):=by omega
 have c2:(i:Int)<=(R.size:Int):=by omega
 have c3:(0:Int)<=(i:Int)+1:=by omega
 have c4:(i:Int)+1<=(R.size:Int):=by omega
 subst eR;go_enter Tryz.func137,Tryz.ntmps137;go_wp2_with fail;refine(IX.out _).mono ?_;rintro e w' ⟨rfl,rfl⟩;go_wp2_with fail;refine(S1.out _).mono ?_;rintro e w' ⟨rfl,rfl⟩;go_wp2_with fail;refine(S2.out _).mono ?_;rintro e w' ⟨rfl,rfl⟩;go_wp2;exact zqby (v:=.tuple #[.bool _,.string _,.string _,.bool _]) (by simp[results,Tryz.results137,go_sem]) rfl ⟨rfl,zaf _ _⟩
theorem zrA (a R n d G:ByteArray)(i:Nat)(w:World)(h0:(0:Int)<(a.size:Int))(hp:0<a.size)(h1:(((a[0]'hp).toNat:Int)==45)=false)(eR:a=R)
  (hi:i<R.size) (hR:R.size<=9223372036854775807) (IX:Hid (zcQ R i)) (eN:R.extract 0 i=n) (eD:R.extract (i+1) R.size=d) (S1:Hid (zbd n true)) (S2:Hid (zbd d true)) (z2:(d.toList==[48])=false) (z1:(n.toList==[48])=false) (o2:(d.toList==[49])=true) :
  Calls Tryz.prog 137 #[.string a] w (zab (.tuple #[.bool false,.string ⟨#[]⟩,.string ⟨#[]⟩,.bool false]) w):=by
 have c1:(0:Int)<=(i:Int):=by omega
 have c2:(i:Int)<=(R.size:Int):=by omega
 have c3:(0:Int)<=(i:Int)+1:=by omega
 have c4:(i:Int)+1<=(R.size:Int):=by omega
 subst eR;go_enter Tryz.func137,Tryz.ntmps137;go_wp2_with fail;refine(IX.out _).mono ?_;rintro e w' ⟨rfl,rfl⟩;go_wp2_with fail;refine(S1.out _).mono ?_;rintro e w' ⟨rfl,rfl⟩;go_wp2_with fail;refine(S2.out _).mono ?_;rintro e w' ⟨rfl,rfl⟩;go_wp2;exact zqby (v:=.tuple #[.bool _,.string _,.string _,.bool _]) (by simp[results,Tryz.results137,go_sem]) rfl ⟨rfl,zaf _ _⟩
theorem zrB (a R n d G:ByteArray)(i:Nat)(w:World)(h0:(0:Int)<(a.size:Int))(hp:0<a.size)(h1:(((a[0]'hp).toNat:Int)==45)=false)(eR:a=R)
  (hi:i<R.size) (hR:R.size<=9223372036854775807) (IX:Hid (zcQ R i)) (eN:R.extract 0 i=n) (eD:R.extract (i+1) R.size=d) (S1:Hid (zbd n true)) (S2:Hid (zbd d true)) (z2:(d.toList==[48])=false) (z1:(n.toList==[48])=false) (o2:(d.toList==[49])=false) (o3:(d.toList != [49])=true) (GC:Hid (zgn n d G)) (q1:(G.toList==[49])=false) (q2:(G.toList != [49])=true) :
  Calls Tryz.prog 137 #[.string a] w (zab (.tuple #[.bool false,.string ⟨#[]⟩,.string ⟨#[]⟩,.bool false]) w):=by
 have c1:(0:Int)<=(i:Int):=by omega
 have c2:(i:Int)<=(R.size:Int):=by omega
 have c3:(0:Int)<=(i:Int)+1:=by omega
 have c4:(i:Int)+1<=(R.size:Int):=by omega
 subst eR;go_enter Tryz.func137,Tryz.ntmps137;go_wp2_with fail;refine(IX.out _).mono ?_;rintro e w' ⟨rfl,rfl⟩;go_wp2_with fail;refine(S1.out _).mono ?_;rintro e w' ⟨rfl,rfl⟩;go_wp2_with fail;refine(S2.out _).mono ?_;rintro e w' ⟨rfl,rfl⟩;go_wp2_with fail;refine(GC.out _).mono ?_;rintro e w1 ⟨rfl,hg⟩;have G1:=zHd hg;clear hg;go_wp2;exact zqby (v:=.tuple #[.bool _,.string _,.string _,.bool _]) (by simp[results,Tryz.results137,go_sem]) rfl ⟨rfl,G1.out⟩
theorem zrC (a R n d G:ByteArray)(i:Nat)(w:World)(h0:(0:Int)<(a.size:Int))(hp:0<a.size)(h1:(((a[0]'hp).toNat:Int)==45)=false)(eR:a=R)
  (hi:i<R.size) (hR:R.size<=9223372036854775807) (IX:Hid (zcQ R i)) (eN:R.extract 0 i=n) (eD:R.extract (i+1) R.size=d) (S1:Hid (zbd n true)) (S2:Hid (zbd d true)) (z2:(d.toList==[48])=false) (z1:(n.toList==[48])=false) (o2:(d.toList==[49])=false) (o3:(d.toList != [49])=true) (GC:Hid (zgn n d G)) (q1:(G.toList==[49])=true) (q2:(G.toList != [49])=false) :
  Calls Tryz.prog 137 #[.string a] w (zab (.tuple #[.bool false,.string n,.string d,.bool true]) w):=by
 have c1:(0:Int)<=(i:Int):=by omega
 have c2:(i:Int)<=(R.size:Int):=by omega
 have c3:(0:Int)<=(i:Int)+1:=by omega
 have c4:(i:Int)+1<=(R.size:Int):=by omega
 subst eR;go_enter Tryz.func137,Tryz.ntmps137;go_wp2_with fail;refine(IX.out _).mono ?_;rintro e w' ⟨rfl,rfl⟩;go_wp2_with fail;refine(S1.out _).mono ?_;rintro e w' ⟨rfl,rfl⟩;go_wp2_with fail;refine(S2.out _).mono ?_;rintro e w' ⟨rfl,rfl⟩;go_wp2_with fail;refine(GC.out _).mono ?_;rintro e w1 ⟨rfl,hg⟩;have G1:=zHd hg;clear hg;go_wp2;exact zqby (v:=.tuple #[.bool _,.string _,.string _,.bool _]) (by simp[results,Tryz.results137,go_sem]) rfl ⟨rfl,G1.out⟩
theorem zrD (a R n d G:ByteArray)(i:Nat)(w:World)(h0:(0:Int)<(a.size:Int))(hp:0<a.size)(h1:(((a[0]'hp).toNat:Int)==45)=true)(hle:(1:Int)<=(a.size:Int))(eR:a.extract 1 a.size=R)
  (hi:i<R.size) (hR:R.size<=9223372036854775807) (IX:Hid (zcQ R i)) (eN:R.extract 0 i=n) (eD:R.extract (i+1) R.size=d) (S1:Hid (zbd n false)) :
  Calls Tryz.prog 137 #[.string a] w (zab (.tuple #[.bool false,.string ⟨#[]⟩,.string ⟨#[]⟩,.bool false]) w):=by
 have c1:(0:Int)<=(i:Int):=by omega
 have c2:(i:Int)<=(R.size:Int):=by omega
 have c3:(0:Int)<=(i:Int)+1:=by omega
 have c4:(i:Int)+1<=(R.size:Int):=by omega
 go_enter Tryz.func137,Tryz.ntmps137;go_wp2_with fail;refine(IX.out _).mono ?_;rintro e w' ⟨rfl,rfl⟩;go_wp2_with fail;refine(S1.out _).mono ?_;rintro e w' ⟨rfl,rfl⟩;go_wp2;exact zqby (v:=.tuple #[.bool _,.string _,.string _,.bool _]) (by simp[results,Tryz.results137,go_sem]) rfl ⟨rfl,zaf _ _⟩
theorem zrE (a R n d G:ByteArray)(i:Nat)(w:World)(h0:(0:Int)<(a.size:Int))(hp:0<a.size)(h1:(((a[0]'hp).toNat:Int)==45)=true)(hle:(1:Int)<=(a.size:Int))(eR:a.extract 1 a.size=R)
  (hi:i<R.size) (hR:R.size<=9223372036854775807) (IX:Hid (zcQ R i)) (eN:R.extract 0 i=n) (eD:R.extract (i+1) R.size=d) (S1:Hid (zbd n true)) (S2:Hid (zbd d false)) :
  Calls Tryz.prog 137 #[.string a] w (zab (.tuple #[.bool false,.string ⟨#[]⟩,.string ⟨#[]⟩,.bool false]) w):=by
 have c1:(0:Int)<=(i:Int):=by omega
 have c2:(i:Int)<=(R.size:Int):=by omega
 have c3:(0:Int)<=(i:Int)+1:=by omega
 have c4:(i:Int)+1<=(R.size:Int):=by omega
 go_enter Tryz.func137,Tryz.ntmps137;go_wp2_with fail;refine(IX.out _).mono ?_;rintro e w' ⟨rfl,rfl⟩;go_wp2_with fail;refine(S1.out _).mono ?_;rintro e w' ⟨rfl,rfl⟩;go_wp2_with fail;refine(S2.out _).mono ?_;rintro e w' ⟨rfl,rfl⟩;go_wp2;exact zqby (v:=.tuple #[.bool _,.string _,.string _,.bool _]) (by simp[results,Tryz.results137,go_sem]) rfl ⟨rfl,zaf _ _⟩
theorem zrF (a R n d G:ByteArray)(i:Nat)(w:World)(h0:(0:Int)<(a.size:Int))(hp:0<a.size)(h1:(((a[0]'hp).toNat:Int)==45)=true)(hle:(1:Int)<=(a.size:Int))(eR:a.extract 1 a.size=R)
  (hi:i<R.size) (hR:R.size<=9223372036854775807) (IX:Hid (zcQ R i)) (eN:R.extract 0 i=n) (eD:R.extract (i+1) R.size=d) (S1:Hid (zbd n true)) (S2:Hid (zbd d true)) (z2:(d.toList==[48])=true) :
  Calls Tryz.prog 137 #[.string a] w (zab (.tuple #[.bool false,.string ⟨#[]⟩,.string ⟨#[]⟩,.bool false]) w):=by
 have c1:(0:Int)<=(i:Int):=by omega
 have c2:(i:Int)<=(R.size:Int):=by omega
 have c3:(0:Int)<=(i:Int)+1:=by omega
 have c4:(i:Int)+1<=(R.size:Int):=by omega
 go_enter Tryz.func137,Tryz.ntmps137;go_wp2_with fail;refine(IX.out _).mono ?_;rintro e w' ⟨rfl,rfl⟩;go_wp2_with fail;refine(S1.out _).mono ?_;rintro e w' ⟨rfl,rfl⟩;go_wp2_with fail;refine(S2.out _).mono ?_;rintro e w' ⟨rfl,rfl⟩;go_wp2;exact zqby (v:=.tuple #[.bool _,.string _,.string _,.bool _]) (by simp[results,Tryz.results137,go_sem]) rfl ⟨rfl,zaf _ _⟩
theorem zrG (a R n d G:ByteArray)(i:Nat)(w:World)(h0:(0:Int)<(a.size:Int))(hp:0<a.size)(h1:(((a[0]'hp).toNat:Int)==45)=true)(hle:(1:Int)<=(a.size:Int))(eR:a.extract 1 a.size=R)
  (hi:i<R.size) (hR:R.size<=9223372036854775807) (IX:Hid (zcQ R i)) (eN:R.extract 0 i=n) (eD:R.extract (i+1) R.size=d) (S1:Hid (zbd n true)) (S2:Hid (zbd d true)) (z2:(d.toList==[48])=false) (z1:(n.toList==[48])=true) :
  Calls Tryz.prog 137 #[.string a] w (zab (.tuple #[.bool false,.string ⟨#[]⟩,.string ⟨#[]⟩,.bool false]) w):=by
 have c1:(0:Int)<=(i:Int):=by omega
 have c2:(i:Int)<=(R.size:Int):=by omega
 have c3:(0:Int)<=(i:Int)+1:=by omega
 have c4:(i:Int)+1<=(R.size:Int):=by omega
 go_enter Tryz.func137,Tryz.ntmps137;go_wp2_with fail;refine(IX.out _).mono ?_;rintro e w' ⟨rfl,rfl⟩;go_wp2_with fail;refine(S1.out _).mono ?_;rintro e w' ⟨rfl,rfl⟩;go_wp2_with fail;refine(S2.out _).mono ?_;rintro e w' ⟨rfl,rfl⟩;go_wp2;exact zqby (v:=.tuple #[.bool _,.string _,.string _,.bool _]) (by simp[results,Tryz.results137,go_sem]) rfl ⟨rfl,zaf _ _⟩
theorem zrH (a R n d G:ByteArray)(i:Nat)(w:World)(h0:(0:Int)<(a.size:Int))(hp:0<a.size)(h1:(((a[0]'hp).toNat:Int)==45)=true)(hle:(1:Int)<=(a.size:Int))(eR:a.extract 1 a.size=R)
  (hi:i<R.size) (hR:R.size<=9223372036854775807) (IX:Hid (zcQ R i)) (eN:R.extract 0 i=n) (eD:R.extract (i+1) R.size=d) (S1:Hid (zbd n true)) (S2:Hid (zbd d true)) (z2:(d.toList==[48])=false) (z1:(n.toList==[48])=false) (o2:(d.toList==[49])=true) :
  Calls Tryz.prog 137 #[.string a] w (zab (.tuple #[.bool false,.string ⟨#[]⟩,.string ⟨#[]⟩,.bool false]) w):=by
 have c1:(0:Int)<=(i:Int):=by omega
 have c2:(i:Int)<=(R.size:Int):=by omega
 have c3:(0:Int)<=(i:Int)+1:=by omega
 have c4:(i:Int)+1<=(R.size:Int):=by omega
 go_enter Tryz.func137,Tryz.ntmps137;go_wp2_with fail;refine(IX.out _).mono ?_;rintro e w' ⟨rfl,rfl⟩;go_wp2_with fail;refine(S1.out _).mono ?_;rintro e w' ⟨rfl,rfl⟩;go_wp2_with fail;refine(S2.out _).mono ?_;rintro e w' ⟨rfl,rfl⟩;go_wp2;exact zqby (v:=.tuple #[.bool _,.string _,.string _,.bool _]) (by simp[results,Tryz.results137,go_sem]) rfl ⟨rfl,zaf _ _⟩
theorem zrI (a R n d G:ByteArray)(i:Nat)(w:World)(h0:(0:Int)<(a.size:Int))(hp:0<a.size)(h1:(((a[0]'hp).toNat:Int)==45)=true)(hle:(1:Int)<=(a.size:Int))(eR:a.extract 1 a.size=R)
  (hi:i<R.size) (hR:R.size<=9223372036854775807) (IX:Hid (zcQ R i)) (eN:R.extract 0 i=n) (eD:R.extract (i+1) R.size=d) (S1:Hid (zbd n true)) (S2:Hid (zbd d true)) (z2:(d.toList==[48])=false) (z1:(n.toList==[48])=false) (o2:(d.toList==[49])=false) (o3:(d.toList != [49])=true) (GC:Hid (zgn n d G)) (q1:(G.toList==[49])=false) (q2:(G.toList != [49])=true) :
  Calls Tryz.prog 137 #[.string a] w (zab (.tuple #[.bool false,.string ⟨#[]⟩,.string ⟨#[]⟩,.bool false]) w):=by
 have c1:(0:Int)<=(i:Int):=by omega
 have c2:(i:Int)<=(R.size:Int):=by omega
 have c3:(0:Int)<=(i:Int)+1:=by omega
 have c4:(i:Int)+1<=(R.size:Int):=by omega
 go_enter Tryz.func137,Tryz.ntmps137;go_wp2_with fail;refine(IX.out _).mono ?_;rintro e w' ⟨rfl,rfl⟩;go_wp2_with fail;refine(S1.out _).mono ?_;rintro e w' ⟨rfl,rfl⟩;go_wp2_with fail;refine(S2.out _).mono ?_;rintro e w' ⟨rfl,rfl⟩;go_wp2_with fail;refine(GC.out _).mono ?_;rintro e w1 ⟨rfl,hg⟩;have G1:=zHd hg;clear hg;go_wp2;exact zqby (v:=.tuple #[.bool _,.string _,.string _,.bool _]) (by simp[results,Tryz.results137,go_sem]) rfl ⟨rfl,G1.out⟩
theorem zrJ (a R n d G:ByteArray)(i:Nat)(w:World)(h0:(0:Int)<(a.size:Int))(hp:0<a.size)(h1:(((a[0]'hp).toNat:Int)==45)=true)(hle:(1:Int)<=(a.size:Int))(eR:a.extract 1 a.size=R)
  (hi:i<R.size) (hR:R.size<=9223372036854775807) (IX:Hid (zcQ R i)) (eN:R.extract 0 i=n) (eD:R.extract (i+1) R.size=d) (S1:Hid (zbd n true)) (S2:Hid (zbd d true)) (z2:(d.toList==[48])=false) (z1:(n.toList==[48])=false) (o2:(d.toList==[49])=false) (o3:(d.toList != [49])=true) (GC:Hid (zgn n d G)) (q1:(G.toList==[49])=true) (q2:(G.toList != [49])=false) :
  Calls Tryz.prog 137 #[.string a] w (zab (.tuple #[.bool true,.string n,.string d,.bool true]) w):=by
 have c1:(0:Int)<=(i:Int):=by omega
 have c2:(i:Int)<=(R.size:Int):=by omega
 have c3:(0:Int)<=(i:Int)+1:=by omega
 have c4:(i:Int)+1<=(R.size:Int):=by omega
 go_enter Tryz.func137,Tryz.ntmps137;go_wp2_with fail;refine(IX.out _).mono ?_;rintro e w' ⟨rfl,rfl⟩;go_wp2_with fail;refine(S1.out _).mono ?_;rintro e w' ⟨rfl,rfl⟩;go_wp2_with fail;refine(S2.out _).mono ?_;rintro e w' ⟨rfl,rfl⟩;go_wp2_with fail;refine(GC.out _).mono ?_;rintro e w1 ⟨rfl,hg⟩;have G1:=zHd hg;clear hg;go_wp2;exact zqby (v:=.tuple #[.bool _,.string _,.string _,.bool _]) (by simp[results,Tryz.results137,go_sem]) rfl ⟨rfl,G1.out⟩
open Go.RowKit
open Go.Lib (nDigits decDigits)
theorem zCU (b:ByteArray)(h:zan b=true):(b.toList==[49])=decide (nv b=1)/\(b.toList != [49]) = !decide (nv b=1):=by
 have e:=(zbW b h).1;have:=zgx (nv b);rw[<- e] at this;exact this
theorem zCV (a:ByteArray):(a.extract 1 a.size).data.toList=a.data.toList.drop 1:=by
 rw[ByteArray.data_extract,Array.toList_extract,List.extract_eq_take_drop,zqaf];rw[List.length_drop,Lib.size_eq];exact zqab _
theorem zpY (a:ByteArray)(h:∀ (hp:0<a.size),a[0]≠45):zcF a=false/\zcO a=a.data.toList:=by
 have e:zcF a=false:=by
  unfold zcF Lib.hasPrefix;cases hd:a.data.toList with
  | nil=>rfl
  | cons c r =>
   have hp:0<a.size:=by rw[Lib.size_eq,hd];simp
   have h0:=zrr a 0 hp;rw[hd] at h0;have:c=a[0]:=by simpa using h0
   simp only[List.isPrefixOf_cons_cons,Bool.and_eq_false_iff];left;rw[beq_eq_false_iff_ne];intro k;exact h hp (by rw[<- this,<- k])
 refine⟨e,?_⟩;unfold zcO Lib.trimPrefix;unfold zcF at e;rw[e];simp
theorem zxf (a:ByteArray)(hp:0<a.size)(h:a[0]=45):zcF a=true/\zcO a=(a.extract 1 a.size).data.toList:=by
 have e:zcF a=true:=by
  unfold zcF Lib.hasPrefix;have h0:=zrr a 0 hp;cases hd:a.data.toList with
  | nil=>rw[hd] at h0;simp at h0
  | cons c r =>
   rw[hd] at h0;have:c=a[0]:=by simpa using h0
   rw[this,h];rfl
 refine⟨e,?_⟩;rw[zCV];unfold zcO Lib.trimPrefix;unfold zcF at e;rw[e];simp
theorem zCW (s:ByteArray):(⟨s.data.toList.toArray⟩:ByteArray)=s:=by
 apply ByteArray.ext;apply Array.ext';simp
theorem zxg (a R:ByteArray)(hr:zcO a=R.data.toList)(h:Lib.indexByte R.data.toList 47 = -1):zcU a=false/\zcG a=R/\zcu a=⟨#[49]⟩:=by
 have hc:Lib.cut (zcO a) [47]=(R.data.toList,[],false):=by
  rw[hr];unfold Lib.cut;rw[Lib.index_one,h];rfl
 refine⟨by unfold zcU;rw[hc],?_,by unfold zcu zcU;rw[hc];rfl⟩;unfold zcG;rw[hc]
theorem zxh (a R:ByteArray)(i:Nat)(hr:zcO a=R.data.toList)(h:Lib.indexByte R.data.toList 47=i):zcU a=true/\zcG a=R.extract 0 i/\zcu a=R.extract (i+1) R.size:=by
 have hc:Lib.cut (zcO a) [47]=(R.data.toList.take i,R.data.toList.drop (i+1),true):=by
  rw[hr];unfold Lib.cut;rw[Lib.index_one,h,if_pos (by omega)];simp
 have e1:=zuD R.data.toList i;have e2:=extract_drop R.data.toList (i+1);rw[zCW] at e1 e2;refine⟨by unfold zcU;rw[hc],?_,?_⟩
 ·unfold zcG;rw[hc];exact e1.symm
 ·unfold zcu zcU tailA;rw[hc];exact e2.symm
theorem index_room (s:List UInt8):Lib.indexByte s 47 = -1∨∃ i:Nat,Lib.indexByte s 47=i/\i<s.length:=by
 rw[<- Lib.indexAny_one];rcases zwX s [47] with⟨h,_⟩|⟨i,c,h1,h2,_⟩
 ·exact .inl h
 ·exact .inr ⟨i,h1,(zqae.1 h2).1⟩
def zpZ (a:ByteArray)(w:World)(e:Ending)(w':World):Prop :=
 ((zet a/\e=.returned (.tuple #[.bool (zcF a),.string (zcG a),.string (zcu a),.bool true]))∨(¬ zet a/\e=.returned zdV))/\w.grownBy w' none
theorem zhY {a:ByteArray}{w:World}(h:¬ zet a){e:Ending}{w':World}(k:zab zdV w e w'):zpZ a w e w':=⟨.inr ⟨h,k.1⟩,k.2⟩
theorem zIg {a:ByteArray}{w:World}(h:zet a){e:Ending}{w':World}(k:zab (.tuple #[.bool (zcF a),.string (zcG a),.string (zcu a),.bool true]) w e w'):zpZ a w e w':=⟨.inl ⟨h,k.1⟩,k.2⟩
theorem zou {a:ByteArray}(h:zet a):zdK (zcG a)=true/\zdK (zcu a)=true:=by
 unfold zdK;rw[h.n,h.d];have:=h.sn;have:=h.sd;simp[*]
theorem zov {s:ByteArray}(h:zdK s=true):s.size<=400/\zan s=true:=by
 unfold zdK at h;simpa using h
theorem zGx (n d:ByteArray)(hn:zan n=true)(hd:zan d=true):zgn n d (zah (Nat.gcd (nv n) (nv d))):=fun w=>by
 have:=zGu n d w (zbm hn) (zbm hd);unfold zew at this;rw[hn,hd] at this;exact this
theorem zve (k:Nat):((zah k).toList==[49])=decide (k=1)/\((zah k).toList != [49]) = !decide (k=1):=zgx k
theorem zkX (a R:ByteArray)(N:Bool)(w:World)(hN:zcF a=N)(hr:zcO a=R.data.toList)(hR:R.size<=maxLen)(hz:Lib.indexByte R.data.toList 47 = -1)
  (B:zbd R false->∀ w,Calls Tryz.prog 137 #[.string a] w (zab zdV w))
  (Z:N=true->zbd R true->(R.toList==[48])=true->∀ w,Calls Tryz.prog 137 #[.string a] w (zab zdV w))
  (K:∀ z G,zdK R=true->zbd R true->(R.toList==[48])=z->(N=true->z=false)->zgn R ⟨#[49]⟩ G->(G.toList==[49])=true->(G.toList != [49])=false->∀ w,Calls Tryz.prog 137 #[.string a] w (zab (.tuple #[.bool N,.string R,.string ⟨#[49]⟩,.bool true]) w)) :
  Calls Tryz.prog 137 #[.string a] w (zpZ a w):=by
 obtain⟨e1,e2,e3⟩:=zxg a R hr hz;have S:=fun w=>zjE R w hR;cases hs:zdK R
 ·rw[hs] at S
  refine(B S w).mono fun e w' k=>zhY (fun h=>?_) k;have:=(zou h).1;rw[e2,hs] at this;cases this
 rw[hs] at S;obtain⟨h4,hn⟩:=zov hs;have hzf:=(zdZ R hn).1
 by_cases hb:N=true/\nv R=0
 ·refine(Z hb.1 S (by rw[hzf];simpa using hb.2) w).mono fun e w' k=>zhY (fun h=>?_) k
  have:=(h.z (by rw[e2];exact hb.2)).1;rw[hN,hb.1] at this;cases this
 ·have G:=zGx R ⟨#[49]⟩ hn (by decide +kernel)
  have hg:Nat.gcd (nv R) (nv ⟨#[49]⟩)=1:=by rw[show nv ⟨#[49]⟩=1 by decide +kernel,Nat.gcd_one_right]
  rw[hg] at G;have f:=zve 1;refine(K _ _ hs S rfl (fun hN1=>by rw[hzf];simpa using fun h0=>hb ⟨hN1,h0⟩) G (by simpa using f.1) (by simpa using f.2) w).mono fun e w' k=>?_
  have P:zet a:=by
   refine⟨by rw[e2];exact hn,by rw[e3];decide +kernel,by rw[e2];exact h4,by rw[e3];decide,by rw[e3];decide +kernel,?_,?_,?_⟩
   ·rw[e2,hN,e1]
    intro h0;refine⟨?_,rfl⟩;cases N
    ·rfl
    ·exact absurd ⟨rfl,h0⟩ hb
   ·intro _;exact e1
   ·rw[e3];exact .inr (by decide +kernel)
  exact zIg P (by rw[hN,e2,e3];exact k)
theorem znW (a R:ByteArray)(N:Bool)(i:Nat)(w:World)(hN:zcF a=N)(hr:zcO a=R.data.toList)(hR:R.size<=maxLen)(hz:Lib.indexByte R.data.toList 47=i)(hi:i<R.size)
  (B0:∀ n d,R.extract 0 i=n->R.extract (i+1) R.size=d->zbd n false->∀ w,Calls Tryz.prog 137 #[.string a] w (zab zdV w))
  (B1:∀ n d,R.extract 0 i=n->R.extract (i+1) R.size=d->zbd n true->zbd d false->∀ w,Calls Tryz.prog 137 #[.string a] w (zab zdV w))
  (B2:∀ n d,R.extract 0 i=n->R.extract (i+1) R.size=d->zbd n true->zbd d true->(d.toList==[48])=true->∀ w,Calls Tryz.prog 137 #[.string a] w (zab zdV w))
  (B3:∀ n d,R.extract 0 i=n->R.extract (i+1) R.size=d->zbd n true->zbd d true->(d.toList==[48])=false->(n.toList==[48])=true->∀ w,Calls Tryz.prog 137 #[.string a] w (zab zdV w))
  (B4:∀ n d,R.extract 0 i=n->R.extract (i+1) R.size=d->zbd n true->zbd d true->(d.toList==[48])=false->(n.toList==[48])=false->(d.toList==[49])=true->∀ w,Calls Tryz.prog 137 #[.string a] w (zab zdV w))
  (B5:∀ n d G,R.extract 0 i=n->R.extract (i+1) R.size=d->zbd n true->zbd d true->(d.toList==[48])=false->(n.toList==[48])=false->(d.toList==[49])=false->(d.toList != [49])=true->zgn n d G->(G.toList==[49])=false->(G.toList != [49])=true->∀ w,Calls Tryz.prog 137 #[.string a] w (zab zdV w))
  (K:∀ n d G,R.extract 0 i=n->R.extract (i+1) R.size=d->zbd n true->zbd d true->(d.toList==[48])=false->(n.toList==[48])=false->(d.toList==[49])=false->(d.toList != [49])=true->zgn n d G->(G.toList==[49])=true->(G.toList != [49])=false->∀ w,Calls Tryz.prog 137 #[.string a] w (zab (.tuple #[.bool N,.string n,.string d,.bool true]) w)) :
  Calls Tryz.prog 137 #[.string a] w (zpZ a w):=by
 obtain⟨e1,e2,e3⟩:=zxh a R i hr hz;have l1:(R.extract 0 i).size<=maxLen:=by rw[ByteArray.size_extract];omega
 have l2:(R.extract (i+1) R.size).size<=maxLen:=by rw[ByteArray.size_extract];omega
 have S1:=fun w=>zjE _ w l1;have S2:=fun w=>zjE _ w l2;obtain⟨n,en⟩:∃ n,R.extract 0 i=n:=⟨_,rfl⟩;obtain⟨d,ed⟩:∃ d,R.extract (i+1) R.size=d:=⟨_,rfl⟩;rw[en] at S1 e2;rw[ed] at S2 e3;cases hs1:zdK n
 ·rw[hs1] at S1
  refine(B0 n d en ed S1 w).mono fun e w' k=>zhY (fun h=>?_) k;have:=(zou h).1;rw[e2,hs1] at this;cases this
 rw[hs1] at S1;cases hs2:zdK d
 ·rw[hs2] at S2
  refine(B1 n d en ed S1 S2 w).mono fun e w' k=>zhY (fun h=>?_) k;have:=(zou h).2;rw[e3,hs2] at this;cases this
 rw[hs2] at S2;obtain⟨n4,nn⟩:=zov hs1;obtain⟨d4,nd⟩:=zov hs2;have zn:=(zdZ n nn).1;have zd:=(zdZ d nd).1;obtain⟨od,od'⟩:=zCU d nd
 by_cases h0:nv d=0
 ·refine(B2 n d en ed S1 S2 (by rw[zd];simpa using h0) w).mono fun e w' k=>zhY (fun h=>?_) k
  exact h.d0 (by rw[e3];exact h0)
 by_cases h1:nv n=0
 ·refine(B3 n d en ed S1 S2 (by rw[zd];simpa using h0) (by rw[zn];simpa using h1) w).mono fun e w' k=>zhY (fun h=>?_) k
  have:=(h.z (by rw[e2];exact h1)).2;rw[e1] at this;cases this
 by_cases h2:nv d=1
 ·refine(B4 n d en ed S1 S2 (by rw[zd];simpa using h0) (by rw[zn];simpa using h1) (by rw[od];simpa using h2) w).mono fun e w' k=>zhY (fun h=>?_) k
  have:=h.one (by rw[e3];exact h2);rw[e1] at this;cases this
 have G:=zGx n d nn nd;have f:=zve (Nat.gcd (nv n) (nv d))
 by_cases h3:Nat.gcd (nv n) (nv d)=1
 ·refine(K n d _ en ed S1 S2 (by rw[zd];simpa using h0) (by rw[zn];simpa using h1) (by rw[od];simpa using h2) (by rw[od'];simpa using h2) G (by rw[f.1];simpa using h3) (by rw[f.2];simpa using h3) w).mono fun e w' k=>?_
  have P:zet a:=by
   refine⟨by rw[e2];exact nn,by rw[e3];exact nd,by rw[e2];exact n4,by rw[e3];exact d4,by rw[e3];exact h0,?_,?_,?_⟩
   ·rw[e2];intro h;exact absurd h h1
   ·rw[e3];intro h;exact absurd h h2
   ·rw[e2,e3];exact .inl h3
  exact zIg P (by rw[hN,e2,e3];exact k)
 ·refine(B5 n d _ en ed S1 S2 (by rw[zd];simpa using h0) (by rw[zn];simpa using h1) (by rw[od];simpa using h2) (by rw[od'];simpa using h2) G (by rw[f.1];simpa using h3) (by rw[f.2];simpa using h3) w).mono fun e w' k=>zhY (fun h=>?_) k
  have:=h.gcd;rw[e2,e3] at this;exact h3 this
theorem zqa (a:ByteArray)(w:World)(ha:a.size<=maxLen):Calls Tryz.prog 137 #[.string a] w (zpZ a w):=by
 have hm:=ha;unfold maxLen at hm;have one:zbd ⟨#[49]⟩ true:=fun w=>by have:=zjE ⟨#[49]⟩ w (by decide);rw[show zdK ⟨#[49]⟩=true by decide +kernel] at this;exact this
 have ix:∀ (R:ByteArray) (z:Int),R.size<=maxLen->Lib.indexByte R.data.toList 47=z->zcQ R z:=fun R z h e w=>by rw[<- e];exact zzR R w h
 by_cases hp:0<a.size
 ·cases h45:(((a[0]'hp).toNat:Int)==45)
  ·have hne:a[0]≠45:=by intro e;rw[e] at h45;exact absurd h45 (by decide)
   obtain⟨hN,hr⟩:=zpY a (fun _=>hne);rcases index_room a.data.toList with hz|⟨i,hz,hi⟩
   ·have I:=zHd (ix a _ ha hz)
    refine zkX a a false w hN hr ha hz ?_ ?_ ?_
    ·exact fun S w=>zrt a a ⟨#[]⟩ w (by omega) hp h45 rfl I (zHd S)
    ·intro h;cases h
    ·intro z G _ S hzz _ GC q1 q2 w
     cases z
     ·exact zpW a a G w (by omega) hp h45 rfl I (zHd S) (zHd one) hzz (zHd GC) q1 q2
     ·exact zpV a a G w (by omega) hp h45 rfl I (zHd S) (zHd one) hzz (zHd GC) q1 q2
   ·have I:=zHd (ix a _ ha hz)
    have hi':i<a.size:=(by rw[Lib.size_eq];exact hi);refine znW a a false i w hN hr ha hz hi' ?_ ?_ ?_ ?_ ?_ ?_ ?_
    ·exact fun n d en ed S1 w=>zrw a a n d ⟨#[]⟩ i w (by omega) hp h45 rfl hi' hm I en ed (zHd S1)
    ·exact fun n d en ed S1 S2 w=>zrx a a n d ⟨#[]⟩ i w (by omega) hp h45 rfl hi' hm I en ed (zHd S1) (zHd S2)
    ·exact fun n d en ed S1 S2 f w=>zry a a n d ⟨#[]⟩ i w (by omega) hp h45 rfl hi' hm I en ed (zHd S1) (zHd S2) f
    ·exact fun n d en ed S1 S2 f g w=>zrz a a n d ⟨#[]⟩ i w (by omega) hp h45 rfl hi' hm I en ed (zHd S1) (zHd S2) f g
    ·exact fun n d en ed S1 S2 f g h w=>zrA a a n d ⟨#[]⟩ i w (by omega) hp h45 rfl hi' hm I en ed (zHd S1) (zHd S2) f g h
    ·exact fun n d G en ed S1 S2 f g h h' GC q1 q2 w=>zrB a a n d G i w (by omega) hp h45 rfl hi' hm I en ed (zHd S1) (zHd S2) f g h h' (zHd GC) q1 q2
    ·exact fun n d G en ed S1 S2 f g h h' GC q1 q2 w=>zrC a a n d G i w (by omega) hp h45 rfl hi' hm I en ed (zHd S1) (zHd S2) f g h h' (zHd GC) q1 q2
  ·have he:a[0]=45:=UInt8.toNat_inj.1 (by
    have h2:((a[0]'hp).toNat:Int)=45:=(by simpa using h45);have:(45:UInt8).toNat=45:=rfl;omega)
   obtain⟨hN,hr⟩:=zxf a hp he;obtain⟨R,eR⟩:∃ R,a.extract 1 a.size=R:=⟨_,rfl⟩;have hR:R.size<=maxLen:=by rw[<- eR,ByteArray.size_extract];omega
   have hmR:=hR;unfold maxLen at hmR;rw[eR] at hr;rcases index_room R.data.toList with hz|⟨i,hz,hi⟩
   ·have I:=zHd (ix R _ hR hz)
    refine zkX a R true w hN hr hR hz ?_ ?_ ?_
    ·exact fun S w=>zru a R ⟨#[]⟩ w (by omega) hp h45 (by omega) eR I (zHd S)
    ·exact fun _ S z w=>zrv a R ⟨#[]⟩ w (by omega) hp h45 (by omega) eR I (zHd S) (zHd one) z
    ·intro z G _ S hzz hzn GC q1 q2 w
     have:=hzn rfl;subst this;exact zpX a R G w (by omega) hp h45 (by omega) eR I (zHd S) (zHd one) hzz (zHd GC) q1 q2
   ·have I:=zHd (ix R _ hR hz)
    have hi':i<R.size:=(by rw[Lib.size_eq];exact hi);refine znW a R true i w hN hr hR hz hi' ?_ ?_ ?_ ?_ ?_ ?_ ?_
    ·exact fun n d en ed S1 w=>zrD a R n d ⟨#[]⟩ i w (by omega) hp h45 (by omega) eR hi' hmR I en ed (zHd S1)
    ·exact fun n d en ed S1 S2 w=>zrE a R n d ⟨#[]⟩ i w (by omega) hp h45 (by omega) eR hi' hmR I en ed (zHd S1) (zHd S2)
    ·exact fun n d en ed S1 S2 f w=>zrF a R n d ⟨#[]⟩ i w (by omega) hp h45 (by omega) eR hi' hmR I en ed (zHd S1) (zHd S2) f
    ·exact fun n d en ed S1 S2 f g w=>zrG a R n d ⟨#[]⟩ i w (by omega) hp h45 (by omega) eR hi' hmR I en ed (zHd S1) (zHd S2) f g
    ·exact fun n d en ed S1 S2 f g h w=>zrH a R n d ⟨#[]⟩ i w (by omega) hp h45 (by omega) eR hi' hmR I en ed (zHd S1) (zHd S2) f g h
    ·exact fun n d G en ed S1 S2 f g h h' GC q1 q2 w=>zrI a R n d G i w (by omega) hp h45 (by omega) eR hi' hmR I en ed (zHd S1) (zHd S2) f g h h' (zHd GC) q1 q2
    ·exact fun n d G en ed S1 S2 f g h h' GC q1 q2 w=>zrJ a R n d G i w (by omega) hp h45 (by omega) eR hi' hmR I en ed (zHd S1) (zHd S2) f g h h' (zHd GC) q1 q2
 ·have h0:a.size=0:=by omega
  obtain⟨hN,hr⟩:=zpY a (fun h=>absurd h hp)
  have e0:a=⟨#[]⟩:=by
   cases a with
   | mk d=>congr 1;exact Array.eq_empty_of_size_eq_zero h0
  have hz:Lib.indexByte a.data.toList 47 = -1:=by rw[e0];rfl
  have I:=zHd (ix a _ ha hz);refine zkX a a false w hN hr ha hz ?_ ?_ ?_
  ·exact fun S w=>zrs a a ⟨#[]⟩ w (by omega) rfl I (zHd S)
  ·intro h;cases h
  ·intro z G hs _ _ _ _ _ _ w
   rw[e0] at hs;exact absurd hs (by decide +kernel)
theorem zzS {a:ByteArray}{x:Rat}(h:zaw a x)(w:World):Calls Tryz.prog 137 #[.string a] w (zab (zCl x) w):=by
 refine(zqa a w (ziG h)).mono ?_;rintro e w' ⟨⟨_,k⟩|⟨k,_⟩,hg⟩
 ·obtain⟨p1,p2,p3,_⟩:=apart a x h.eq
  rw[p1,p2,p3] at k;exact⟨k,hg⟩
 ·exact absurd (zlP h) k
theorem zCX {a:ByteArray}(h:zea a)(ha:a.size<=maxLen)(w:World):Calls Tryz.prog 137 #[.string a] w (zab zdV w):=by
 refine(zqa a w ha).mono ?_;rintro e w' ⟨⟨k,_⟩|⟨_,k⟩,hg⟩
 ·exact absurd (zBy k) (h _)
 ·exact⟨k,hg⟩
open Go.RowKit
def zbO (P:Prop)(Q:Value->World->Prop)(w:World)(e:Ending)(w':World):Prop:=(P/\∃ v,e=.returned v/\Q v w'/\w.grownBy w' none)∨(¬ P/\zfG 2 w e w')
def zaq (w:World)(g off n:Nat)(L:Nat->Value):Prop:=g<w.heap.size/\∀ j,j<n->w.cell? ⟨g,off+j,none⟩=some (L j)
def zaG (w:World)(v:Value)(n:Nat)(L:Nat->Value):Prop :=
 ∃ A cap,v=.slice A n cap/\n<=cap/\cap<=maxLen/\∀ j,j<n->∃ ad,A=some ad/\ad.block<w.heap.size/\w.cell? (ad.add j)=some (L j)
theorem zcl (g off j:Nat):(⟨g,off,none⟩:Addr).add j=⟨g,off+j,none⟩:=by unfold Addr.add;split <;> simp_all
theorem zaq.row {w:World}{g off n cap:Nat}{L:Nat->Value}(h:zaq w g off n L)(h1:n<=cap)(h2:cap<=maxLen):zaG w (.slice (some ⟨g,off,none⟩) n cap) n L :=
 ⟨_,cap,rfl,h1,h2,fun j hj=>⟨_,rfl,h.1,by rw[zcl];exact h.2 j hj⟩⟩
theorem zau (ad:Addr)(j:Nat):(ad.add j).block=ad.block:=by unfold Addr.add;split <;> rfl
theorem zaD {w w':World}{ad:Addr}(h:w'.heap[ad.block]?=w.heap[ad.block]?):w'.cell? ad=w.cell? ad:=by
 unfold World.cell?;rw[h]
theorem zaq.keep {w w':World}{g off n:Nat}{L:Nat->Value}(h:zaq w g off n L)(hs:w.heap.size<=w'.heap.size)(hb:w'.heap[g]?=w.heap[g]?):zaq w' g off n L :=
 ⟨zqba h.1 hs,fun j hj=>(zaD (ad:=⟨g,off+j,none⟩) hb).trans (h.2 j hj)⟩
theorem zaq.grown {w w':World}{g off n:Nat}{L:Nat->Value}(h:zaq w g off n L)(hg:w.grownBy w' none):zaq w' g off n L:=h.keep hg.size (hg.block g h.1 (by simp))
theorem zaq.grownB {w w':World}{g off n b:Nat}{L:Nat->Value}(h:zaq w g off n L)(hg:w.grownBy w' (some b))(hb:g≠b):zaq w' g off n L:=h.keep hg.size (hg.block g h.1 (by simpa using hb))
theorem zaG.grown {w w':World}{v:Value}{n:Nat}{L:Nat->Value}(h:zaG w v n L)(hg:w.grownBy w' none):zaG w' v n L:=by
 obtain⟨A,cap,rfl,h1,h2,h3⟩:=h;refine⟨A,cap,rfl,h1,h2,fun j hj=>?_⟩;obtain⟨ad,rfl,hb,hc⟩:=h3 j hj;exact⟨ad,rfl,zqba hb hg.size,(zaD (ad:=ad.add j) (by rw[zau];exact hg.block ad.block hb (by simp))).trans hc⟩
structure zaB (T:TypeId)(z:Value)(n:Nat)(zs:List Value)(w wr:World):Prop where
 row:wr.heap[w.heap.size]?=some (.cells (zs++List.replicate (n-zs.length) z).toArray T (0,0))
 gr:w.grownBy wr none
 le:zs.length<=n
theorem zaB.cell {T:TypeId}{z:Value}{n:Nat}{zs:List Value}{w wr:World}(h:zaB T z n zs w wr)(hk:zs.length<n):wr.cell? ⟨w.heap.size,zs.length,none⟩=some z:=by
 rw[zqbw wr w.heap.size zs.length _ _ (0,0) h.row,zqap,zqaq (zqab _),zqbr,show n-zs.length=(n-zs.length-1)+1 by omega];rfl
theorem zaB.free {T:TypeId}{z:Value}{n:Nat}{zs:List Value}{w wr:World}(h:zaB T z n zs w wr)(k:Nat):wr.frozen? ⟨w.heap.size,k,none⟩=false:=zqbx wr _ _ _ _ h.row
theorem zaB.put {T:TypeId}{z:Value}{n:Nat}{zs:List Value}{w wr:World}(h:zaB T z n zs w wr)(hk:zs.length<n)(u:Value):zaB T z n (zs++[u]) w (wr.setCell ⟨w.heap.size,zs.length,none⟩ u):=by
 refine⟨?_,zaj h.gr (zac _ _ _) (zqab _),by simp;omega⟩;have h1:=heap_setCell_same wr w.heap.size zs.length _ _ u h.row;rw[h1];congr 2;apply Array.toList_inj.1;simp only[Array.toList_setIfInBounds,zqbj];rw[List.set_append_right _ _ (zqab _),zqbr,show n-zs.length=(n-(zs++[u]).length)+1 by simp;omega,List.replicate_succ,List.set_cons_zero];rfl
theorem zaB.grown {T:TypeId}{z:Value}{n:Nat}{zs:List Value}{w wr w':World}(h:zaB T z n zs w wr)(hg:wr.grownBy w' none):zaB T z n zs w w' :=
 ⟨(hg.block _ (zqad.1 h.row).1 (by simp)).trans h.row,zaa h.gr hg,h.le⟩
theorem zaB.rowAt {T:TypeId}{z:Value}{n:Nat}{zs:List Value}{w wr:World}(h:zaB T z n zs w wr)(hn:zs.length=n):zaq wr w.heap.size 0 n (fun j=>zs.getD j z):=by
 refine⟨(zqad.1 h.row).1,fun j hj=>?_⟩;rw[zqat,zqbw wr w.heap.size j _ _ (0,0) h.row];have e:(zs++List.replicate (n-zs.length) z)=zs:=by rw[hn,zqbr];simp
 dsimp only;rw[e,zqap,zqaa,zqac (by omega)];rfl
theorem zaB.start {T:TypeId}{z:Value}{n:Nat}{w w1:World}(hown:w1.ownsRow w.heap.size T 1 (.slice (some ⟨w.heap.size,0,none⟩) n n) n (madeCells #[z] n).toList)(hgr:w.grownBy w1 none):zaB T z n [] w w1:=by
 refine⟨?_,hgr,zqaw _⟩;rcases hown.2 with⟨h',_⟩|⟨g',cap',cur,h',hb,hg,_,_,hs,ht⟩
 ·simp at h'
 ·simp only[Value.slice.injEq,Option.some.injEq,Addr.mk.injEq,and_true,true_and] at h'
  obtain⟨rfl,rfl⟩:=h';rw[zqaf (by rw[zqbs,hs];simp),toList_madeCells_one] at ht;rw[hg];congr 2;apply Array.toList_inj.1;rw[ht];simp
theorem zgo:(Tryz.prog.info? 9).map (fun i=>(i.zero,i.size,i.bytes))=some (some (.string ⟨#[]⟩),1,16):=by kernel_rfl
theorem zeN:(Tryz.prog.info? 33).map (fun i=>(i.zero,i.size,i.bytes))=some (some (.slice none 0 0),1,24):=by kernel_rfl
def zkY (P:Prop)(H m:Nat)(L:Nat->Value)(w:World)(e:Ending)(w':World):Prop :=
 zbO P (fun v w'=>∃ g off c,v=.slice (some ⟨g,off,none⟩) m c/\m<=c/\c<=maxLen/\(g<H∨w.heap.size<=g)/\zaq w' g off m L) w e w'
def zfs (w:World)(H g n m:Nat)(zs:List Value)(A:Nat->Nat->Value):Prop :=
 zs.length=n/\zaq w g 0 n (fun j=>zs.getD j (.slice none 0 0))/\∀ i,i<n->∃ gi off c,zs.getD i (.slice none 0 0)=.slice (some ⟨gi,off,none⟩) m c/\m<=c/\c<=maxLen/\gi≠g/\zaq w gi off m (A i)
def zkZ (P:Prop)(n m:Nat)(A:Nat->Nat->Value)(w:World)(e:Ending)(w':World):Prop :=
 zbO P (fun v w'=>∃ zs,v=.slice (some ⟨w.heap.size,0,none⟩) n n/\zfs w' w.heap.size w.heap.size n m zs A) w e w'
def zla (P:Prop)(n:Nat)(G:Nat->ByteArray)(w:World)(e:Ending)(w':World):Prop :=
 zbO P (fun v w'=>v=.slice (some ⟨w.heap.size,0,none⟩) n n/\zaq w' w.heap.size 0 n (fun i=>.string (G i))) w e w'
def zhb (G:Nat->ByteArray)(k:Nat):List Value:=(List.range k).map (fun i=>.string (G i))
theorem zjF (G:Nat->ByteArray)(k:Nat):(zhb G k).length=k:=by simp[zhb]
theorem zlb (G:Nat->ByteArray)(k:Nat):zhb G k++[.string (G k)]=zhb G (k+1):=by simp[zhb,List.range_succ]
theorem zCY (G:Nat->ByteArray){n j:Nat}(z:Value)(h:j<n):(zhb G n).getD j z=.string (G j):=by
 unfold zhb;rw[zqaa,zqaj,zqbe h];rfl
theorem zaB.strs {n:Nat}{G:Nat->ByteArray}{w wr:World}(h:zaB 9 (.string ⟨#[]⟩) n (zhb G n) w wr):zaq wr w.heap.size 0 n (fun i=>.string (G i)):=by
 have h1:=h.rowAt (zjF G n);refine⟨h1.1,fun j hj=>(h1.2 j hj).trans ?_⟩;dsimp only;rw[zCY G _ hj]
def zvf (P:Prop)(V:Value)(w:World)(e:Ending)(w':World):Prop:=(P/\zab V w e w')∨(¬ P/\zfG 2 w e w')
theorem zjU (F:Nat)(he:Enters F)(first cap:Array Value)(n:Nat)(V:Nat->Value)(m:Nat)(P:Nat->Prop)(A:Nat->Nat->Value)(lv:Value)(w:World)(hn:n<=10000)(hl:zaG w lv n V)
  (hF:∀ i,i<n->∀ w',w.grownBy w' none->Calls Tryz.prog F (first++#[V i]++cap) w' (zkY (P i) w.heap.size m (A i) w')) :
  Calls Tryz.prog 78 #[lv,.func (.func F) first cap] w (zkZ (∀ i,i<n->P i) n m A w):=by
 obtain⟨Ad,c,rfl,h1,h2,h3⟩:=hl;obtain⟨i0,hi,hz0,hz1,hz2⟩:=info_parts zeN;have HE:=zHd he;have HF:=zHd hF;have HL:=zHd h3;have HN:=zHd hn;clear he hF h3 h1 h2 hn;go_enter Tryz.func78,Tryz.ntmps78;go_wp2_with (at_make;refine wpList_make_full _ rfl _ _ 22 rfl w.heap.size 33 i0 (.slice none 0 0) 1 Tryz.underlying22 hi hz0 hz1 _ _ _ _ n rfl rfl ?c0 ?c1 ?c2 (by have:=HN.out;unfold maxLen;omega) (zqab _) ?_)
 case c0=>omega
 case c1=>omega
 case c2=>have:=HN.out;first|omega|(rw[hz2];omega)
 intro w1 hown hgr;have hfill:=zaB.start hown hgr;have HW:=zHd hfill;clear hown hgr hfill;go_wp2
 go_loopw [13] (fun iv wr=>∃ zs:List Value,iv=.int .i64 (zs.length:Int)/\zaB 33 (.slice none 0 0) n zs w wr/\∀ i,i<zs.length->∃ gi off c,zs.getD i (.slice none 0 0)=.slice (some ⟨gi,off,none⟩) m c/\m<=c/\c<=maxLen/\gi≠w.heap.size/\zaq wr gi off m (A i)/\P i) (fun iv _=>n-(intOf iv).toNat)
 case atStart=>exact⟨[],rfl,HW.out,fun i hi=>absurd hi (by simp)⟩
 case round =>
  obtain⟨zs,rfl,hfill,hrows⟩:=hrel;obtain⟨k,hzk⟩:∃ k,zs.length=k:=⟨_,rfl⟩;have hle:=hfill.le
  by_cases hk:k<n
  ·obtain⟨ad,rfl,hb,hc⟩:=HL.out k hk
   have hc2:wr.cell? (ad.add k)=some (V k):=(zaD (ad:=ad.add k) (by rw[zau];exact hfill.gr.block ad.block hb (by simp))).trans hc;have t1:decide (k<n)=true:=by simpa using hk
   have t1':decide ((k:Int)<(n:Int))=true:=by simpa using hk
   have hik:(k:Int)<(n:Int):=by omega
   have n1:IntKind.i64.wrap ((k:Int)+1)=(k:Int)+1:=by have:=HN.out;rw[zqah];omega
   have HFL:=zHd hfill;have HK:=zHd (zAI hk (zAI hzk hle));have HR:=zHd hrows;rw[hzk];clear hrows;clear hfill hk hle hzk hb hc;go_wp2_with fail;rw[HE.out];refine(HF.out k HK.out.1 wr HFL.out.gr).mono ?_;rintro e w' (⟨hpk,v,rfl,⟨g,off,c2,rfl,hm1,hm2,hgl,hrow⟩,hg⟩|⟨hnp,rfl,hg⟩)
   ·have HPK:=zHd hpk
    clear hpk;have hf2:=HFL.out.grown hg;have hcl:=hf2.cell (by rw[HK.out.2.1];exact HK.out.1);have hfr:=hf2.free k;rw[HK.out.2.1] at hcl;have HF2:=zHd hf2;have HG:=zHd hg;have HROW:=zHd (zAI hm1 (zAI hm2 (zAI hgl hrow)));clear hf2 hg hm1 hm2 hgl hrow;go_wp2;obtain⟨hk,hzk,hle⟩:=HK.out;have hput:=HF2.out.put (by rw[hzk];exact hk) (.slice (some ⟨g,off,none⟩) m c2);rw[hzk] at hput;obtain⟨hm1,hm2,hgl,hrow⟩:=HROW.out
    have hne:g≠w.heap.size:=by
     rcases hgl with h|h
     ·omega
     ·have:=(zqad.1 HFL.out.row).1;omega
    refine⟨⟨zs++[.slice (some ⟨g,off,none⟩) m c2],by simp[hzk],hput,fun i hi=>?_⟩,by simp[intOf];omega⟩
    by_cases hik2:i<zs.length
    ·obtain⟨gi,oi,ci,e1,e2,e3,e4,e5,e6⟩:=HR.out i hik2
     refine⟨gi,oi,ci,?_,e2,e3,e4,(e5.grown HG.out).grownB (zac _ _ _) e4,e6⟩;rw[zqaa,zqal hik2,<- zqaa];exact e1
    ·have hi2:i=k:=by simp at hi;omega
     subst hi2;refine⟨g,off,c2,?_,hm1,hm2,hne,hrow.grownB (zac _ _ _) hne,HPK.out⟩;rw[zqaa,zqaq (by omega),hzk,zqbr];rfl
   ·go_wp2
    exact⟨rfl,.inr ⟨fun h=>hnp (h k HK.out.1),rfl,zaa HFL.out.gr hg⟩⟩
  ·have hkn:k=n:=by omega
   subst hkn;have t1:decide (k<k)=false:=by simp
   have t1':decide ((k:Int)<(k:Int))=false:=by simp
   have HFL:=zHd hfill;have HK:=zHd hzk;have HR:=zHd hrows;rw[hzk];clear hrows;clear hfill hk hle hzk;go_wp2;go_ret;have hzk:=HK.out;exact .inl ⟨fun i hi=>by obtain⟨_,_,_,_,_,_,_,_,h⟩:=HR.out i (by omega);exact h,_,rfl,⟨zs,rfl,hzk,HFL.out.rowAt hzk,fun i hi=>by obtain⟨gi,oi,ci,e1,e2,e3,e4,e5,e6⟩:=HR.out i (by omega);exact⟨gi,oi,ci,e1,e2,e3,e4,e5⟩⟩,HFL.out.gr⟩
theorem zxi (F:Nat)(he:Enters F)(first cap:Array Value)(n:Nat)(V:Nat->Value)(P:Nat->Prop)(G:Nat->ByteArray)(lv:Value)(w:World)(hn:n<=10000)(hl:zaG w lv n V)
  (hF:∀ i,i<n->∀ w',w.grownBy w' none->Calls Tryz.prog F (first++#[V i]++cap) w' (zvf (P i) (.string (G i)) w')) :
  Calls Tryz.prog 165 #[lv,.func (.func F) first cap] w (zla (∀ i,i<n->P i) n G w):=by
 obtain⟨Ad,c,rfl,h1,h2,h3⟩:=hl;obtain⟨i0,hi,hz0,hz1,hz2⟩:=info_parts zgo;have HE:=zHd he;have HF:=zHd hF;have HL:=zHd h3;have HN:=zHd hn;clear he hF h3 h1 h2 hn;go_enter Tryz.func165,Tryz.ntmps165;go_wp2_with (at_make;refine wpList_make_full _ rfl _ _ 33 rfl w.heap.size 9 i0 (.string ⟨#[]⟩) 1 Tryz.underlying33 hi hz0 hz1 _ _ _ _ n rfl rfl ?c0 ?c1 ?c2 (by have:=HN.out;unfold maxLen;omega) (zqab _) ?_)
 case c0=>omega
 case c1=>omega
 case c2=>have:=HN.out;first|omega|(rw[hz2];omega)
 intro w1 hown hgr;have hfill:=zaB.start hown hgr;have HW:=zHd hfill;clear hown hgr hfill;go_wp2
 go_loopw [13] (fun iv wr=>∃ k:Nat,iv=.int .i64 (k:Int)/\k<=n/\zaB 9 (.string ⟨#[]⟩) n (zhb G k) w wr/\∀ i,i<k->P i) (fun iv _=>n-(intOf iv).toNat)
 case atStart=>exact⟨0,rfl,zqaw _,HW.out,fun i hi=>absurd hi (by omega)⟩
 case round =>
  obtain⟨k,rfl,hle,hfill,hps⟩:=hrel;have HPS:=zHd hps;clear hps;have hzk:=zjF G k
  by_cases hk:k<n
  ·obtain⟨ad,rfl,hb,hc⟩:=HL.out k hk
   have hc2:wr.cell? (ad.add k)=some (V k):=(zaD (ad:=ad.add k) (by rw[zau];exact hfill.gr.block ad.block hb (by simp))).trans hc;have t1:decide (k<n)=true:=by simpa using hk
   have t1':decide ((k:Int)<(n:Int))=true:=by simpa using hk
   have hik:(k:Int)<(n:Int):=by omega
   have n1:IntKind.i64.wrap ((k:Int)+1)=(k:Int)+1:=by have:=HN.out;rw[zqah];omega
   have HFL:=zHd hfill;have HK:=zHd (zAI hk (zAI hzk hle));clear hfill hk hle hzk hb hc;go_wp2_with fail;rw[HE.out];refine(HF.out k HK.out.1 wr HFL.out.gr).mono ?_;rintro e w' (⟨hpk,rfl,hg⟩|⟨hnp,rfl,hg⟩)
   ·have HPK:=zHd hpk
    clear hpk;have hf2:=HFL.out.grown hg;have hcl:=hf2.cell (by rw[HK.out.2.1];exact HK.out.1);have hfr:=hf2.free k;rw[HK.out.2.1] at hcl;have HF2:=zHd hf2;have HG:=zHd hg;clear hf2 hg;go_wp2;obtain⟨hk,hzk,hle⟩:=HK.out;have hput:=HF2.out.put (by rw[hzk];exact hk) (.string (G k));rw[hzk,zlb] at hput;refine⟨⟨k+1,by simp,hk,hput,fun i hi=>?_⟩,by simp[intOf];omega⟩
    by_cases e:i=k
    ·subst e;exact HPK.out
    ·exact HPS.out i (by omega)
   ·go_wp2
    exact⟨rfl,.inr ⟨fun h=>hnp (h k HK.out.1),rfl,zaa HFL.out.gr hg⟩⟩
  ·have hkn:k=n:=by omega
   subst hkn;have t1:decide (k<k)=false:=by simp
   have t1':decide ((k:Int)<(k:Int))=false:=by simp
   have HFL:=zHd hfill;have HK:=zHd hzk;clear hfill hk hle hzk;go_wp2;go_ret;exact .inl ⟨HPS.out,_,rfl,⟨rfl,HFL.out.strs⟩,HFL.out.gr⟩
theorem zlH (F:Nat)(he:Enters F)(first cap:Array Value)(n:Nat)(V:Nat->Value)(P:Nat->Prop)(G:Nat->ByteArray)(lv:Value)(w:World)(hn:n<=10000)(hl:zaG w lv n V)
  (hF:∀ i,i<n->∀ w',w.grownBy w' none->Calls Tryz.prog F (first++#[V i]++cap) w' (zvf (P i) (.string (G i)) w')) :
  Calls Tryz.prog 141 #[lv,.func (.func F) first cap] w (zla (∀ i,i<n->P i) n G w):=by
 obtain⟨Ad,c,rfl,h1,h2,h3⟩:=hl;obtain⟨i0,hi,hz0,hz1,hz2⟩:=info_parts zgo;have HE:=zHd he;have HF:=zHd hF;have HL:=zHd h3;have HN:=zHd hn;clear he hF h3 h1 h2 hn;go_enter Tryz.func141,Tryz.ntmps141;go_wp2_with (at_make;refine wpList_make_full _ rfl _ _ 33 rfl w.heap.size 9 i0 (.string ⟨#[]⟩) 1 Tryz.underlying33 hi hz0 hz1 _ _ _ _ n rfl rfl ?c0 ?c1 ?c2 (by have:=HN.out;unfold maxLen;omega) (zqab _) ?_)
 case c0=>omega
 case c1=>omega
 case c2=>have:=HN.out;first|omega|(rw[hz2];omega)
 intro w1 hown hgr;have hfill:=zaB.start hown hgr;have HW:=zHd hfill;clear hown hgr hfill;go_wp2
 go_loopw [13] (fun iv wr=>∃ k:Nat,iv=.int .i64 (k:Int)/\k<=n/\zaB 9 (.string ⟨#[]⟩) n (zhb G k) w wr/\∀ i,i<k->P i) (fun iv _=>n-(intOf iv).toNat)
 case atStart=>exact⟨0,rfl,zqaw _,HW.out,fun i hi=>absurd hi (by omega)⟩
 case round =>
  obtain⟨k,rfl,hle,hfill,hps⟩:=hrel;have HPS:=zHd hps;clear hps;have hzk:=zjF G k
  by_cases hk:k<n
  ·obtain⟨ad,rfl,hb,hc⟩:=HL.out k hk
   have hc2:wr.cell? (ad.add k)=some (V k):=(zaD (ad:=ad.add k) (by rw[zau];exact hfill.gr.block ad.block hb (by simp))).trans hc;have t1:decide (k<n)=true:=by simpa using hk
   have t1':decide ((k:Int)<(n:Int))=true:=by simpa using hk
   have hik:(k:Int)<(n:Int):=by omega
   have n1:IntKind.i64.wrap ((k:Int)+1)=(k:Int)+1:=by have:=HN.out;rw[zqah];omega
   have HFL:=zHd hfill;have HK:=zHd (zAI hk (zAI hzk hle));clear hfill hk hle hzk hb hc;go_wp2_with fail;rw[HE.out];refine(HF.out k HK.out.1 wr HFL.out.gr).mono ?_;rintro e w' (⟨hpk,rfl,hg⟩|⟨hnp,rfl,hg⟩)
   ·have HPK:=zHd hpk
    clear hpk;have hf2:=HFL.out.grown hg;have hcl:=hf2.cell (by rw[HK.out.2.1];exact HK.out.1);have hfr:=hf2.free k;rw[HK.out.2.1] at hcl;have HF2:=zHd hf2;have HG:=zHd hg;clear hf2 hg;go_wp2;obtain⟨hk,hzk,hle⟩:=HK.out;have hput:=HF2.out.put (by rw[hzk];exact hk) (.string (G k));rw[hzk,zlb] at hput;refine⟨⟨k+1,by simp,hk,hput,fun i hi=>?_⟩,by simp[intOf];omega⟩
    by_cases e:i=k
    ·subst e;exact HPK.out
    ·exact HPS.out i (by omega)
   ·go_wp2
    exact⟨rfl,.inr ⟨fun h=>hnp (h k HK.out.1),rfl,zaa HFL.out.gr hg⟩⟩
  ·have hkn:k=n:=by omega
   subst hkn;have t1:decide (k<k)=false:=by simp
   have t1':decide ((k:Int)<(k:Int))=false:=by simp
   have HFL:=zHd hfill;have HK:=zHd hzk;clear hfill hk hle hzk;go_wp2;go_ret;exact .inl ⟨HPS.out,_,rfl,⟨rfl,HFL.out.strs⟩,HFL.out.gr⟩
theorem zlI (F:Nat)(he:Enters F)(first cap:Array Value)(n m2:Nat)(V V2:Nat->Value)(P:Nat->Prop)(G:Nat->ByteArray)(lv rv:Value)(w:World)(hn:n<=10000)(hl:zaG w lv n V)(hr:zaG w rv m2 V2)(hm2:n<=m2)
  (hF:∀ i,i<n->∀ w',w.grownBy w' none->Calls Tryz.prog F (first++(#[V i,V2 i]++cap)) w' (zvf (P i) (.string (G i)) w')) :
  Calls Tryz.prog 86 #[lv,rv,.func (.func F) first cap] w (zla (∀ i,i<n->P i) n G w):=by
 obtain⟨Ad,c,rfl,h1,h2,h3⟩:=hl;obtain⟨Ad2,c',rfl,h1',h2',h3'⟩:=hr;obtain⟨i0,hi,hz0,hz1,hz2⟩:=info_parts zgo;have HE:=zHd he;have HF:=zHd hF;have HL:=zHd h3;have HN:=zHd hn;clear he hF h3 h1 h2 hn;have HL2:=zHd h3';have HM2:=zHd hm2;clear h1' h2' h3' hm2;go_enter Tryz.func86,Tryz.ntmps86;go_wp2_with (at_make;refine wpList_make_full _ rfl _ _ 33 rfl w.heap.size 9 i0 (.string ⟨#[]⟩) 1 Tryz.underlying33 hi hz0 hz1 _ _ _ _ n rfl rfl ?c0 ?c1 ?c2 (by have:=HN.out;unfold maxLen;omega) (zqab _) ?_)
 case c0=>omega
 case c1=>omega
 case c2=>have:=HN.out;first|omega|(rw[hz2];omega)
 intro w1 hown hgr;have hfill:=zaB.start hown hgr;have HW:=zHd hfill;clear hown hgr hfill;go_wp2
 go_loopw [15] (fun iv wr=>∃ k:Nat,iv=.int .i64 (k:Int)/\k<=n/\zaB 9 (.string ⟨#[]⟩) n (zhb G k) w wr/\∀ i,i<k->P i) (fun iv _=>n-(intOf iv).toNat)
 case atStart=>exact⟨0,rfl,zqaw _,HW.out,fun i hi=>absurd hi (by omega)⟩
 case round =>
  obtain⟨k,rfl,hle,hfill,hps⟩:=hrel;have HPS:=zHd hps;clear hps;have hzk:=zjF G k
  by_cases hk:k<n
  ·obtain⟨ad,rfl,hb,hc⟩:=HL.out k hk
   have hc2:wr.cell? (ad.add k)=some (V k):=(zaD (ad:=ad.add k) (by rw[zau];exact hfill.gr.block ad.block hb (by simp))).trans hc;obtain⟨ad2,rfl,hb2,hc3⟩:=HL2.out k (zqba hk HM2.out);have hc4:wr.cell? (ad2.add k)=some (V2 k):=(zaD (ad:=ad2.add k) (by rw[zau];exact hfill.gr.block ad2.block hb2 (by simp))).trans hc3;have hik2':(k:Int)<(m2:Int):=by have:=HM2.out;omega
   clear hb2 hc3;have t1:decide (k<n)=true:=by simpa using hk
   have t1':decide ((k:Int)<(n:Int))=true:=by simpa using hk
   have hik:(k:Int)<(n:Int):=by omega
   have n1:IntKind.i64.wrap ((k:Int)+1)=(k:Int)+1:=by have:=HN.out;rw[zqah];omega
   have HFL:=zHd hfill;have HK:=zHd (zAI hk (zAI hzk hle));clear hfill hk hle hzk hb hc;go_wp2_with fail;rw[HE.out];refine(HF.out k HK.out.1 wr HFL.out.gr).mono ?_;rintro e w' (⟨hpk,rfl,hg⟩|⟨hnp,rfl,hg⟩)
   ·have HPK:=zHd hpk
    clear hpk;have hf2:=HFL.out.grown hg;have hcl:=hf2.cell (by rw[HK.out.2.1];exact HK.out.1);have hfr:=hf2.free k;rw[HK.out.2.1] at hcl;have HF2:=zHd hf2;have HG:=zHd hg;clear hf2 hg;go_wp2;obtain⟨hk,hzk,hle⟩:=HK.out;have hput:=HF2.out.put (by rw[hzk];exact hk) (.string (G k));rw[hzk,zlb] at hput;refine⟨⟨k+1,by simp,hk,hput,fun i hi=>?_⟩,by simp[intOf];omega⟩
    by_cases e:i=k
    ·subst e;exact HPK.out
    ·exact HPS.out i (by omega)
   ·go_wp2
    exact⟨rfl,.inr ⟨fun h=>hnp (h k HK.out.1),rfl,zaa HFL.out.gr hg⟩⟩
  ·have hkn:k=n:=by omega
   subst hkn;have t1:decide (k<k)=false:=by simp
   have t1':decide ((k:Int)<(k:Int))=false:=by simp
   have HFL:=zHd hfill;have HK:=zHd hzk;clear hfill hk hle hzk;go_wp2;go_ret;exact .inl ⟨HPS.out,_,rfl,⟨rfl,HFL.out.strs⟩,HFL.out.gr⟩
theorem ztF (F:Nat)(he:Enters F)(first cap:Array Value)(n m2:Nat)(V V2:Nat->Value)(m:Nat)(P:Nat->Prop)(A:Nat->Nat->Value)(lv rv:Value)(w:World)(hn:n<=10000)(hl:zaG w lv n V)(hr:zaG w rv m2 V2)(hm2:n<=m2)
  (hF:∀ i,i<n->∀ w',w.grownBy w' none->Calls Tryz.prog F (first++(#[V i,V2 i]++cap)) w' (zkY (P i) w.heap.size m (A i) w')) :
  Calls Tryz.prog 76 #[lv,rv,.func (.func F) first cap] w (zkZ (∀ i,i<n->P i) n m A w):=by
 obtain⟨Ad,c,rfl,h1,h2,h3⟩:=hl;obtain⟨Ad2,c',rfl,h1',h2',h3'⟩:=hr;obtain⟨i0,hi,hz0,hz1,hz2⟩:=info_parts zeN;have HE:=zHd he;have HF:=zHd hF;have HL:=zHd h3;have HN:=zHd hn;clear he hF h3 h1 h2 hn;have HL2:=zHd h3';have HM2:=zHd hm2;clear h1' h2' h3' hm2;go_enter Tryz.func76,Tryz.ntmps76;go_wp2_with (at_make;refine wpList_make_full _ rfl _ _ 22 rfl w.heap.size 33 i0 (.slice none 0 0) 1 Tryz.underlying22 hi hz0 hz1 _ _ _ _ n rfl rfl ?c0 ?c1 ?c2 (by have:=HN.out;unfold maxLen;omega) (zqab _) ?_)
 case c0=>omega
 case c1=>omega
 case c2=>have:=HN.out;first|omega|(rw[hz2];omega)
 intro w1 hown hgr;have hfill:=zaB.start hown hgr;have HW:=zHd hfill;clear hown hgr hfill;go_wp2
 go_loopw [15] (fun iv wr=>∃ zs:List Value,iv=.int .i64 (zs.length:Int)/\zaB 33 (.slice none 0 0) n zs w wr/\∀ i,i<zs.length->∃ gi off c,zs.getD i (.slice none 0 0)=.slice (some ⟨gi,off,none⟩) m c/\m<=c/\c<=maxLen/\gi≠w.heap.size/\zaq wr gi off m (A i)/\P i) (fun iv _=>n-(intOf iv).toNat)
 case atStart=>exact⟨[],rfl,HW.out,fun i hi=>absurd hi (by simp)⟩
 case round =>
  obtain⟨zs,rfl,hfill,hrows⟩:=hrel;obtain⟨k,hzk⟩:∃ k,zs.length=k:=⟨_,rfl⟩;have hle:=hfill.le
  by_cases hk:k<n
  ·obtain⟨ad,rfl,hb,hc⟩:=HL.out k hk
   have hc2:wr.cell? (ad.add k)=some (V k):=(zaD (ad:=ad.add k) (by rw[zau];exact hfill.gr.block ad.block hb (by simp))).trans hc;obtain⟨ad2,rfl,hb2,hc3⟩:=HL2.out k (zqba hk HM2.out);have hc4:wr.cell? (ad2.add k)=some (V2 k):=(zaD (ad:=ad2.add k) (by rw[zau];exact hfill.gr.block ad2.block hb2 (by simp))).trans hc3;have hik2':(k:Int)<(m2:Int):=by have:=HM2.out;omega
   clear hb2 hc3;have t1:decide (k<n)=true:=by simpa using hk
   have t1':decide ((k:Int)<(n:Int))=true:=by simpa using hk
   have hik:(k:Int)<(n:Int):=by omega
   have n1:IntKind.i64.wrap ((k:Int)+1)=(k:Int)+1:=by have:=HN.out;rw[zqah];omega
   have HFL:=zHd hfill;have HK:=zHd (zAI hk (zAI hzk hle));have HR:=zHd hrows;rw[hzk];clear hrows;clear hfill hk hle hzk hb hc;go_wp2_with fail;rw[HE.out];refine(HF.out k HK.out.1 wr HFL.out.gr).mono ?_;rintro e w' (⟨hpk,v,rfl,⟨g,off,c2,rfl,hm1,hm2,hgl,hrow⟩,hg⟩|⟨hnp,rfl,hg⟩)
   ·have HPK:=zHd hpk
    clear hpk;have hf2:=HFL.out.grown hg;have hcl:=hf2.cell (by rw[HK.out.2.1];exact HK.out.1);have hfr:=hf2.free k;rw[HK.out.2.1] at hcl;have HF2:=zHd hf2;have HG:=zHd hg;have HROW:=zHd (zAI hm1 (zAI hm2 (zAI hgl hrow)));clear hf2 hg hm1 hm2 hgl hrow;go_wp2;obtain⟨hk,hzk,hle⟩:=HK.out;have hput:=HF2.out.put (by rw[hzk];exact hk) (.slice (some ⟨g,off,none⟩) m c2);rw[hzk] at hput;obtain⟨hm1,hm2,hgl,hrow⟩:=HROW.out
    have hne:g≠w.heap.size:=by
     rcases hgl with h|h
     ·omega
     ·have:=(zqad.1 HFL.out.row).1;omega
    refine⟨⟨zs++[.slice (some ⟨g,off,none⟩) m c2],by simp[hzk],hput,fun i hi=>?_⟩,by simp[intOf];omega⟩
    by_cases hik2:i<zs.length
    ·obtain⟨gi,oi,ci,e1,e2,e3,e4,e5,e6⟩:=HR.out i hik2
     refine⟨gi,oi,ci,?_,e2,e3,e4,(e5.grown HG.out).grownB (zac _ _ _) e4,e6⟩;rw[zqaa,zqal hik2,<- zqaa];exact e1
    ·have hi2:i=k:=by simp at hi;omega
     subst hi2;refine⟨g,off,c2,?_,hm1,hm2,hne,hrow.grownB (zac _ _ _) hne,HPK.out⟩;rw[zqaa,zqaq (by omega),hzk,zqbr];rfl
   ·go_wp2
    exact⟨rfl,.inr ⟨fun h=>hnp (h k HK.out.1),rfl,zaa HFL.out.gr hg⟩⟩
  ·have hkn:k=n:=by omega
   subst hkn;have t1:decide (k<k)=false:=by simp
   have t1':decide ((k:Int)<(k:Int))=false:=by simp
   have HFL:=zHd hfill;have HK:=zHd hzk;have HR:=zHd hrows;rw[hzk];clear hrows;clear hfill hk hle hzk;go_wp2;go_ret;have hzk:=HK.out;exact .inl ⟨fun i hi=>by obtain⟨_,_,_,_,_,_,_,_,h⟩:=HR.out i (by omega);exact h,_,rfl,⟨zs,rfl,hzk,HFL.out.rowAt hzk,fun i hi=>by obtain⟨gi,oi,ci,e1,e2,e3,e4,e5,e6⟩:=HR.out i (by omega);exact⟨gi,oi,ci,e1,e2,e3,e4,e5⟩⟩,HFL.out.gr⟩
theorem zvg (F:Nat)(he:Enters F)(first cap:Array Value)(n m2:Nat)(V V2:Nat->Value)(m:Nat)(P:Nat->Prop)(A:Nat->Nat->Value)(lv rv:Value)(w:World)(hn:n<=10000)(hl:zaG w lv n V)(hr:zaG w rv m2 V2)(hm2:n<=m2)
  (hF:∀ i,i<n->∀ w',w.grownBy w' none->Calls Tryz.prog F (first++(#[V i,V2 i]++cap)) w' (zkY (P i) w.heap.size m (A i) w')) :
  Calls Tryz.prog 84 #[lv,rv,.func (.func F) first cap] w (zkZ (∀ i,i<n->P i) n m A w):=by
 obtain⟨Ad,c,rfl,h1,h2,h3⟩:=hl;obtain⟨Ad2,c',rfl,h1',h2',h3'⟩:=hr;obtain⟨i0,hi,hz0,hz1,hz2⟩:=info_parts zeN;have HE:=zHd he;have HF:=zHd hF;have HL:=zHd h3;have HN:=zHd hn;clear he hF h3 h1 h2 hn;have HL2:=zHd h3';have HM2:=zHd hm2;clear h1' h2' h3' hm2;go_enter Tryz.func84,Tryz.ntmps84;go_wp2_with (at_make;refine wpList_make_full _ rfl _ _ 22 rfl w.heap.size 33 i0 (.slice none 0 0) 1 Tryz.underlying22 hi hz0 hz1 _ _ _ _ n rfl rfl ?c0 ?c1 ?c2 (by have:=HN.out;unfold maxLen;omega) (zqab _) ?_)
 case c0=>omega
 case c1=>omega
 case c2=>have:=HN.out;first|omega|(rw[hz2];omega)
 intro w1 hown hgr;have hfill:=zaB.start hown hgr;have HW:=zHd hfill;clear hown hgr hfill;go_wp2
 go_loopw [15] (fun iv wr=>∃ zs:List Value,iv=.int .i64 (zs.length:Int)/\zaB 33 (.slice none 0 0) n zs w wr/\∀ i,i<zs.length->∃ gi off c,zs.getD i (.slice none 0 0)=.slice (some ⟨gi,off,none⟩) m c/\m<=c/\c<=maxLen/\gi≠w.heap.size/\zaq wr gi off m (A i)/\P i) (fun iv _=>n-(intOf iv).toNat)
 case atStart=>exact⟨[],rfl,HW.out,fun i hi=>absurd hi (by simp)⟩
 case round =>
  obtain⟨zs,rfl,hfill,hrows⟩:=hrel;obtain⟨k,hzk⟩:∃ k,zs.length=k:=⟨_,rfl⟩;have hle:=hfill.le
  by_cases hk:k<n
  ·obtain⟨ad,rfl,hb,hc⟩:=HL.out k hk
   have hc2:wr.cell? (ad.add k)=some (V k):=(zaD (ad:=ad.add k) (by rw[zau];exact hfill.gr.block ad.block hb (by simp))).trans hc;obtain⟨ad2,rfl,hb2,hc3⟩:=HL2.out k (zqba hk HM2.out);have hc4:wr.cell? (ad2.add k)=some (V2 k):=(zaD (ad:=ad2.add k) (by rw[zau];exact hfill.gr.block ad2.block hb2 (by simp))).trans hc3;have hik2':(k:Int)<(m2:Int):=by have:=HM2.out;omega
   clear hb2 hc3;have t1:decide (k<n)=true:=by simpa using hk
   have t1':decide ((k:Int)<(n:Int))=true:=by simpa using hk
   have hik:(k:Int)<(n:Int):=by omega
   have n1:IntKind.i64.wrap ((k:Int)+1)=(k:Int)+1:=by have:=HN.out;rw[zqah];omega
   have HFL:=zHd hfill;have HK:=zHd (zAI hk (zAI hzk hle));have HR:=zHd hrows;rw[hzk];clear hrows;clear hfill hk hle hzk hb hc;go_wp2_with fail;rw[HE.out];refine(HF.out k HK.out.1 wr HFL.out.gr).mono ?_;rintro e w' (⟨hpk,v,rfl,⟨g,off,c2,rfl,hm1,hm2,hgl,hrow⟩,hg⟩|⟨hnp,rfl,hg⟩)
   ·have HPK:=zHd hpk
    clear hpk;have hf2:=HFL.out.grown hg;have hcl:=hf2.cell (by rw[HK.out.2.1];exact HK.out.1);have hfr:=hf2.free k;rw[HK.out.2.1] at hcl;have HF2:=zHd hf2;have HG:=zHd hg;have HROW:=zHd (zAI hm1 (zAI hm2 (zAI hgl hrow)));clear hf2 hg hm1 hm2 hgl hrow;go_wp2;obtain⟨hk,hzk,hle⟩:=HK.out;have hput:=HF2.out.put (by rw[hzk];exact hk) (.slice (some ⟨g,off,none⟩) m c2);rw[hzk] at hput;obtain⟨hm1,hm2,hgl,hrow⟩:=HROW.out
    have hne:g≠w.heap.size:=by
     rcases hgl with h|h
     ·omega
     ·have:=(zqad.1 HFL.out.row).1;omega
    refine⟨⟨zs++[.slice (some ⟨g,off,none⟩) m c2],by simp[hzk],hput,fun i hi=>?_⟩,by simp[intOf];omega⟩
    by_cases hik2:i<zs.length
    ·obtain⟨gi,oi,ci,e1,e2,e3,e4,e5,e6⟩:=HR.out i hik2
     refine⟨gi,oi,ci,?_,e2,e3,e4,(e5.grown HG.out).grownB (zac _ _ _) e4,e6⟩;rw[zqaa,zqal hik2,<- zqaa];exact e1
    ·have hi2:i=k:=by simp at hi;omega
     subst hi2;refine⟨g,off,c2,?_,hm1,hm2,hne,hrow.grownB (zac _ _ _) hne,HPK.out⟩;rw[zqaa,zqaq (by omega),hzk,zqbr];rfl
   ·go_wp2
    exact⟨rfl,.inr ⟨fun h=>hnp (h k HK.out.1),rfl,zaa HFL.out.gr hg⟩⟩
  ·have hkn:k=n:=by omega
   subst hkn;have t1:decide (k<k)=false:=by simp
   have t1':decide ((k:Int)<(k:Int))=false:=by simp
   have HFL:=zHd hfill;have HK:=zHd hzk;have HR:=zHd hrows;rw[hzk];clear hrows;clear hfill hk hle hzk;go_wp2;go_ret;have hzk:=HK.out;exact .inl ⟨fun i hi=>by obtain⟨_,_,_,_,_,_,_,_,h⟩:=HR.out i (by omega);exact h,_,rfl,⟨zs,rfl,hzk,HFL.out.rowAt hzk,fun i hi=>by obtain⟨gi,oi,ci,e1,e2,e3,e4,e5,e6⟩:=HR.out i (by omega);exact⟨gi,oi,ci,e1,e2,e3,e4,e5⟩⟩,HFL.out.gr⟩
end Go.Proofs.YtaogepcaoogpgaaGreatDoor
