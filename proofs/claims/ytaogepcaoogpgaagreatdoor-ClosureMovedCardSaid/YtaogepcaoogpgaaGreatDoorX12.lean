/- W11 W65 -/
import Derived.Test.YtaogepcaoogpgaaGreatDoorX11
set_option linter.unusedVariables false
set_option linter.unusedSimpArgs false
set_option maxRecDepth 100000
set_option maxHeartbeats 16000000
namespace Go.Proofs.YtaogepcaoogpgaaGreatDoor
open Go.RowKit
open Go.Lib (nDigits decDigits)
theorem zpa (s:ByteArray)(k:Nat)(hk:k<s.size):s.data.toList[k]? = some s[k]:=Lib.data_getElem? s k hk
theorem zxE (s:ByteArray)(w:World)(hs:s.size≤maxLen) :
  Calls Tryz.prog 172 #[.string s,.int .u8 47] w fun e w'=>e = .returned (.int .i64 (Lib.indexByte s.data.toList 47))∧w=w':=by
 unfold maxLen at hs;go_enter Tryz.func172,Tryz.ntmps172;go_wp2
 go_loop [5] (fun i=>∃ k:Nat,i = .int .i64 k∧k≤s.size∧Lib.NoAny s.data.toList [47] k) (fun i=>s.size - (intOf i).toNat)
 case atStart=>exact⟨0,rfl,by omega,Lib.NoAny.zero _ _⟩
 case round =>
  obtain⟨k,rfl,hk,hno⟩:=hrel;have HNO:=zHd hno;clear hno
  by_cases hlt:k<s.size
  ·have hat:=zHd (zpa s k hlt)
   cases he:((s[k].toNat:Int) == 47)
   ·have hx:¬ (s[k].toNat:Int)=47:=by simpa using he
    have hc:([47]:List UInt8).contains s[k]=false:=by
     simp only[List.contains_cons,List.contains_nil,Bool.or_false,beq_eq_false_iff_ne];intro e;rw[e] at hx;exact hx rfl
    have HS:=zHd (HNO.out.succ hat.out hc);clear hx hc;go_wp2
    go_round
    case rel=>exact⟨k+1,by go_num,by omega,HS.out⟩
    case measure=>simp[intOf];omega
   ·have hx:(s[k].toNat:Int)=47:=by simpa using he
    have hc:([47]:List UInt8).contains s[k]=true:=by
     have:s[k]=47:=UInt8.toNat_inj.1 (by have:(47:UInt8).toNat=47:=rfl;omega);rw[this];decide
    have HS:=zHd (Lib.indexAny_hit HNO.out hat.out hc);clear hx hc;go_wp2;go_ret;exact⟨by rw[← Lib.indexAny_one,HS.out];rfl,rfl⟩
  ·have HS:=zHd (Lib.indexAny_none (s:=s.data.toList) (chars:=[47]) (by
    have e:k=s.data.toList.length:=by rw[← Lib.size_eq];omega
    rw[← e];exact HNO.out))
   go_wp2;go_ret;exact⟨by rw[← Lib.indexAny_one,HS.out];rfl,rfl⟩
def zcI (s:ByteArray):Bool:=decide (s.size≤400)&&numB s
theorem zhU (s:ByteArray)(w:World)(hs:s.size≤maxLen) :
  Calls Tryz.prog 173 #[.string s] w fun e w'=>e = .returned (.bool (zcI s))∧w=w':=by
 have hv:=fun w=>zan s w hs
 by_cases h:s.size≤400
 ·have HN:=zHd (show zcI s=numB s by unfold zcI;simp[h])
  have h1:(s.size:Int)≤400:=by omega
  generalize numB s=b at *;have HV:=zHd hv;clear hv;go_enter Tryz.func173,Tryz.ntmps173;go_wp2_with fail;refine(HV.out _).mono ?_;rintro e w' ⟨rfl,rfl⟩;go_wp2;go_ret;exact⟨by rw[HN.out];rfl,rfl⟩
 ·have HN:=zHd (show zcI s=false by unfold zcI;simp[h])
  have h1:¬ (s.size:Int)≤400:=by omega
  clear hv;go_enter Tryz.func173,Tryz.ntmps173;go_wp2;go_ret;exact⟨by rw[HN.out];rfl,rfl⟩
theorem zuL (A C P:ByteArray)(w:World)(M:Hid (∀ w,Calls Tryz.prog 178 #[.string A,.string C] w (zab (.tuple #[.string P,.int .i64 0]) w))) :
  Calls Tryz.prog 139 #[.string A,.string C] w (zab (.string P) w):=by
 go_enter Tryz.func139,Tryz.ntmps139;go_wp2_with fail;refine(M.out _).mono ?_;rintro e w1 ⟨rfl,hg⟩;have G1:=zHd hg;clear hg;go_wp2;go_ret;exact⟨rfl,G1.out⟩
open Go.RowKit
open Go.Lib (nDigits decDigits)
def zcb (R:ByteArray)(z:Int):Prop:=∀ w,Calls Tryz.prog 172 #[.string R,.int .u8 47] w fun e w'=>e = .returned (.int .i64 z)∧w=w'
def ShOk (s:ByteArray)(b:Bool):Prop:=∀ w,Calls Tryz.prog 173 #[.string s] w fun e w'=>e = .returned (.bool b)∧w=w'
def GcOk (n d G:ByteArray):Prop:=∀ w,Calls Tryz.prog 174 #[.string n,.string d] w (zab (.tuple #[.string G,.int .i64 0]) w)
theorem zpb (a R G:ByteArray)(w:World)(h0:¬ (0:Int)<(a.size:Int))(eR:a=R)
  (IX:Hid (zcb R (-1))) (S1:Hid (ShOk R false)) :
  Calls Tryz.prog 137 #[.string a] w (zab (.tuple #[.bool false,.string ⟨#[]⟩,.string ⟨#[]⟩,.bool false]) w):=by
 subst eR;go_enter Tryz.func137,Tryz.ntmps137;go_wp2_with fail;refine(IX.out _).mono ?_;rintro e w' ⟨rfl,rfl⟩;go_wp2_with fail;refine(S1.out _).mono ?_;rintro e w' ⟨rfl,rfl⟩;go_wp2;exact bodyPost_ret (v := .tuple #[.bool _,.string _,.string _,.bool _]) (by simp[results,Tryz.results137,go_sem]) rfl ⟨rfl,zah _ _⟩
theorem zpc (a R G:ByteArray)(w:World)(h0:(0:Int)<(a.size:Int))(hp:0<a.size)(h1:(((a[0]'hp).toNat:Int) == 45)=false)(eR:a=R)
  (IX:Hid (zcb R (-1))) (S1:Hid (ShOk R false)) :
  Calls Tryz.prog 137 #[.string a] w (zab (.tuple #[.bool false,.string ⟨#[]⟩,.string ⟨#[]⟩,.bool false]) w):=by
 subst eR;go_enter Tryz.func137,Tryz.ntmps137;go_wp2_with fail;refine(IX.out _).mono ?_;rintro e w' ⟨rfl,rfl⟩;go_wp2_with fail;refine(S1.out _).mono ?_;rintro e w' ⟨rfl,rfl⟩;go_wp2;exact bodyPost_ret (v := .tuple #[.bool _,.string _,.string _,.bool _]) (by simp[results,Tryz.results137,go_sem]) rfl ⟨rfl,zah _ _⟩
theorem zpd (a R G:ByteArray)(w:World)(h0:(0:Int)<(a.size:Int))(hp:0<a.size)(h1:(((a[0]'hp).toNat:Int) == 45)=true)(hle:(1:Int)≤(a.size:Int))(eR:a.extract 1 a.size=R)
  (IX:Hid (zcb R (-1))) (S1:Hid (ShOk R false)) :
  Calls Tryz.prog 137 #[.string a] w (zab (.tuple #[.bool false,.string ⟨#[]⟩,.string ⟨#[]⟩,.bool false]) w):=by
 go_enter Tryz.func137,Tryz.ntmps137;go_wp2_with fail;refine(IX.out _).mono ?_;rintro e w' ⟨rfl,rfl⟩;go_wp2_with fail;refine(S1.out _).mono ?_;rintro e w' ⟨rfl,rfl⟩;go_wp2;exact bodyPost_ret (v := .tuple #[.bool _,.string _,.string _,.bool _]) (by simp[results,Tryz.results137,go_sem]) rfl ⟨rfl,zah _ _⟩
theorem znG (a R G:ByteArray)(w:World)(h0:(0:Int)<(a.size:Int))(hp:0<a.size)(h1:(((a[0]'hp).toNat:Int) == 45)=false)(eR:a=R)
  (IX:Hid (zcb R (-1))) (S1:Hid (ShOk R true)) (S2:Hid (ShOk ⟨#[49]⟩ true)) (z1:(R.toList == [48])=true) (GC:Hid (GcOk R ⟨#[49]⟩ G)) (q1:(G.toList == [49])=true) (q2:(G.toList != [49])=false) :
  Calls Tryz.prog 137 #[.string a] w (zab (.tuple #[.bool false,.string R,.string ⟨#[49]⟩,.bool true]) w):=by
 subst eR;go_enter Tryz.func137,Tryz.ntmps137;go_wp2_with fail;refine(IX.out _).mono ?_;rintro e w' ⟨rfl,rfl⟩;go_wp2_with fail;refine(S1.out _).mono ?_;rintro e w' ⟨rfl,rfl⟩;go_wp2_with fail;refine(S2.out _).mono ?_;rintro e w' ⟨rfl,rfl⟩;go_wp2_with fail;refine(GC.out _).mono ?_;rintro e w1 ⟨rfl,hg⟩;have G1:=zHd hg;clear hg;go_wp2;exact bodyPost_ret (v := .tuple #[.bool _,.string _,.string _,.bool _]) (by simp[results,Tryz.results137,go_sem]) rfl ⟨rfl,G1.out⟩
theorem znH (a R G:ByteArray)(w:World)(h0:(0:Int)<(a.size:Int))(hp:0<a.size)(h1:(((a[0]'hp).toNat:Int) == 45)=false)(eR:a=R)
  (IX:Hid (zcb R (-1))) (S1:Hid (ShOk R true)) (S2:Hid (ShOk ⟨#[49]⟩ true)) (z1:(R.toList == [48])=false) (GC:Hid (GcOk R ⟨#[49]⟩ G)) (q1:(G.toList == [49])=true) (q2:(G.toList != [49])=false) :
  Calls Tryz.prog 137 #[.string a] w (zab (.tuple #[.bool false,.string R,.string ⟨#[49]⟩,.bool true]) w):=by
 subst eR;go_enter Tryz.func137,Tryz.ntmps137;go_wp2_with fail;refine(IX.out _).mono ?_;rintro e w' ⟨rfl,rfl⟩;go_wp2_with fail;refine(S1.out _).mono ?_;rintro e w' ⟨rfl,rfl⟩;go_wp2_with fail;refine(S2.out _).mono ?_;rintro e w' ⟨rfl,rfl⟩;go_wp2_with fail;refine(GC.out _).mono ?_;rintro e w1 ⟨rfl,hg⟩;have G1:=zHd hg;clear hg;go_wp2;exact bodyPost_ret (v := .tuple #[.bool _,.string _,.string _,.bool _]) (by simp[results,Tryz.results137,go_sem]) rfl ⟨rfl,G1.out⟩
theorem zpe (a R G:ByteArray)(w:World)(h0:(0:Int)<(a.size:Int))(hp:0<a.size)(h1:(((a[0]'hp).toNat:Int) == 45)=true)(hle:(1:Int)≤(a.size:Int))(eR:a.extract 1 a.size=R)
  (IX:Hid (zcb R (-1))) (S1:Hid (ShOk R true)) (S2:Hid (ShOk ⟨#[49]⟩ true)) (z1:(R.toList == [48])=true) :
  Calls Tryz.prog 137 #[.string a] w (zab (.tuple #[.bool false,.string ⟨#[]⟩,.string ⟨#[]⟩,.bool false]) w):=by
 go_enter Tryz.func137,Tryz.ntmps137;go_wp2_with fail;refine(IX.out _).mono ?_;rintro e w' ⟨rfl,rfl⟩;go_wp2_with fail;refine(S1.out _).mono ?_;rintro e w' ⟨rfl,rfl⟩;go_wp2_with fail;refine(S2.out _).mono ?_;rintro e w' ⟨rfl,rfl⟩;go_wp2;exact bodyPost_ret (v := .tuple #[.bool _,.string _,.string _,.bool _]) (by simp[results,Tryz.results137,go_sem]) rfl ⟨rfl,zah _ _⟩
theorem znI (a R G:ByteArray)(w:World)(h0:(0:Int)<(a.size:Int))(hp:0<a.size)(h1:(((a[0]'hp).toNat:Int) == 45)=true)(hle:(1:Int)≤(a.size:Int))(eR:a.extract 1 a.size=R)
  (IX:Hid (zcb R (-1))) (S1:Hid (ShOk R true)) (S2:Hid (ShOk ⟨#[49]⟩ true)) (z1:(R.toList == [48])=false) (GC:Hid (GcOk R ⟨#[49]⟩ G)) (q1:(G.toList == [49])=true) (q2:(G.toList != [49])=false) :
  Calls Tryz.prog 137 #[.string a] w (zab (.tuple #[.bool true,.string R,.string ⟨#[49]⟩,.bool true]) w):=by
 go_enter Tryz.func137,Tryz.ntmps137;go_wp2_with fail;refine(IX.out _).mono ?_;rintro e w' ⟨rfl,rfl⟩;go_wp2_with fail;refine(S1.out _).mono ?_;rintro e w' ⟨rfl,rfl⟩;go_wp2_with fail;refine(S2.out _).mono ?_;rintro e w' ⟨rfl,rfl⟩;go_wp2_with fail;refine(GC.out _).mono ?_;rintro e w1 ⟨rfl,hg⟩;have G1:=zHd hg;clear hg;go_wp2;exact bodyPost_ret (v := .tuple #[.bool _,.string _,.string _,.bool _]) (by simp[results,Tryz.results137,go_sem]) rfl ⟨rfl,G1.out⟩
theorem zpf (a R n d G:ByteArray)(i:Nat)(w:World)(h0:(0:Int)<(a.size:Int))(hp:0<a.size)(h1:(((a[0]'hp).toNat:Int) == 45)=false)(eR:a=R)
  (hi:i<R.size) (hR:R.size≤9223372036854775807) (IX:Hid (zcb R i)) (eN:R.extract 0 i=n) (eD:R.extract (i+1) R.size=d) (S1:Hid (ShOk n false)) :
  Calls Tryz.prog 137 #[.string a] w (zab (.tuple #[.bool false,.string ⟨#[]⟩,.string ⟨#[]⟩,.bool false]) w):=by
 have c1:(0:Int)≤(i:Int):=by omega
 have c2:(i:Int)≤(R.size:Int):=by omega
 have c3:(0:Int)≤(i:Int)+1:=by omega
 have c4:(i:Int)+1≤(R.size:Int):=by omega
 subst eR;go_enter Tryz.func137,Tryz.ntmps137;go_wp2_with fail;refine(IX.out _).mono ?_;rintro e w' ⟨rfl,rfl⟩;go_wp2_with fail;refine(S1.out _).mono ?_;rintro e w' ⟨rfl,rfl⟩;go_wp2;exact bodyPost_ret (v := .tuple #[.bool _,.string _,.string _,.bool _]) (by simp[results,Tryz.results137,go_sem]) rfl ⟨rfl,zah _ _⟩
theorem zpg (a R n d G:ByteArray)(i:Nat)(w:World)(h0:(0:Int)<(a.size:Int))(hp:0<a.size)(h1:(((a[0]'hp).toNat:Int) == 45)=false)(eR:a=R)
  (hi:i<R.size) (hR:R.size≤9223372036854775807) (IX:Hid (zcb R i)) (eN:R.extract 0 i=n) (eD:R.extract (i+1) R.size=d) (S1:Hid (ShOk n true)) (S2:Hid (ShOk d false)) :
  Calls Tryz.prog 137 #[.string a] w (zab (.tuple #[.bool false,.string ⟨#[]⟩,.string ⟨#[]⟩,.bool false]) w):=by
 have c1:(0:Int)≤(i:Int):=by omega
 have c2:(i:Int)≤(R.size:Int):=by omega
 have c3:(0:Int)≤(i:Int)+1:=by omega
 have c4:(i:Int)+1≤(R.size:Int):=by omega
 subst eR;go_enter Tryz.func137,Tryz.ntmps137;go_wp2_with fail;refine(IX.out _).mono ?_;rintro e w' ⟨rfl,rfl⟩;go_wp2_with fail;refine(S1.out _).mono ?_;rintro e w' ⟨rfl,rfl⟩;go_wp2_with fail;refine(S2.out _).mono ?_;rintro e w' ⟨rfl,rfl⟩;go_wp2;exact bodyPost_ret (v := .tuple #[.bool _,.string _,.string _,.bool _]) (by simp[results,Tryz.results137,go_sem]) rfl ⟨rfl,zah _ _⟩
theorem zph (a R n d G:ByteArray)(i:Nat)(w:World)(h0:(0:Int)<(a.size:Int))(hp:0<a.size)(h1:(((a[0]'hp).toNat:Int) == 45)=false)(eR:a=R)
  (hi:i<R.size) (hR:R.size≤9223372036854775807) (IX:Hid (zcb R i)) (eN:R.extract 0 i=n) (eD:R.extract (i+1) R.size=d) (S1:Hid (ShOk n true)) (S2:Hid (ShOk d true)) (z2:(d.toList == [48])=true) :
  Calls Tryz.prog 137 #[.string a] w (zab (.tuple #[.bool false,.string ⟨#[]⟩,.string ⟨#[]⟩,.bool false]) w):=by
 have c1:(0:Int)≤(i:Int):=by omega
 have c2:(i:Int)≤(R.size:Int):=by omega
 have c3:(0:Int)≤(i:Int)+1:=by omega
 have c4:(i:Int)+1≤(R.size:Int):=by omega
 subst eR;go_enter Tryz.func137,Tryz.ntmps137;go_wp2_with fail;refine(IX.out _).mono ?_;rintro e w' ⟨rfl,rfl⟩;go_wp2_with fail;refine(S1.out _).mono ?_;rintro e w' ⟨rfl,rfl⟩;go_wp2_with fail;refine(S2.out _).mono ?_;rintro e w' ⟨rfl,rfl⟩;go_wp2;exact bodyPost_ret (v := .tuple #[.bool _,.string _,.string _,.bool _]) (by simp[results,Tryz.results137,go_sem]) rfl ⟨rfl,zah _ _⟩
theorem zpi (a R n d G:ByteArray)(i:Nat)(w:World)(h0:(0:Int)<(a.size:Int))(hp:0<a.size)(h1:(((a[0]'hp).toNat:Int) == 45)=false)(eR:a=R)
  (hi:i<R.size) (hR:R.size≤9223372036854775807) (IX:Hid (zcb R i)) (eN:R.extract 0 i=n) (eD:R.extract (i+1) R.size=d) (S1:Hid (ShOk n true)) (S2:Hid (ShOk d true)) (z2:(d.toList == [48])=false) (z1:(n.toList == [48])=true) :
  Calls Tryz.prog 137 #[.string a] w (zab (.tuple #[.bool false,.string ⟨#[]⟩,.string ⟨#[]⟩,.bool false]) w):=by
 have c1:(0:Int)≤(i:Int):=by omega
 have c2:(i:Int)≤(R.size:Int):=by omega
 have c3:(0:Int)≤(i:Int)+1:=by omega
 have c4:(i:Int)+1≤(R.size:Int):=by omega
 subst eR;go_enter Tryz.func137,Tryz.ntmps137;go_wp2_with fail;refine(IX.out _).mono ?_;rintro e w' ⟨rfl,rfl⟩;go_wp2_with fail;refine(S1.out _).mono ?_;rintro e w' ⟨rfl,rfl⟩;go_wp2_with fail;refine(S2.out _).mono ?_;rintro e w' ⟨rfl,rfl⟩;go_wp2;exact bodyPost_ret (v := .tuple #[.bool _,.string _,.string _,.bool _]) (by simp[results,Tryz.results137,go_sem]) rfl ⟨rfl,zah _ _⟩
theorem zpj (a R n d G:ByteArray)(i:Nat)(w:World)(h0:(0:Int)<(a.size:Int))(hp:0<a.size)(h1:(((a[0]'hp).toNat:Int) == 45)=false)(eR:a=R)
  (hi:i<R.size) (hR:R.size≤9223372036854775807) (IX:Hid (zcb R i)) (eN:R.extract 0 i=n) (eD:R.extract (i+1) R.size=d) (S1:Hid (ShOk n true)) (S2:Hid (ShOk d true)) (z2:(d.toList == [48])=false) (z1:(n.toList == [48])=false) (o2:(d.toList == [49])=true) :
  Calls Tryz.prog 137 #[.string a] w (zab (.tuple #[.bool false,.string ⟨#[]⟩,.string ⟨#[]⟩,.bool false]) w):=by
 have c1:(0:Int)≤(i:Int):=by omega
 have c2:(i:Int)≤(R.size:Int):=by omega
 have c3:(0:Int)≤(i:Int)+1:=by omega
 have c4:(i:Int)+1≤(R.size:Int):=by omega
 subst eR;go_enter Tryz.func137,Tryz.ntmps137;go_wp2_with fail;refine(IX.out _).mono ?_;rintro e w' ⟨rfl,rfl⟩;go_wp2_with fail;refine(S1.out _).mono ?_;rintro e w' ⟨rfl,rfl⟩;go_wp2_with fail;refine(S2.out _).mono ?_;rintro e w' ⟨rfl,rfl⟩;go_wp2;exact bodyPost_ret (v := .tuple #[.bool _,.string _,.string _,.bool _]) (by simp[results,Tryz.results137,go_sem]) rfl ⟨rfl,zah _ _⟩
theorem zpk (a R n d G:ByteArray)(i:Nat)(w:World)(h0:(0:Int)<(a.size:Int))(hp:0<a.size)(h1:(((a[0]'hp).toNat:Int) == 45)=false)(eR:a=R)
  (hi:i<R.size) (hR:R.size≤9223372036854775807) (IX:Hid (zcb R i)) (eN:R.extract 0 i=n) (eD:R.extract (i+1) R.size=d) (S1:Hid (ShOk n true)) (S2:Hid (ShOk d true)) (z2:(d.toList == [48])=false) (z1:(n.toList == [48])=false) (o2:(d.toList == [49])=false) (o3:(d.toList != [49])=true) (GC:Hid (GcOk n d G)) (q1:(G.toList == [49])=false) (q2:(G.toList != [49])=true) :
  Calls Tryz.prog 137 #[.string a] w (zab (.tuple #[.bool false,.string ⟨#[]⟩,.string ⟨#[]⟩,.bool false]) w):=by
 have c1:(0:Int)≤(i:Int):=by omega
 have c2:(i:Int)≤(R.size:Int):=by omega
 have c3:(0:Int)≤(i:Int)+1:=by omega
 have c4:(i:Int)+1≤(R.size:Int):=by omega
 subst eR;go_enter Tryz.func137,Tryz.ntmps137;go_wp2_with fail;refine(IX.out _).mono ?_;rintro e w' ⟨rfl,rfl⟩;go_wp2_with fail;refine(S1.out _).mono ?_;rintro e w' ⟨rfl,rfl⟩;go_wp2_with fail;refine(S2.out _).mono ?_;rintro e w' ⟨rfl,rfl⟩;go_wp2_with fail;refine(GC.out _).mono ?_;rintro e w1 ⟨rfl,hg⟩;have G1:=zHd hg;clear hg;go_wp2;exact bodyPost_ret (v := .tuple #[.bool _,.string _,.string _,.bool _]) (by simp[results,Tryz.results137,go_sem]) rfl ⟨rfl,G1.out⟩
theorem zpl (a R n d G:ByteArray)(i:Nat)(w:World)(h0:(0:Int)<(a.size:Int))(hp:0<a.size)(h1:(((a[0]'hp).toNat:Int) == 45)=false)(eR:a=R)
  (hi:i<R.size) (hR:R.size≤9223372036854775807) (IX:Hid (zcb R i)) (eN:R.extract 0 i=n) (eD:R.extract (i+1) R.size=d) (S1:Hid (ShOk n true)) (S2:Hid (ShOk d true)) (z2:(d.toList == [48])=false) (z1:(n.toList == [48])=false) (o2:(d.toList == [49])=false) (o3:(d.toList != [49])=true) (GC:Hid (GcOk n d G)) (q1:(G.toList == [49])=true) (q2:(G.toList != [49])=false) :
  Calls Tryz.prog 137 #[.string a] w (zab (.tuple #[.bool false,.string n,.string d,.bool true]) w):=by
 have c1:(0:Int)≤(i:Int):=by omega
 have c2:(i:Int)≤(R.size:Int):=by omega
 have c3:(0:Int)≤(i:Int)+1:=by omega
 have c4:(i:Int)+1≤(R.size:Int):=by omega
 subst eR;go_enter Tryz.func137,Tryz.ntmps137;go_wp2_with fail;refine(IX.out _).mono ?_;rintro e w' ⟨rfl,rfl⟩;go_wp2_with fail;refine(S1.out _).mono ?_;rintro e w' ⟨rfl,rfl⟩;go_wp2_with fail;refine(S2.out _).mono ?_;rintro e w' ⟨rfl,rfl⟩;go_wp2_with fail;refine(GC.out _).mono ?_;rintro e w1 ⟨rfl,hg⟩;have G1:=zHd hg;clear hg;go_wp2;exact bodyPost_ret (v := .tuple #[.bool _,.string _,.string _,.bool _]) (by simp[results,Tryz.results137,go_sem]) rfl ⟨rfl,G1.out⟩
theorem zpm (a R n d G:ByteArray)(i:Nat)(w:World)(h0:(0:Int)<(a.size:Int))(hp:0<a.size)(h1:(((a[0]'hp).toNat:Int) == 45)=true)(hle:(1:Int)≤(a.size:Int))(eR:a.extract 1 a.size=R)
  (hi:i<R.size) (hR:R.size≤9223372036854775807) (IX:Hid (zcb R i)) (eN:R.extract 0 i=n) (eD:R.extract (i+1) R.size=d) (S1:Hid (ShOk n false)) :
  Calls Tryz.prog 137 #[.string a] w (zab (.tuple #[.bool false,.string ⟨#[]⟩,.string ⟨#[]⟩,.bool false]) w):=by
 have c1:(0:Int)≤(i:Int):=by omega
 have c2:(i:Int)≤(R.size:Int):=by omega
 have c3:(0:Int)≤(i:Int)+1:=by omega
 have c4:(i:Int)+1≤(R.size:Int):=by omega
 go_enter Tryz.func137,Tryz.ntmps137;go_wp2_with fail;refine(IX.out _).mono ?_;rintro e w' ⟨rfl,rfl⟩;go_wp2_with fail;refine(S1.out _).mono ?_;rintro e w' ⟨rfl,rfl⟩;go_wp2;exact bodyPost_ret (v := .tuple #[.bool _,.string _,.string _,.bool _]) (by simp[results,Tryz.results137,go_sem]) rfl ⟨rfl,zah _ _⟩
theorem zpn (a R n d G:ByteArray)(i:Nat)(w:World)(h0:(0:Int)<(a.size:Int))(hp:0<a.size)(h1:(((a[0]'hp).toNat:Int) == 45)=true)(hle:(1:Int)≤(a.size:Int))(eR:a.extract 1 a.size=R)
  (hi:i<R.size) (hR:R.size≤9223372036854775807) (IX:Hid (zcb R i)) (eN:R.extract 0 i=n) (eD:R.extract (i+1) R.size=d) (S1:Hid (ShOk n true)) (S2:Hid (ShOk d false)) :
  Calls Tryz.prog 137 #[.string a] w (zab (.tuple #[.bool false,.string ⟨#[]⟩,.string ⟨#[]⟩,.bool false]) w):=by
 have c1:(0:Int)≤(i:Int):=by omega
 have c2:(i:Int)≤(R.size:Int):=by omega
 have c3:(0:Int)≤(i:Int)+1:=by omega
 have c4:(i:Int)+1≤(R.size:Int):=by omega
 go_enter Tryz.func137,Tryz.ntmps137;go_wp2_with fail;refine(IX.out _).mono ?_;rintro e w' ⟨rfl,rfl⟩;go_wp2_with fail;refine(S1.out _).mono ?_;rintro e w' ⟨rfl,rfl⟩;go_wp2_with fail;refine(S2.out _).mono ?_;rintro e w' ⟨rfl,rfl⟩;go_wp2;exact bodyPost_ret (v := .tuple #[.bool _,.string _,.string _,.bool _]) (by simp[results,Tryz.results137,go_sem]) rfl ⟨rfl,zah _ _⟩
theorem zpo (a R n d G:ByteArray)(i:Nat)(w:World)(h0:(0:Int)<(a.size:Int))(hp:0<a.size)(h1:(((a[0]'hp).toNat:Int) == 45)=true)(hle:(1:Int)≤(a.size:Int))(eR:a.extract 1 a.size=R)
  (hi:i<R.size) (hR:R.size≤9223372036854775807) (IX:Hid (zcb R i)) (eN:R.extract 0 i=n) (eD:R.extract (i+1) R.size=d) (S1:Hid (ShOk n true)) (S2:Hid (ShOk d true)) (z2:(d.toList == [48])=true) :
  Calls Tryz.prog 137 #[.string a] w (zab (.tuple #[.bool false,.string ⟨#[]⟩,.string ⟨#[]⟩,.bool false]) w):=by
 have c1:(0:Int)≤(i:Int):=by omega
 have c2:(i:Int)≤(R.size:Int):=by omega
 have c3:(0:Int)≤(i:Int)+1:=by omega
 have c4:(i:Int)+1≤(R.size:Int):=by omega
 go_enter Tryz.func137,Tryz.ntmps137;go_wp2_with fail;refine(IX.out _).mono ?_;rintro e w' ⟨rfl,rfl⟩;go_wp2_with fail;refine(S1.out _).mono ?_;rintro e w' ⟨rfl,rfl⟩;go_wp2_with fail;refine(S2.out _).mono ?_;rintro e w' ⟨rfl,rfl⟩;go_wp2;exact bodyPost_ret (v := .tuple #[.bool _,.string _,.string _,.bool _]) (by simp[results,Tryz.results137,go_sem]) rfl ⟨rfl,zah _ _⟩
theorem zpp (a R n d G:ByteArray)(i:Nat)(w:World)(h0:(0:Int)<(a.size:Int))(hp:0<a.size)(h1:(((a[0]'hp).toNat:Int) == 45)=true)(hle:(1:Int)≤(a.size:Int))(eR:a.extract 1 a.size=R)
  (hi:i<R.size) (hR:R.size≤9223372036854775807) (IX:Hid (zcb R i)) (eN:R.extract 0 i=n) (eD:R.extract (i+1) R.size=d) (S1:Hid (ShOk n true)) (S2:Hid (ShOk d true)) (z2:(d.toList == [48])=false) (z1:(n.toList == [48])=true) :
  Calls Tryz.prog 137 #[.string a] w (zab (.tuple #[.bool false,.string ⟨#[]⟩,.string ⟨#[]⟩,.bool false]) w):=by
 have c1:(0:Int)≤(i:Int):=by omega
 have c2:(i:Int)≤(R.size:Int):=by omega
 have c3:(0:Int)≤(i:Int)+1:=by omega
 have c4:(i:Int)+1≤(R.size:Int):=by omega
 go_enter Tryz.func137,Tryz.ntmps137;go_wp2_with fail;refine(IX.out _).mono ?_;rintro e w' ⟨rfl,rfl⟩;go_wp2_with fail;refine(S1.out _).mono ?_;rintro e w' ⟨rfl,rfl⟩;go_wp2_with fail;refine(S2.out _).mono ?_;rintro e w' ⟨rfl,rfl⟩;go_wp2;exact bodyPost_ret (v := .tuple #[.bool _,.string _,.string _,.bool _]) (by simp[results,Tryz.results137,go_sem]) rfl ⟨rfl,zah _ _⟩
theorem zpq (a R n d G:ByteArray)(i:Nat)(w:World)(h0:(0:Int)<(a.size:Int))(hp:0<a.size)(h1:(((a[0]'hp).toNat:Int) == 45)=true)(hle:(1:Int)≤(a.size:Int))(eR:a.extract 1 a.size=R)
  (hi:i<R.size) (hR:R.size≤9223372036854775807) (IX:Hid (zcb R i)) (eN:R.extract 0 i=n) (eD:R.extract (i+1) R.size=d) (S1:Hid (ShOk n true)) (S2:Hid (ShOk d true)) (z2:(d.toList == [48])=false) (z1:(n.toList == [48])=false) (o2:(d.toList == [49])=true) :
  Calls Tryz.prog 137 #[.string a] w (zab (.tuple #[.bool false,.string ⟨#[]⟩,.string ⟨#[]⟩,.bool false]) w):=by
 have c1:(0:Int)≤(i:Int):=by omega
 have c2:(i:Int)≤(R.size:Int):=by omega
 have c3:(0:Int)≤(i:Int)+1:=by omega
 have c4:(i:Int)+1≤(R.size:Int):=by omega
 go_enter Tryz.func137,Tryz.ntmps137;go_wp2_with fail;refine(IX.out _).mono ?_;rintro e w' ⟨rfl,rfl⟩;go_wp2_with fail;refine(S1.out _).mono ?_;rintro e w' ⟨rfl,rfl⟩;go_wp2_with fail;refine(S2.out _).mono ?_;rintro e w' ⟨rfl,rfl⟩;go_wp2;exact bodyPost_ret (v := .tuple #[.bool _,.string _,.string _,.bool _]) (by simp[results,Tryz.results137,go_sem]) rfl ⟨rfl,zah _ _⟩
theorem zpr (a R n d G:ByteArray)(i:Nat)(w:World)(h0:(0:Int)<(a.size:Int))(hp:0<a.size)(h1:(((a[0]'hp).toNat:Int) == 45)=true)(hle:(1:Int)≤(a.size:Int))(eR:a.extract 1 a.size=R)
  (hi:i<R.size) (hR:R.size≤9223372036854775807) (IX:Hid (zcb R i)) (eN:R.extract 0 i=n) (eD:R.extract (i+1) R.size=d) (S1:Hid (ShOk n true)) (S2:Hid (ShOk d true)) (z2:(d.toList == [48])=false) (z1:(n.toList == [48])=false) (o2:(d.toList == [49])=false) (o3:(d.toList != [49])=true) (GC:Hid (GcOk n d G)) (q1:(G.toList == [49])=false) (q2:(G.toList != [49])=true) :
  Calls Tryz.prog 137 #[.string a] w (zab (.tuple #[.bool false,.string ⟨#[]⟩,.string ⟨#[]⟩,.bool false]) w):=by
 have c1:(0:Int)≤(i:Int):=by omega
 have c2:(i:Int)≤(R.size:Int):=by omega
 have c3:(0:Int)≤(i:Int)+1:=by omega
 have c4:(i:Int)+1≤(R.size:Int):=by omega
 go_enter Tryz.func137,Tryz.ntmps137;go_wp2_with fail;refine(IX.out _).mono ?_;rintro e w' ⟨rfl,rfl⟩;go_wp2_with fail;refine(S1.out _).mono ?_;rintro e w' ⟨rfl,rfl⟩;go_wp2_with fail;refine(S2.out _).mono ?_;rintro e w' ⟨rfl,rfl⟩;go_wp2_with fail;refine(GC.out _).mono ?_;rintro e w1 ⟨rfl,hg⟩;have G1:=zHd hg;clear hg;go_wp2;exact bodyPost_ret (v := .tuple #[.bool _,.string _,.string _,.bool _]) (by simp[results,Tryz.results137,go_sem]) rfl ⟨rfl,G1.out⟩
theorem zps (a R n d G:ByteArray)(i:Nat)(w:World)(h0:(0:Int)<(a.size:Int))(hp:0<a.size)(h1:(((a[0]'hp).toNat:Int) == 45)=true)(hle:(1:Int)≤(a.size:Int))(eR:a.extract 1 a.size=R)
  (hi:i<R.size) (hR:R.size≤9223372036854775807) (IX:Hid (zcb R i)) (eN:R.extract 0 i=n) (eD:R.extract (i+1) R.size=d) (S1:Hid (ShOk n true)) (S2:Hid (ShOk d true)) (z2:(d.toList == [48])=false) (z1:(n.toList == [48])=false) (o2:(d.toList == [49])=false) (o3:(d.toList != [49])=true) (GC:Hid (GcOk n d G)) (q1:(G.toList == [49])=true) (q2:(G.toList != [49])=false) :
  Calls Tryz.prog 137 #[.string a] w (zab (.tuple #[.bool true,.string n,.string d,.bool true]) w):=by
 have c1:(0:Int)≤(i:Int):=by omega
 have c2:(i:Int)≤(R.size:Int):=by omega
 have c3:(0:Int)≤(i:Int)+1:=by omega
 have c4:(i:Int)+1≤(R.size:Int):=by omega
 go_enter Tryz.func137,Tryz.ntmps137;go_wp2_with fail;refine(IX.out _).mono ?_;rintro e w' ⟨rfl,rfl⟩;go_wp2_with fail;refine(S1.out _).mono ?_;rintro e w' ⟨rfl,rfl⟩;go_wp2_with fail;refine(S2.out _).mono ?_;rintro e w' ⟨rfl,rfl⟩;go_wp2_with fail;refine(GC.out _).mono ?_;rintro e w1 ⟨rfl,hg⟩;have G1:=zHd hg;clear hg;go_wp2;exact bodyPost_ret (v := .tuple #[.bool _,.string _,.string _,.bool _]) (by simp[results,Tryz.results137,go_sem]) rfl ⟨rfl,G1.out⟩
open Go.RowKit
open Go.Lib (nDigits decDigits)
theorem zAw (b:ByteArray)(h:numB b=true):(b.toList == [49])=decide (nv b=1)∧(b.toList != [49]) = !decide (nv b=1):=by
 have e:=(zbK b h).1;have:=zfE (nv b);rw[← e] at this;exact this
theorem zAx (a:ByteArray):(a.extract 1 a.size).data.toList=a.data.toList.drop 1:=by
 rw[ByteArray.data_extract,Array.toList_extract,List.extract_eq_take_drop,List.take_of_length_le];rw[List.length_drop,Lib.size_eq];exact Nat.le_refl _
theorem znJ (a:ByteArray)(h:∀ (hp:0<a.size),a[0]≠45):negA a=false∧zca a=a.data.toList:=by
 have e:negA a=false:=by
  unfold negA Lib.hasPrefix;cases hd:a.data.toList with
  | nil=>rfl
  | cons c r =>
   have hp:0<a.size:=by rw[Lib.size_eq,hd];simp
   have h0:=zpa a 0 hp;rw[hd] at h0;have:c=a[0]:=by simpa using h0
   simp only[List.isPrefixOf_cons_cons,Bool.and_eq_false_iff]
   left
   rw[beq_eq_false_iff_ne];intro k;exact h hp (by rw[← this,← k])
 refine⟨e,?_⟩;unfold zca Lib.trimPrefix;unfold negA at e;rw[e];simp
theorem zuM (a:ByteArray)(hp:0<a.size)(h:a[0]=45):negA a=true∧zca a=(a.extract 1 a.size).data.toList:=by
 have e:negA a=true:=by
  unfold negA Lib.hasPrefix;have h0:=zpa a 0 hp;cases hd:a.data.toList with
  | nil=>rw[hd] at h0;simp at h0
  | cons c r =>
   rw[hd] at h0;have:c=a[0]:=by simpa using h0
   rw[this,h]
   rfl
 refine⟨e,?_⟩;rw[zAx];unfold zca Lib.trimPrefix;unfold negA at e;rw[e];simp
theorem zAy (s:ByteArray):(⟨s.data.toList.toArray⟩:ByteArray)=s:=by
 apply ByteArray.ext
 apply Array.ext'
 simp
theorem zuN (a R:ByteArray)(hr:zca a=R.data.toList)(h:Lib.indexByte R.data.toList 47 = -1):zcf a=false∧numA a=R∧denA a=⟨#[49]⟩:=by
 have hc:Lib.cut (zca a) [47]=(R.data.toList,[],false):=by
  rw[hr];unfold Lib.cut;rw[Lib.index_one,h];rfl
 refine⟨by unfold zcf;rw[hc],?_,by unfold denA zcf;rw[hc];rfl⟩;unfold numA;rw[hc]
theorem zuO (a R:ByteArray)(i:Nat)(hr:zca a=R.data.toList)(h:Lib.indexByte R.data.toList 47=i):zcf a=true∧numA a=R.extract 0 i∧denA a=R.extract (i+1) R.size:=by
 have hc:Lib.cut (zca a) [47]=(R.data.toList.take i,R.data.toList.drop (i+1),true):=by
  rw[hr];unfold Lib.cut;rw[Lib.index_one,h,if_pos (by omega)];simp
 have e1:=zsL R.data.toList i;have e2:=extract_drop R.data.toList (i+1);rw[zAy] at e1 e2;refine⟨by unfold zcf;rw[hc],?_,?_⟩
 ·unfold numA;rw[hc];exact e1.symm
 ·unfold denA zcf tailA;rw[hc];exact e2.symm
theorem index_room (s:List UInt8):Lib.indexByte s 47 = -1∨∃ i:Nat,Lib.indexByte s 47=i∧i<s.length:=by
 rw[← Lib.indexAny_one];rcases zuJ s [47] with⟨h,_⟩|⟨i,c,h1,h2,_⟩
 ·exact .inl h
 ·exact .inr ⟨i,h1,(List.getElem?_eq_some_iff.1 h2).1⟩
def znK (a:ByteArray)(w:World)(e:Ending)(w':World):Prop :=
 ((zdd a∧e = .returned (.tuple #[.bool (negA a),.string (numA a),.string (denA a),.bool true]))∨(¬ zdd a∧e = .returned zcO))∧w.grownBy w' none
theorem zgl {a:ByteArray}{w:World}(h:¬ zdd a){e:Ending}{w':World}(k:zab zcO w e w'):znK a w e w':=⟨.inr ⟨h,k.1⟩,k.2⟩
theorem zFb {a:ByteArray}{w:World}(h:zdd a){e:Ending}{w':World}(k:zab (.tuple #[.bool (negA a),.string (numA a),.string (denA a),.bool true]) w e w'):znK a w e w':=⟨.inl ⟨h,k.1⟩,k.2⟩
theorem zmt {a:ByteArray}(h:zdd a):zcI (numA a)=true∧zcI (denA a)=true:=by
 unfold zcI;rw[h.n,h.d];have:=h.sn;have:=h.sd;simp[*]
theorem zmu {s:ByteArray}(h:zcI s=true):s.size≤400∧numB s=true:=by
 unfold zcI at h
 simpa using h
theorem gcOk (n d:ByteArray)(hn:numB n=true)(hd:numB d=true):GcOk n d (decS (Nat.gcd (nv n) (nv d))):=fun w=>by
 have:=zDo n d w (zaR hn) (zaR hd);unfold gcdV at this;rw[hn,hd] at this;exact this
theorem zsO (k:Nat):((decS k).toList == [49])=decide (k=1)∧((decS k).toList != [49]) = !decide (k=1):=zfE k
theorem zji (a R:ByteArray)(N:Bool)(w:World)(hN:negA a=N)(hr:zca a=R.data.toList)(hR:R.size≤maxLen)(hz:Lib.indexByte R.data.toList 47 = -1)
  (B:ShOk R false→∀ w,Calls Tryz.prog 137 #[.string a] w (zab zcO w))
  (Z:N=true→ShOk R true→(R.toList == [48])=true→∀ w,Calls Tryz.prog 137 #[.string a] w (zab zcO w))
  (K:∀ z G,zcI R=true→ShOk R true→(R.toList == [48])=z→(N=true→z=false)→GcOk R ⟨#[49]⟩ G→(G.toList == [49])=true→(G.toList != [49])=false→∀ w,Calls Tryz.prog 137 #[.string a] w (zab (.tuple #[.bool N,.string R,.string ⟨#[49]⟩,.bool true]) w)) :
  Calls Tryz.prog 137 #[.string a] w (znK a w):=by
 obtain⟨e1,e2,e3⟩:=zuN a R hr hz;have S:=fun w=>zhU R w hR;cases hs:zcI R
 ·rw[hs] at S
  refine(B S w).mono fun e w' k=>zgl (fun h => ?_) k;have:=(zmt h).1;rw[e2,hs] at this;cases this
 rw[hs] at S;obtain⟨h4,hn⟩:=zmu hs;have hzf:=(zds R hn).1
 by_cases hb:N=true∧nv R=0
 ·refine(Z hb.1 S (by rw[hzf];simpa using hb.2) w).mono fun e w' k=>zgl (fun h => ?_) k
  have:=(h.z (by rw[e2];exact hb.2)).1;rw[hN,hb.1] at this;cases this
 ·have G:=gcOk R ⟨#[49]⟩ hn (by decide +kernel)
  have hg:Nat.gcd (nv R) (nv ⟨#[49]⟩)=1:=by rw[show nv ⟨#[49]⟩=1 by decide +kernel,Nat.gcd_one_right]
  rw[hg] at G;have f:=zsO 1;refine(K _ _ hs S rfl (fun hN1=>by rw[hzf];simpa using fun h0=>hb ⟨hN1,h0⟩) G (by simpa using f.1) (by simpa using f.2) w).mono fun e w' k => ?_
  have P:zdd a:=by
   refine⟨by rw[e2];exact hn,by rw[e3];decide +kernel,by rw[e2];exact h4,by rw[e3];decide,by rw[e3];decide +kernel,?_,?_,?_⟩
   ·rw[e2,hN,e1]
    intro h0;refine⟨?_,rfl⟩;cases N
    ·rfl
    ·exact absurd ⟨rfl,h0⟩ hb
   ·intro _;exact e1
   ·rw[e3];exact .inr (by decide +kernel)
  exact zFb P (by rw[hN,e2,e3];exact k)
theorem zmb (a R:ByteArray)(N:Bool)(i:Nat)(w:World)(hN:negA a=N)(hr:zca a=R.data.toList)(hR:R.size≤maxLen)(hz:Lib.indexByte R.data.toList 47=i)(hi:i<R.size)
  (B0:∀ n d,R.extract 0 i=n→R.extract (i+1) R.size=d→ShOk n false→∀ w,Calls Tryz.prog 137 #[.string a] w (zab zcO w))
  (B1:∀ n d,R.extract 0 i=n→R.extract (i+1) R.size=d→ShOk n true→ShOk d false→∀ w,Calls Tryz.prog 137 #[.string a] w (zab zcO w))
  (B2:∀ n d,R.extract 0 i=n→R.extract (i+1) R.size=d→ShOk n true→ShOk d true→(d.toList == [48])=true→∀ w,Calls Tryz.prog 137 #[.string a] w (zab zcO w))
  (B3:∀ n d,R.extract 0 i=n→R.extract (i+1) R.size=d→ShOk n true→ShOk d true→(d.toList == [48])=false→(n.toList == [48])=true→∀ w,Calls Tryz.prog 137 #[.string a] w (zab zcO w))
  (B4:∀ n d,R.extract 0 i=n→R.extract (i+1) R.size=d→ShOk n true→ShOk d true→(d.toList == [48])=false→(n.toList == [48])=false→(d.toList == [49])=true→∀ w,Calls Tryz.prog 137 #[.string a] w (zab zcO w))
  (B5:∀ n d G,R.extract 0 i=n→R.extract (i+1) R.size=d→ShOk n true→ShOk d true→(d.toList == [48])=false→(n.toList == [48])=false→(d.toList == [49])=false→(d.toList != [49])=true→GcOk n d G→(G.toList == [49])=false→(G.toList != [49])=true→∀ w,Calls Tryz.prog 137 #[.string a] w (zab zcO w))
  (K:∀ n d G,R.extract 0 i=n→R.extract (i+1) R.size=d→ShOk n true→ShOk d true→(d.toList == [48])=false→(n.toList == [48])=false→(d.toList == [49])=false→(d.toList != [49])=true→GcOk n d G→(G.toList == [49])=true→(G.toList != [49])=false→∀ w,Calls Tryz.prog 137 #[.string a] w (zab (.tuple #[.bool N,.string n,.string d,.bool true]) w)) :
  Calls Tryz.prog 137 #[.string a] w (znK a w):=by
 obtain⟨e1,e2,e3⟩:=zuO a R i hr hz;have l1:(R.extract 0 i).size≤maxLen:=by rw[ByteArray.size_extract];omega
 have l2:(R.extract (i+1) R.size).size≤maxLen:=by rw[ByteArray.size_extract];omega
 have S1:=fun w=>zhU _ w l1;have S2:=fun w=>zhU _ w l2;obtain⟨n,en⟩:∃ n,R.extract 0 i=n:=⟨_,rfl⟩;obtain⟨d,ed⟩:∃ d,R.extract (i+1) R.size=d:=⟨_,rfl⟩;rw[en] at S1 e2;rw[ed] at S2 e3;cases hs1:zcI n
 ·rw[hs1] at S1
  refine(B0 n d en ed S1 w).mono fun e w' k=>zgl (fun h => ?_) k;have:=(zmt h).1;rw[e2,hs1] at this;cases this
 rw[hs1] at S1;cases hs2:zcI d
 ·rw[hs2] at S2
  refine(B1 n d en ed S1 S2 w).mono fun e w' k=>zgl (fun h => ?_) k;have:=(zmt h).2;rw[e3,hs2] at this;cases this
 rw[hs2] at S2;obtain⟨n4,nn⟩:=zmu hs1;obtain⟨d4,nd⟩:=zmu hs2;have zn:=(zds n nn).1;have zd:=(zds d nd).1;obtain⟨od,od'⟩:=zAw d nd
 by_cases h0:nv d=0
 ·refine(B2 n d en ed S1 S2 (by rw[zd];simpa using h0) w).mono fun e w' k=>zgl (fun h => ?_) k
  exact h.d0 (by rw[e3];exact h0)
 by_cases h1:nv n=0
 ·refine(B3 n d en ed S1 S2 (by rw[zd];simpa using h0) (by rw[zn];simpa using h1) w).mono fun e w' k=>zgl (fun h => ?_) k
  have:=(h.z (by rw[e2];exact h1)).2;rw[e1] at this;cases this
 by_cases h2:nv d=1
 ·refine(B4 n d en ed S1 S2 (by rw[zd];simpa using h0) (by rw[zn];simpa using h1) (by rw[od];simpa using h2) w).mono fun e w' k=>zgl (fun h => ?_) k
  have:=h.one (by rw[e3];exact h2);rw[e1] at this;cases this
 have G:=gcOk n d nn nd;have f:=zsO (Nat.gcd (nv n) (nv d))
 by_cases h3:Nat.gcd (nv n) (nv d)=1
 ·refine(K n d _ en ed S1 S2 (by rw[zd];simpa using h0) (by rw[zn];simpa using h1) (by rw[od];simpa using h2) (by rw[od'];simpa using h2) G (by rw[f.1];simpa using h3) (by rw[f.2];simpa using h3) w).mono fun e w' k => ?_
  have P:zdd a:=by
   refine⟨by rw[e2];exact nn,by rw[e3];exact nd,by rw[e2];exact n4,by rw[e3];exact d4,by rw[e3];exact h0,?_,?_,?_⟩
   ·rw[e2];intro h;exact absurd h h1
   ·rw[e3];intro h;exact absurd h h2
   ·rw[e2,e3];exact .inl h3
  exact zFb P (by rw[hN,e2,e3];exact k)
 ·refine(B5 n d _ en ed S1 S2 (by rw[zd];simpa using h0) (by rw[zn];simpa using h1) (by rw[od];simpa using h2) (by rw[od'];simpa using h2) G (by rw[f.1];simpa using h3) (by rw[f.2];simpa using h3) w).mono fun e w' k=>zgl (fun h => ?_) k
  have:=h.gcd;rw[e2,e3] at this;exact h3 this
theorem znL (a:ByteArray)(w:World)(ha:a.size≤maxLen):Calls Tryz.prog 137 #[.string a] w (znK a w):=by
 have hm:=ha;unfold maxLen at hm;have one:ShOk ⟨#[49]⟩ true:=fun w=>by have:=zhU ⟨#[49]⟩ w (by decide);rw[show zcI ⟨#[49]⟩=true by decide +kernel] at this;exact this
 have ix:∀ (R:ByteArray) (z:Int),R.size≤maxLen→Lib.indexByte R.data.toList 47=z→zcb R z:=fun R z h e w=>by rw[← e];exact zxE R w h
 by_cases hp:0<a.size
 ·cases h45:(((a[0]'hp).toNat:Int) == 45)
  ·have hne:a[0]≠45:=by intro e;rw[e] at h45;exact absurd h45 (by decide)
   obtain⟨hN,hr⟩:=znJ a (fun _=>hne);rcases index_room a.data.toList with hz|⟨i,hz,hi⟩
   ·have I:=zHd (ix a _ ha hz)
    refine zji a a false w hN hr ha hz ?_ ?_ ?_
    ·exact fun S w=>zpc a a ⟨#[]⟩ w (by omega) hp h45 rfl I (zHd S)
    ·intro h;cases h
    ·intro z G _ S hzz _ GC q1 q2 w
     cases z
     ·exact znH a a G w (by omega) hp h45 rfl I (zHd S) (zHd one) hzz (zHd GC) q1 q2
     ·exact znG a a G w (by omega) hp h45 rfl I (zHd S) (zHd one) hzz (zHd GC) q1 q2
   ·have I:=zHd (ix a _ ha hz)
    have hi':i<a.size:=by rw[Lib.size_eq];exact hi
    refine zmb a a false i w hN hr ha hz hi' ?_ ?_ ?_ ?_ ?_ ?_ ?_
    ·exact fun n d en ed S1 w=>zpf a a n d ⟨#[]⟩ i w (by omega) hp h45 rfl hi' hm I en ed (zHd S1)
    ·exact fun n d en ed S1 S2 w=>zpg a a n d ⟨#[]⟩ i w (by omega) hp h45 rfl hi' hm I en ed (zHd S1) (zHd S2)
    ·exact fun n d en ed S1 S2 f w=>zph a a n d ⟨#[]⟩ i w (by omega) hp h45 rfl hi' hm I en ed (zHd S1) (zHd S2) f
    ·exact fun n d en ed S1 S2 f g w=>zpi a a n d ⟨#[]⟩ i w (by omega) hp h45 rfl hi' hm I en ed (zHd S1) (zHd S2) f g
    ·exact fun n d en ed S1 S2 f g h w=>zpj a a n d ⟨#[]⟩ i w (by omega) hp h45 rfl hi' hm I en ed (zHd S1) (zHd S2) f g h
    ·exact fun n d G en ed S1 S2 f g h h' GC q1 q2 w=>zpk a a n d G i w (by omega) hp h45 rfl hi' hm I en ed (zHd S1) (zHd S2) f g h h' (zHd GC) q1 q2
    ·exact fun n d G en ed S1 S2 f g h h' GC q1 q2 w=>zpl a a n d G i w (by omega) hp h45 rfl hi' hm I en ed (zHd S1) (zHd S2) f g h h' (zHd GC) q1 q2
  ·have he:a[0]=45:=UInt8.toNat_inj.1 (by
    have h2:((a[0]'hp).toNat:Int)=45:=by simpa using h45
    have:(45:UInt8).toNat=45:=rfl
    omega)
   obtain⟨hN,hr⟩:=zuM a hp he;obtain⟨R,eR⟩:∃ R,a.extract 1 a.size=R:=⟨_,rfl⟩;have hR:R.size≤maxLen:=by rw[← eR,ByteArray.size_extract];omega
   have hmR:=hR;unfold maxLen at hmR;rw[eR] at hr;rcases index_room R.data.toList with hz|⟨i,hz,hi⟩
   ·have I:=zHd (ix R _ hR hz)
    refine zji a R true w hN hr hR hz ?_ ?_ ?_
    ·exact fun S w=>zpd a R ⟨#[]⟩ w (by omega) hp h45 (by omega) eR I (zHd S)
    ·exact fun _ S z w=>zpe a R ⟨#[]⟩ w (by omega) hp h45 (by omega) eR I (zHd S) (zHd one) z
    ·intro z G _ S hzz hzn GC q1 q2 w
     have:=hzn rfl;subst this;exact znI a R G w (by omega) hp h45 (by omega) eR I (zHd S) (zHd one) hzz (zHd GC) q1 q2
   ·have I:=zHd (ix R _ hR hz)
    have hi':i<R.size:=by rw[Lib.size_eq];exact hi
    refine zmb a R true i w hN hr hR hz hi' ?_ ?_ ?_ ?_ ?_ ?_ ?_
    ·exact fun n d en ed S1 w=>zpm a R n d ⟨#[]⟩ i w (by omega) hp h45 (by omega) eR hi' hmR I en ed (zHd S1)
    ·exact fun n d en ed S1 S2 w=>zpn a R n d ⟨#[]⟩ i w (by omega) hp h45 (by omega) eR hi' hmR I en ed (zHd S1) (zHd S2)
    ·exact fun n d en ed S1 S2 f w=>zpo a R n d ⟨#[]⟩ i w (by omega) hp h45 (by omega) eR hi' hmR I en ed (zHd S1) (zHd S2) f
    ·exact fun n d en ed S1 S2 f g w=>zpp a R n d ⟨#[]⟩ i w (by omega) hp h45 (by omega) eR hi' hmR I en ed (zHd S1) (zHd S2) f g
    ·exact fun n d en ed S1 S2 f g h w=>zpq a R n d ⟨#[]⟩ i w (by omega) hp h45 (by omega) eR hi' hmR I en ed (zHd S1) (zHd S2) f g h
    ·exact fun n d G en ed S1 S2 f g h h' GC q1 q2 w=>zpr a R n d G i w (by omega) hp h45 (by omega) eR hi' hmR I en ed (zHd S1) (zHd S2) f g h h' (zHd GC) q1 q2
    ·exact fun n d G en ed S1 S2 f g h h' GC q1 q2 w=>zps a R n d G i w (by omega) hp h45 (by omega) eR hi' hmR I en ed (zHd S1) (zHd S2) f g h h' (zHd GC) q1 q2
 ·have h0:a.size=0:=by omega
  obtain⟨hN,hr⟩:=znJ a (fun h=>absurd h hp)
  have e0:a=⟨#[]⟩:=by
   cases a with
   | mk d=>congr 1;exact Array.eq_empty_of_size_eq_zero h0
  have hz:Lib.indexByte a.data.toList 47 = -1:=by rw[e0];rfl
  have I:=zHd (ix a _ ha hz);refine zji a a false w hN hr ha hz ?_ ?_ ?_
  ·exact fun S w=>zpb a a ⟨#[]⟩ w (by omega) rfl I (zHd S)
  ·intro h;cases h
  ·intro z G hs _ _ _ _ _ _ w
   rw[e0] at hs;exact absurd hs (by decide +kernel)
theorem zxF {a:ByteArray}{x:Rat}(h:zay a x)(w:World):Calls Tryz.prog 137 #[.string a] w (zab (zAs x) w):=by
 refine(znL a w (zgR h)).mono ?_;rintro e w' ⟨⟨_,k⟩|⟨k,_⟩,hg⟩
 ·obtain⟨p1,p2,p3,_⟩:=apart a x h.eq
  rw[p1,p2,p3] at k;exact⟨k,hg⟩
 ·exact absurd (zhG h) k
theorem zAz {a:ByteArray}(h:zcS a)(ha:a.size≤maxLen)(w:World):Calls Tryz.prog 137 #[.string a] w (zab zcO w):=by
 refine(znL a w ha).mono ?_;rintro e w' ⟨⟨k,_⟩|⟨_,k⟩,hg⟩
 ·exact absurd (zza k) (h _)
 ·exact⟨k,hg⟩
open Go.RowKit
open Go.Lib (nDigits)
variable {α:Type}
def aug (S:Sr α)(A:Nat→Nat→α)(F:Nat→α)(n x y:Nat):α:=if x<n then (if y<n then A x y else F x) else S.zero
def cutF (S:Sr α)(F:Nat→α)(J x:Nat):α:=if x<J then F x else S.zero
theorem zHh (S:Sr α)(A:Nat→Nat→α)(F:Nat→α){n t i j:Nat}(ht:t≤n)(hi:i<n)(hj:j<n):el S (aug S A F n) t i j=el S A t i j :=
 zmk S (fun x y hx hy=>by unfold aug;rw[if_pos hx,if_pos hy]) t ht i j hi hj
theorem zDO (S:Sr α)(A:Nat→Nat→α)(F:Nat→α){n i:Nat}(hi:i<n):sm S n (fun m=>S.mul (stM S A n i m) (F m))=el S (aug S A F n) n i n:=by
 rw[zdR S (aug S A F n) n i n];have e1:aug S A F n i n=F i:=by unfold aug;rw[if_pos hi,if_neg (Nat.lt_irrefl _)]
 have e2:sm S n (fun m=>S.mul (el S (aug S A F n) n i m) (aug S A F n m n))=sm S n (fun m=>S.mul (el S A n i m) (F m)):=zal S (fun m hm=>by
  rw[zHh S A F (Nat.le_refl n) hi hm];unfold aug;rw[if_pos hm,if_neg (Nat.lt_irrefl _)])
 have e3:sm S n (fun m=>S.mul (stM S A n i m) (F m))=S.add (sm S n (fun m=>S.mul (idm S i m) (F m))) (sm S n (fun m=>S.mul (el S A n i m) (F m))):=by
  rw[← zde];exact zal S (fun m _=>S.add_mul _ _ _)
 rw[e1,e2,e3,zhf S _ hi]
theorem zAA (S:Sr α)(c F:Nat→α){J:Nat}:∀ {n:Nat},J≤n→sm S n (fun m=>S.mul (c m) (cutF S F J m))=sm S J (fun m=>S.mul (c m) (F m))
 | 0,h=>by rw[Nat.le_zero.1 h];rfl
 | n+1,h=>by
  by_cases e:J=n+1
  ·rw[e]
   exact zal S (fun m hm=>by unfold cutF;rw[if_pos (by omega)])
  ·show S.add (sm S n (fun m=>S.mul (c m) (cutF S F J m))) (S.mul (c n) (cutF S F J n))=_
   rw[zAA S c F (n:=n) (by omega)];have:cutF S F J n=S.zero:=by unfold cutF;rw[if_neg (by omega)]
   rw[this,S.mul_zero,S.add_zero]
theorem zxG (S:Sr α)(A:Nat→Nat→α)(F:Nat→α){n i J:Nat}(hi:i<n)(hJ:J≤n):sm S J (fun m=>S.mul (stM S A n i m) (F m))=el S (aug S A (cutF S F J) n) n i n:=by
 rw[← zDO S A (cutF S F J) hi,zAA S (fun m=>stM S A n i m) F hJ]
theorem zpt (S:Sr α)(y:Nat):∀ {l:List (Nat × α)},(∀ e∈l,e.1≠y)→cs S l y=S.zero
 | [],_=>rfl
 | e::l,h=>by
  have h1:cs S (e::l) y=cs S l y:=if_neg (h e (List.mem_cons_self ..));rw[h1];exact zpt S y (fun x hx=>h x (List.mem_cons_of_mem _ hx))
variable {k:Int} {hk:zad k}
theorem zmv (hk:zad k):Sh4 (srE k hk).zero.1:=by
 show Sh4 (zfT k);unfold zfT
 split
 ·trivial
 ·show nDigits (0:Rat).num.natAbs+(if (0:Rat).den=1 then 0 else nDigits (0:Rat).den)≤4
  decide +kernel
structure zdI (k:Int)(hk:zad k)(A:Nat→Nat→El k)(F:Nat→El k)(n:Nat)(M:Nat→List (Nat × El k)):Prop where
 row:n≤5
 is:∀ x y,x<n→y<n→A x y=cs (srE k hk) (M x) y
 short:∀ x,x<n→∀ e∈M x,e.1<n∧Sh4 e.2.1
 few:ns n (fun x=>(M x).length)≤10
 fin:∀ x,x<n→Sh4 (F x).1
variable {A:Nat→Nat→El k} {F:Nat→El k} {n:Nat} {M:Nat→List (Nat × El k)}
theorem zdI.cutF (h:zdI k hk A F n M)(J:Nat):zdI k hk A (cutF (srE k hk) F J) n M where
 row:=h.row
 is:=h.is
 short:=h.short
 few:=h.few
 fin x hx:=by
  unfold Proofs.YtaogepcaoogpgaaGreatDoor.cutF
  split
  ·exact h.fin x hx
  ·exact zmv hk
theorem zAB (f:Nat→Nat):∀ n,ns n (fun x=>f x+1)=ns n f+n
 | 0=>rfl
 | n+1=>by
  show ns n (fun x=>f x+1)+(f n+1)=ns n f+f n+(n+1);rw[zAB f n];omega
theorem zdI.aug (h:zdI k hk A F n M):ziE k hk (aug (srE k hk) A F n) (n+1) (fun x=>if x<n then M x++[(n,F x)] else []) where
 row:=by have:=h.row;omega
 is x y hx hy:=by
  unfold Proofs.YtaogepcaoogpgaaGreatDoor.aug
  by_cases h1:x<n
  ·rw[if_pos h1,if_pos h1,zlC]
   by_cases h2:y<n
   ·rw[if_pos h2,if_neg (by omega)];exact h.is x y h1 h2
   ·rw[if_neg h2,if_pos (show n=y by omega),zpt _ y (fun e he=>by have:=(h.short x h1 e he).1;omega),(srE k hk).zero_add]
  ·rw[if_neg h1,if_neg h1];rfl
 short x hx e he:=by
  by_cases h1:x<n
  ·rw[if_pos h1] at he
   rcases List.mem_append.1 he with he|he
   ·exact(h.short x h1 e he).2
   ·rw[List.mem_singleton.1 he];exact h.fin x h1
  ·rw[if_neg h1] at he;cases he
 few:=by
  show ns n (fun x=>(if x<n then M x++[(n,F x)] else []).length)+(if n<n then M n++[(n,F n)] else []).length≤15;rw[if_neg (Nat.lt_irrefl n)];have e:ns n (fun x=>(if x<n then M x++[(n,F x)] else []).length)≤ns n (fun x=>(M x).length+1):=zoY (fun x hx=>by rw[if_pos hx,List.length_append];exact Nat.le_refl _);rw[zAB] at e;have:=h.few;have:=h.row;show ns n (fun x=>(if x<n then M x++[(n,F x)] else []).length)+0≤15
  omega
theorem zdI.part (h:zdI k hk A F n M){i J:Nat}(hi:i<n)(hJ:J≤n):zaA 221 (sm (srE k hk) J (fun m=>(srE k hk).mul (stM (srE k hk) A n i m) (F m))).1:=by
 rw[zxG (srE k hk) A F hi hJ];exact(h.cutF J).aug.wide h.row (by omega) (by omega) (by omega)
theorem zdI.total (h:zdI k hk A F n M){lead:Ext}(hl:zaA 4 lead){i:Nat}(hi:i<n):zaA 226 (zaZ k lead (sm (srE k hk) n (fun m=>(srE k hk).mul (stM (srE k hk) A n i m) (F m))).1) :=
 (zdH k (by omega) hl (h.part hi (Nat.le_refl n))).mono (by omega)
theorem zAC (hk:zad k){l:List (Nat × El k)}{y:Nat}(hl:∀ e∈l,Sh4 e.2.1)(hn:l.length≤15)(hy:y<6):zaA 221 (cs (srE k hk) l y).1:=by
 have h:ziE k hk (fun x y=>cs (srE k hk) (if x=0 then l else []) y) 6 (fun x=>if x=0 then l else []) := {
  row:=Nat.le_refl 6
  is:=fun x y _ _=>rfl
  short:=fun x _ e he=>by
   by_cases h0:x=0
   ·rw[if_pos h0] at he;exact hl e he
   ·rw[if_neg h0] at he;cases he
  few:=by
   show 0+l.length+0+0+0+0+0≤15
   omega }
 exact h.wide (t:=0) (i:=0) (j:=y) (by omega) (by omega) (by omega) hy
open Go.RowKit
open Go.Lib (nDigits decDigits)
def dgs7 (l:List UInt8):Nat:=(l.filter isDg).length
theorem zpu (l m:List UInt8):dgs7 (l++m)=dgs7 l+dgs7 m:=by unfold dgs7;rw[List.filter_append,List.length_append]
theorem zFW {l:List UInt8}(h:l.all isDg=true):dgs7 l=l.length:=by
 unfold dgs7;rw[List.filter_eq_self.2 (fun x hx=>List.all_eq_true.1 h x hx)]
theorem zwl (n:Nat):dgs7 (decDigits n)=nDigits n:=by rw[zFW (zgM n),Lib.decDigits_length]
theorem zFX (x:Rat):dgs7 (ratL x)=nDigits x.num.natAbs+(if x.den=1 then 0 else nDigits x.den):=by
 unfold ratL;rw[zpu,zpu,zwl];have h1:dgs7 (if x.num<0 then [45] else [])=0:=by split <;> rfl
 rw[h1,Nat.zero_add]
 by_cases h:x.den=1
 ·rw[if_pos h,if_pos h];rfl
 ·rw[if_neg h,if_neg h]
  show _+dgs7 ([47]++decDigits x.den)=_;rw[zpu,zwl,show dgs7 [47]=0 from rfl,Nat.zero_add]
theorem zHi {a:ByteArray}{v:Ext}(h:IsE a v)(hd:dgs7 a.data.toList≤4):Sh4 v:=by
 rcases v with(_|_)|x
 ·trivial
 ·trivial
 ·have e:a=ratS x:=zay.eq h
  rw[e] at hd;have e2:(ratS x).data.toList=ratL x:=rfl;rw[e2,zFX] at hd;exact hd
variable {α:Type}
def nzL (S:Sr α)[DecidableEq α](f:Nat→α):Nat→List (Nat × α)
 | 0=>[]
 | n+1=>nzL S f n++(if f n=S.zero then [] else [(n,f n)])
theorem zsP (S:Sr α)[DecidableEq α](f:Nat→α):∀ {n:Nat} {e:Nat × α},e∈nzL S f n→e.1<n∧e.2=f e.1
 | 0,e,h=>by cases h
 | n+1,e,h=>by
  rcases List.mem_append.1 h with h|h
  ·have:=zsP S f h;exact⟨by omega,this.2⟩
  ·by_cases hz:f n=S.zero
   ·rw[if_pos hz] at h;cases h
   ·rw[if_neg hz] at h;rw[List.mem_singleton.1 h];exact⟨by omega,rfl⟩
theorem zAD (S:Sr α)[DecidableEq α](f:Nat→α)(y:Nat):∀ {n:Nat},cs S (nzL S f n) y=if y<n then f y else S.zero
 | 0=>rfl
 | n+1=>by
  have ih:=zAD S f y (n:=n)
  by_cases hz:f n=S.zero
  ·have e:nzL S f (n+1)=nzL S f n:=by show nzL S f n++(if f n=S.zero then [] else [(n,f n)])=_;rw[if_pos hz,List.append_nil]
   rw[e,ih]
   by_cases h:y<n
   ·rw[if_pos h,if_pos (by omega)]
   ·rw[if_neg h]
    by_cases h2:y<n+1
    ·rw[if_pos h2,show y=n by omega,hz]
    ·rw[if_neg h2]
  ·have e:nzL S f (n+1)=nzL S f n++[(n,f n)]:=by show nzL S f n++(if f n=S.zero then [] else [(n,f n)])=_;rw[if_neg hz]
   rw[e,zlC,ih]
   dsimp only
   by_cases h:n=y
   ·subst h
    rw[if_pos rfl,if_neg (Nat.lt_irrefl _),if_pos (by omega),S.zero_add]
   ·rw[if_neg h]
    by_cases h2:y<n
    ·rw[if_pos h2,if_pos (by omega)]
    ·rw[if_neg h2,if_neg (by omega)]
instance (k:Int):DecidableEq (El k):=fun u v=>decidable_of_iff (u.1=v.1) ⟨fun h=>Subtype.ext h,fun h=>by rw[h]⟩
open Go.RowKit
theorem zsQ {k r:Nat}(hr:r<k+1)(V:Nat→Nat→Rat)(x:Nat→Rat)(e:Nat→Rat)(h:∀ c,c<k+1→e c=rs (k+1) (fun i=>x i * V i c)):dt (k+1) (up V r e)=x r * dt (k+1) V:=by
 have step:∀ n,n≤k+1→dt (k+1) (up V r (fun c=>rs n (fun i=>x i * V i c)))=if r<n then x r * dt (k+1) V else 0:=fun n=>by
  induction n with
  | zero =>
   intro _;rw[if_neg (by omega)];have h2:=zeS V (k:=k+1) (r:=r) (fun _=>0) (fun _=>0) 0 0 hr;rw[zbh (W:=up V r (fun x=>(0:Rat) * 0+0 * 0)) (fun i x _ _=>by unfold up;split;exact(show(0:Rat)=0 * 0+0 * 0 by grind);rfl),h2]
   grind
  | succ n ih =>
   intro hn;have h2:=zeS V (k:=k+1) (r:=r) (fun c=>rs n (fun i=>x i * V i c)) (V n) 1 (x n) hr;rw[zbh (W:=up V r (fun c=>1 * rs n (fun i=>x i * V i c)+x n * V n c)) (fun i c _ _=>by unfold up;split;exact(show rs n (fun i=>x i * V i c)+x n * V n c=1 * rs n (fun i=>x i * V i c)+x n * V n c by grind);rfl),h2,ih (by omega)]
   by_cases e:n=r
   ·subst e
    rw[if_neg (Nat.lt_irrefl n),if_pos (Nat.lt_succ_self n)];have e1:dt (k+1) (up V n (V n))=dt (k+1) V:=zbh (fun i x _ _=>by unfold up;split;rename_i e;rw[e];rfl);rw[e1];grind
   ·have e2:dt (k+1) (up V r (V n))=0:=by
     by_cases hlt:r<n
     ·exact zhm (n - r - 1) (k+1) _ (r:=r) (by omega) (fun x=>by unfold up;rw[if_pos rfl,if_neg (by omega),show r+(n - r - 1)+1=n by omega])
     ·exact zhm (r - n - 1) (k+1) _ (r:=n) (by omega) (fun x=>by unfold up;rw[if_neg e,if_pos (by omega)])
    rw[e2]
    by_cases hlt:r<n
    ·rw[if_pos hlt,if_pos (by omega)];grind
    ·rw[if_neg hlt,if_neg (by omega)];grind
 have h1:=step (k+1) (Nat.le_refl _);rw[if_pos hr] at h1;rw[← h1];exact zbh (fun i c _ hc=>by unfold up;split;exact h c hc;rfl)
section
variable {α:Type}
theorem zsR (S:Sr α)(A:Nat→Nat→α)(X:Nat→α){n j:Nat}(h:∀ m,m<n→S.le (S.add (A m j) (sm S n (fun l=>S.mul (A m l) (X l)))) (X m)){i:Nat}(hi:i<n):S.le (el S A n i j) (X i):=by
 have hl:=zfy S A (fun m=>A m j) X h n (Nat.le_refl n) i hi;rw[zal S (g:=fun m=>S.mul (el S A n i m) (A m j)) (fun m hm=>by rw[if_pos hm]),← zdR S A n i j] at hl;exact hl
theorem Sr.mul_mono2 (S:Sr α)(a b c:α)(h:S.le a b):S.le (S.mul a c) (S.mul b c):=by
 rw[S.mul_comm a c,S.mul_comm b c];exact S.mul_mono a b c h
theorem zxH (S:Sr α){A B:Nat→Nat→α}{n:Nat}(h:∀ x y,x<n→y<n→S.le (B x y) (A x y)){i j:Nat}(hi:i<n)(hj:j<n):S.le (el S B n i j) (el S A n i j) :=
 zsR S B (fun m=>el S A n m j) (fun m hm=>by
  rw[zbJ S A n m j];exact S.add_mono _ _ _ _ (h m j hm hj) (zgO S (fun l hl=>S.mul_mono2 _ _ _ (h m l hm hl)))) hi
end
section
open Classical in
noncomputable def onG (A:Nat→Nat→El 2)(n x y:Nat):El 2:=if Fin2 (A x y)∧Fin2 (el S2 A n x x)∧Fin2 (el S2 A n y y) then A x y else S2.zero
variable {A:Nat→Nat→El 2} {n:Nat}
theorem zwm {x y:Nat}(h1:Fin2 (A x y))(h2:Fin2 (el S2 A n x x))(h3:Fin2 (el S2 A n y y)):onG A n x y=A x y:=by unfold onG;rw[if_pos ⟨h1,h2,h3⟩]
theorem znM (A:Nat→Nat→El 2)(n x y:Nat):onG A n x y=S2.zero∨(onG A n x y=A x y∧Fin2 (A x y)):=by
 unfold onG
 split
 ·rename_i h;exact .inr ⟨rfl,h.1⟩
 ·exact .inl rfl
theorem zsS (x y:Nat):S2.le (onG A n x y) (A x y):=by
 rcases znM A n x y with h|h
 ·rw[h];exact S2.zero_le _
 ·rw[h.1];exact S2.le_refl _
theorem zhs (x y:Nat):Fin2 (onG A n x y):=by
 rcases znM A n x y with h|h
 ·rw[h];exact zhq
 ·rw[h.1];exact h.2
theorem zDP {x:Nat}(hx:x<n):Fin2 (el S2 (onG A n) n x x):=by
 by_cases h:Fin2 (el S2 A n x x)
 ·exact znx (zxH S2 (fun a b _ _=>zsS a b) hx hx) h
 ·have hz:∀ y,onG A n x y=S2.zero:=fun y=>by unfold onG;rw[if_neg (fun k=>h k.2.1)]
  rw[zbJ,hz x,zgN S2 (fun m _=>by rw[hz m,S2.zero_mul]),S2.add_zero];exact zhq
theorem zpv:∀ t,t≤n→∀ x y,x<n→y<n→Fin2 (el S2 (onG A n) t x y)
 | 0,_,x,y,_,_=>zhs x y
 | t+1,ht,x,y,hx,hy=>by
  have ih:=zpv t (by omega)
  have h1:Fin2 (el S2 (onG A n) (t+1) t t):=by
   have hg:=zoC S2 (onG A n) t t (n - (t+1)) (t+1);rw[show t+1+(n - (t+1))=n by omega] at hg;exact znx hg (zDP (by omega))
  rw[zjU] at h1;obtain⟨_,_,h2,_⟩:=zsG h1;exact zgT.2 ⟨ih x y hx hy,zeT (zeT (ih x t hx (by omega)) h2) (ih t y (by omega) hy)⟩
def top2:El 2:=⟨.inl true,rfl⟩
theorem zFY (u:El 2):S2.le u top2:=zbQ u.1
theorem zHj {i j:Nat}(hi:i<n)(hj:j<n)(h:Fin2 (el S2 A n i j)):el S2 A n i j=el S2 (onG A n) n i j:=by
 refine S2.le_anti _ _ ?_ (zxH S2 (fun a b _ _=>zsS a b) hi hj);have hb:=fun(m:Nat)=>Classical.propDecidable (m=i∨el S2 A n i m≠S2.zero);have key:=zsR S2 A (fun m => @ite _ (m=i∨el S2 A n i m≠S2.zero) (hb m) (el S2 (onG A n) n m j) top2) (n:=n) (j:=j) (fun m hm => ?_) hi
 ·rw[if_pos (.inl rfl)] at key
  exact key
 ·by_cases hr:m=i∨el S2 A n i m≠S2.zero
  ·rw[if_pos hr]
   have hF:Fin2 (el S2 A n m j):=by
    rcases hr with e|e
    ·rw[e];exact h
    ·exact zjc (zff S2 A n i m e) hm h
   rw[zbJ S2 (onG A n) n m j];refine S2.add_mono _ _ _ _ ?_ (zgO S2 (fun l hl => ?_))
   ·by_cases hz:A m j=S2.zero
    ·rw[hz];exact S2.zero_le _
    ·have g1:Fin2 (el S2 A n m m):=zjd hm (ziv S2 ziA A (.one hz)) hF
     have g2:Fin2 (el S2 A n j j):=zjc (.one hz) hj hF;rw[zwm (zfI hF).1 g1 g2];exact S2.le_refl _
   ·by_cases hz:A m l=S2.zero
    ·rw[hz,S2.zero_mul];exact S2.zero_le _
    ·have hl2:l=i∨el S2 A n i l≠S2.zero:=by
      rcases hr with e|e
      ·rw[e] at hz;exact .inr (ziv S2 ziA A (.one hz))
      ·exact .inr (ziv S2 ziA A ((zff S2 A n i m e).trans hm (.one hz)))
     rw[if_pos hl2]
     by_cases hy:el S2 (onG A n) n l j=S2.zero
     ·rw[hy,S2.mul_zero];exact S2.zero_le _
     ·have h1:el S2 A n l j≠S2.zero:=fun e=>hy (S2.zero_of_le (e ▸ zxH S2 (fun a b _ _=>zsS (A:=A) (n:=n) a b) hl hj))
      have h2:el S2 A n m j≠S2.zero:=ziv S2 ziA A (.more hl hz (zff S2 A n l j h1));have h3:=(zfI hF).2 l hl;have h4:Fin2 (el S2 A n l j):=zep h3 hz;rw[zwm (zfV h3 h1) (zjd hm h2 hF) (zjd hl h1 h4)];exact S2.le_refl _
  ·rw[if_neg hr];exact zFY _
theorem zFZ {c j:Nat}(hc:c<n)(hj:j<n):val (onG A n c j)=rs n (fun y=>val (el S2 (onG A n) n y j) * idV (fun x y=>val (onG A n x y)) y c):=by
 have hf:=fun y (hy:y<n)=>zpv (A:=A) n (Nat.le_refl n) y j hy hj;have e1:=congrArg val (zbJ S2 (onG A n) n c j)
 rw[zgU (zhs c j) (ziB.2 (fun m hm=>zeT (zhs c m) (hf m hm))),zsF (fun m hm=>zeT (zhs c m) (hf m hm)),
  zaL (g:=fun m=>val (onG A n c m) * val (el S2 (onG A n) n m j)) (fun m hm=>zgV (zhs c m) (hf m hm))] at e1
 have e2:rs n (fun y=>val (el S2 (onG A n) n y j) * idV (fun x y=>val (onG A n x y)) y c)=rs n (fun y=>val (el S2 (onG A n) n y j) * (if c=y then 1 else 0) + -1 * (val (onG A n c y) * val (el S2 (onG A n) n y j))):=zaL (fun y _=>by unfold idV;grind);rw[e2,zfl,zlA (fun y=>val (el S2 (onG A n) n y j)) hc,zcH]
 grind
theorem zHk {d Q:Nat→Rat}(hd:∀ x,x<n→1≤d x)(hdI:∀ x,x<n→isI (d x))(hAI:∀ x y,x<n→y<n→Fin2 (A x y)→isI (d x * val (A x y)))
  (hQ:∀ x,x<n→2 * (d x * (1+rs n (fun m=>val (A x m))))≤Q x) :
  ∃ M:Rat,isI M∧M≠0∧ab M≤rp n Q∧∀ i j,i<n→j<n→Fin2 (el S2 A n i j)→isI (val (el S2 A n i j) * M)∧ab (val (el S2 A n i j) * M)≤rp n Q:=by
 have hsum:∀ x,0≤rs n (fun m=>val (A x m)):=fun x=>zcB (fun m _=>zbE _)
 have hvle:∀ x y,val (onG A n x y)≤val (A x y):=fun x y=>by
  rcases znM A n x y with h|h
  ·rw[h,zdb];exact zbE _
  ·rw[h.1];exact Rat.le_refl
 have hBI:∀ x y,x<n→y<n→isI (d x * val (onG A n x y)):=fun x y hx hy=>by
  rcases znM A n x y with h|h
  ·rw[h,zdb];exact zbY (hdI x hx) ⟨0,rfl⟩
  ·rw[h.1];exact hAI x y hx hy h.2
 have hV:∀ y c,y<n→c<n→isI (d c * idV (fun x y=>val (onG A n x y)) y c):=fun y c hy hc=>by
  have e:d c * idV (fun x y=>val (onG A n x y)) y c=d c * (if c=y then 1 else 0) + -(d c * val (onG A n c y)):=by unfold idV;grind
  rw[e];exact ziy (zbY (hdI c hc) (by split;exact⟨1,rfl⟩;exact⟨0,rfl⟩)) (zwf (hBI c y hc hy))
 have hrow:∀ c,c<n→rs n (fun y=>ab (d c * idV (fun x y=>val (onG A n x y)) y c))≤d c * (1+rs n (fun m=>val (A c m))):=fun c hc=>by
  have h1:=hd c hc
  have hle:rs n (fun y=>ab (d c * idV (fun x y=>val (onG A n x y)) y c))≤rs n (fun y=>d c * (1 * (if c=y then 1 else 0)+val (A c y))):=zhO (fun y _=>by
   rw[ziz,zeE (show 0≤d c by grind)];refine Rat.mul_le_mul_of_nonneg_left ?_ (by grind);have h2:=zbE (onG A n c y);have h3:=hvle c y;unfold idV;refine zxy ?_ ?_ <;> split <;> grind)
  rwa [zcH,zfl,zlA (fun _=>1) hc] at hle
 have hle2:∀ c,c<n→d c * (1+rs n (fun m=>val (A c m)))≤Q c:=fun c hc=>by
  have h1:=hQ c hc;have h2:=Rat.mul_nonneg (show 0≤d c by have:=hd c hc;grind) (show 0≤1+rs n (fun m=>val (A c m)) by have:=hsum c;grind)
  grind
 have hne:=zxA n (onG A n) (fun t x y ht hx hy=>zpv t ht x y hx hy);have hsc:=zms n d (idV (fun x y=>val (onG A n x y)));have hD:=zhQ (f:=d) (n:=n) hd;refine⟨dt n (fun y c=>d c * idV (fun x y=>val (onG A n x y)) y c),zkp hV,?_,?_,fun i j hi hj hf => ?_⟩
 ·rw[hsc]
  intro e;rcases Rat.mul_eq_zero.1 e with e|e
  ·grind
  ·exact hne e
 ·exact Rat.le_trans (zho _ _) (zhP (fun c _=>zcB (fun y _=>zbR _)) (fun c hc=>Rat.le_trans (hrow c hc) (hle2 c hc)))
 ·obtain⟨k,rfl⟩:∃ k,n=k+1:=⟨n - 1,by omega⟩
  have hcr:=zsQ hi (fun y c=>d c * idV (fun x y=>val (onG A (k+1) x y)) y c) (fun y=>val (el S2 (onG A (k+1)) (k+1) y j)) (fun c=>d c * val (onG A (k+1) c j)) (fun c hc=>by
   rw[zFZ hc hj,← zcH];exact zaL (fun y _=>by grind))
  rw[zHj hi hj hf,← hcr];refine⟨zkp (fun y c hy hc => ?_),Rat.le_trans (zho _ _) (zhP (fun c _=>zcB (fun y _=>zbR _)) (fun c hc => ?_))⟩
  ·unfold up
   by_cases e:y=i
   ·rw[if_pos e];exact hBI c j hc hj
   ·rw[if_neg e];exact hV y c hy hc
  ·
   have h1:=hrow c hc;have h2:=hQ c hc;have h0:=hd c hc;have h5:=zrG (f:=fun m=>val (A c m)) (n:=k+1) (j:=j) (fun m _=>zbE _) hj;have h3:=hvle c j;have h6:=Rat.mul_le_mul_of_nonneg_left (Rat.le_trans h3 h5) (show 0≤d c by grind)
   have hle:rs (k+1) (fun y=>ab (up (fun y c=>d c * idV (fun x y=>val (onG A (k+1) x y)) y c) i (fun c=>d c * val (onG A (k+1) c j)) y c))≤rs (k+1) (fun y=>ab (d c * idV (fun x y=>val (onG A (k+1) x y)) y c)+(d c * val (onG A (k+1) c j)) * (if i=y then 1 else 0)):=zhO (fun y _=>by
    have h7:=zbR (d c * idV (fun x y=>val (onG A (k+1) x y)) y c);have h8:0≤d c * val (onG A (k+1) c j):=Rat.mul_nonneg (by grind) (zbE _);unfold up
    by_cases e:y=i
    ·rw[if_pos e,if_pos e.symm,zeE h8];grind
    ·rw[if_neg e,if_neg (Ne.symm e)];grind)
   rw[zfl,zlA (fun _=>d c * val (onG A (k+1) c j)) hi] at hle
   grind
end
open Go.RowKit
variable {α:Type}
structure Pick (S:Sr α)(I:α→Prop):Prop where
 pick:∀ u v,S.add u v=u∨S.add u v=v
 inf:∀ u v,I u→v≠S.zero→I (S.mul u v)
 nz:∀ u v,u≠S.zero→v≠S.zero→S.mul u v≠S.zero
 star:∀ u,S.star u=S.one∨I (S.star u)
 le_inf:∀ u v,I u→S.le u v→I v
 cancel:∀ x c,¬ I x→x≠S.zero→S.le (S.mul x c) x→S.le c S.one
theorem zht (S:Sr α)(A:Nat→Nat→α)(l:List Nat)(m:Nat):∀ (p:List Nat) (i:Nat),zbB S A (i::(p++m::l))=S.mul (zbB S A (i::(p++[m]))) (zbB S A (m::l))
 | [],i=>by
  show S.mul (A i m) (zbB S A (m::l))=S.mul (S.mul (A i m) S.one) (zbB S A (m::l));rw[S.mul_one]
 | x::p,i=>by
  show S.mul (A i x) (zbB S A (x::(p++m::l)))=S.mul (S.mul (A i x) (zbB S A (x::(p++[m])))) (zbB S A (m::l));rw[zht S A l m p x,S.mul_assoc]
theorem zkt (S:Sr α)(A:Nat→Nat→α){n j:Nat}:∀ (ms:List Nat) (i:Nat),(∀ m∈ms,m<n)→S.le (zbB S A (i::(ms++[j]))) (el S A n i j)
 | [],i,_=>by
  show S.le (S.mul (A i j) S.one) _;rw[S.mul_one,zbJ];exact S.le_add _ _
 | m::ms,i,h=>by
  have ih:=zkt S A (n:=n) (j:=j) ms m (fun x hx=>h x (List.mem_cons_of_mem _ hx));show S.le (S.mul (A i m) (zbB S A (m::(ms++[j])))) _;rw[zbJ S A n i j];exact S.le_trans _ _ _ (S.mul_mono _ _ (A i m) ih) (S.le_trans _ _ _ (zrE S (fun l=>S.mul (A i l) (el S A n l j)) (h m (List.mem_cons_self ..))) (S.le_add2 _ _))
section
variable {S:Sr α} {I:α→Prop} {A:Nat→Nat→α}
theorem Pick.idem (P:Pick S I)(u:α):S.add u u=u:=by rcases P.pick u u with h|h <;> exact h
theorem Pick.inf2 (P:Pick S I){u v:α}(hv:I v)(hu:u≠S.zero):I (S.mul u v):=by rw[S.mul_comm];exact P.inf v u hv hu
theorem Pick.way (P:Pick S I):∀ k i j,el S A k i j=S.zero∨I (el S A k i j)∨∃ ms:List Nat,(∀ m∈ms,m<k)∧zbB S A (i::(ms++[j]))=el S A k i j
 | 0,i,j => .inr (.inr ⟨[],fun m hm=>by (cases hm),S.mul_one _⟩)
 | k+1,i,j=>by
  show S.add (el S A k i j) (S.mul (S.mul (el S A k i k) (S.star (el S A k k k))) (el S A k k j))=_∨I (S.add (el S A k i j) (S.mul (S.mul (el S A k i k) (S.star (el S A k k k))) (el S A k k j)))∨∃ ms:List Nat,(∀ m∈ms,m<k+1)∧zbB S A (i::(ms++[j]))=S.add (el S A k i j) (S.mul (S.mul (el S A k i k) (S.star (el S A k k k))) (el S A k k j));rcases P.pick (el S A k i j) (S.mul (S.mul (el S A k i k) (S.star (el S A k k k))) (el S A k k j)) with h|h <;> rw[h]
  ·rcases P.way k i j with h1|h1|⟨ms,h1,h2⟩
   ·exact .inl h1
   ·exact .inr (.inl h1)
   ·exact .inr (.inr ⟨ms,fun m hm=>by have:=h1 m hm;omega,h2⟩)
  ·rcases P.way k i k with h1|h1|⟨p,h1,h2⟩
   ·rw[h1,S.zero_mul,S.zero_mul];exact .inl rfl
   ·by_cases h3:el S A k k j=S.zero
    ·rw[h3,S.mul_zero];exact .inl rfl
    ·refine .inr (.inl (P.inf _ _ (P.inf _ _ h1 ?_) h3))
     intro e;have:=S.star_law (el S A k k k);rw[e] at this;have h4:=S.zero_left this;exact h3 (by rw[← S.mul_one (el S A k k j),h4,S.mul_zero])
   ·rcases P.way k k j with g1|g1|⟨q,g1,g2⟩
    ·rw[g1,S.mul_zero];exact .inl rfl
    ·by_cases h3:S.mul (el S A k i k) (S.star (el S A k k k))=S.zero
     ·rw[h3,S.zero_mul];exact .inl rfl
     ·exact .inr (.inl (P.inf2 g1 h3))
    ·rcases P.star (el S A k k k) with s|s
     ·rw[s,S.mul_one]
      refine .inr (.inr ⟨p++k::q,fun m hm => ?_,?_⟩)
      ·rcases List.mem_append.1 hm with hm|hm
       ·have:=h1 m hm;omega
       ·rcases List.mem_cons.1 hm with rfl|hm
        ·omega
        ·have:=g1 m hm;omega
      ·rw[List.append_assoc,List.cons_append,zht,h2,g2]
     ·by_cases h3:el S A k i k=S.zero
      ·rw[h3,S.zero_mul,S.zero_mul];exact .inl rfl
      ·by_cases h4:el S A k k j=S.zero
       ·rw[h4,S.mul_zero];exact .inl rfl
       ·exact .inr (.inl (P.inf _ _ (P.inf2 s h3) h4))
theorem Pick.cat (P:Pick S I){n m:Nat}(hm:m<n){i:Nat}(hi:i<n)(j:Nat):S.le (S.mul (el S A n i m) (el S A n m j)) (el S A n i j):=by
 have hl:=zfy S A (fun x=>S.mul (A x m) (el S A n m j)) (fun x=>el S A n x j) (n:=n) (fun x hx=>by
  have h1:=S.add_mono _ _ _ _ (zrE S (fun l=>S.mul (A x l) (el S A n l j)) hm) (S.le_refl (sm S n (fun l=>S.mul (A x l) (el S A n l j))));rw[P.idem] at h1;refine S.le_trans _ _ _ h1 ?_;rw[zbJ S A n x j];exact S.le_add2 _ _) n (Nat.le_refl n) i hi
 rw[zal S (g:=fun l=>S.mul (S.mul (el S A n i l) (A l m)) (el S A n m j)) (fun l hl=>by rw[if_pos hl,S.mul_assoc]),← zjS,← S.add_mul,← zdR S A n i m] at hl;exact hl
theorem zsU:∀ {ms:List Nat},¬ ms.Nodup→∃ p l q r,ms=p++l::(q++l::r)
 | [],h=>absurd List.nodup_nil h
 | m::t,h=>by
  by_cases hm:m∈t
  ·obtain⟨q,r,e⟩:=List.append_of_mem hm
   exact⟨[],m,q,r,by rw[e];rfl⟩
  ·obtain⟨p,l,q,r,e⟩:=zsU (ms:=t) (fun hn=>h (List.nodup_cons.2 ⟨hm,hn⟩))
   exact⟨m::p,l,q,r,by rw[e];rfl⟩
theorem Pick.simple (P:Pick S I){n i j:Nat}(hi:i<n)(h0:el S A n i j≠S.zero)(hI:¬ I (el S A n i j)):∀ (t:Nat) (ms:List Nat),ms.length≤t→(∀ m∈ms,m<n)→zbB S A (i::(ms++[j]))=el S A n i j →
  ∃ ms':List Nat,ms'.Nodup∧(∀ m∈ms',m<n)∧zbB S A (i::(ms'++[j]))=el S A n i j
 | 0,ms,hl,h,e=>⟨ms,by have:ms=[]:=List.length_eq_zero_iff.1 (by omega);rw[this];exact List.nodup_nil,h,e⟩
 | t+1,ms,hl,h,e=>by
  by_cases hn:ms.Nodup
  ·exact⟨ms,hn,h,e⟩
  ·obtain⟨p,l,q,r,rfl⟩:=zsU hn
   have hl1:l<n:=h l (by simp)
   have e1:zbB S A (i::(p++l::(q++l::r)++[j]))=S.mul (zbB S A (i::(p++[l]))) (S.mul (zbB S A (l::(q++[l]))) (zbB S A (l::(r++[j])))):=by
    have s1:p++l::(q++l::r)++[j]=p++l::(q++l::(r++[j])):=by simp
    rw[s1,zht S A (q++l::(r++[j])) l p i,zht S A (r++[j]) l q l]
   have e2:zbB S A (i::(p++l::r++[j]))=S.mul (zbB S A (i::(p++[l]))) (zbB S A (l::(r++[j]))):=by
    rw[List.append_assoc,List.cons_append,zht]
   have wa:=zkt S A (n:=n) (j:=l) p i (fun m hm=>h m (by simp[hm]));have wc:=zkt S A (n:=n) (j:=l) q l (fun m hm=>h m (by simp[hm]));have wb:=zkt S A (n:=n) (j:=j) r l (fun m hm=>h m (by simp[hm]))
   have wn:=zkt S A (n:=n) (j:=j) (p++l::r) i (fun m hm=>h m (by
    rcases List.mem_append.1 hm with hm|hm
    ·simp[hm]
    ·rcases List.mem_cons.1 hm with rfl|hm
     ·simp
     ·simp[hm]))
   rw[e2] at wn;rw[e1] at e;generalize zbB S A (i::(p++[l]))=a at *;generalize zbB S A (l::(q++[l]))=c at *;generalize zbB S A (l::(r++[j]))=b at *
   have hx:el S A n i l≠S.zero:=fun z=>h0 (by
    rw[z] at wa;rw[← e,S.zero_of_le wa,S.zero_mul])
   have hy:el S A n l j≠S.zero:=fun z=>h0 (by
    rw[z] at wb;rw[← e,S.zero_of_le wb,S.mul_zero,S.mul_zero])
   have hxI:¬ I (el S A n i l):=fun z=>hI (P.le_inf _ _ (P.inf _ _ z hy) (P.cat hl1 hi j));have hc:=P.cancel _ c hxI hx (S.le_trans _ _ _ (S.mul_mono _ _ _ wc) (P.cat hl1 hi l))
   have h1:S.le (S.mul a (S.mul c b)) (S.mul a b):=S.mul_mono _ _ _ (by
    have:=S.mul_mono2 _ _ b hc
    rwa [S.one_mul] at this)
   rw[e] at h1
   refine P.simple hi h0 hI t (p++l::r) ?_ (fun m hm=>h m (by
    rcases List.mem_append.1 hm with hm|hm
    ·simp[hm]
    ·rcases List.mem_cons.1 hm with rfl|hm
     ·simp
     ·simp[hm])) (e2.trans (S.le_anti _ _ wn h1))
   rw[List.length_append,List.length_cons,List.length_append,List.length_cons] at hl;rw[List.length_append,List.length_cons]
   omega
theorem zAE:∀ {n:Nat} {o:List Nat},o.Nodup→(∀ x∈o,x<n)→o.length≤n
 | n,o,h,hb=>by
  have h2:=List.Nodup.length_le_of_subset (l₁:=o) (l₂:=List.range n) h (fun x hx=>List.mem_range.2 (hb x hx))
  rwa [List.length_range] at h2
theorem Pick.few (P:Pick S I){n i j:Nat}(hi:i<n):el S A n i j=S.zero∨I (el S A n i j)∨∃ ms:List Nat,ms.length≤n∧(∀ m∈ms,m<n)∧zbB S A (i::(ms++[j]))=el S A n i j:=by
 rcases P.way (A:=A) n i j with h|h|⟨ms,h1,h2⟩
 ·exact .inl h
 ·exact .inr (.inl h)
 ·by_cases h0:el S A n i j=S.zero
  ·exact .inl h0
  ·by_cases hI:I (el S A n i j)
   ·exact .inr (.inl hI)
   ·obtain⟨o,g1,g2,g3⟩:=P.simple hi h0 hI ms.length ms (Nat.le_refl _) h1 h2
    exact .inr (.inr ⟨o,zAE g1 g2,g2,g3⟩)
end
theorem zHQ (hk:zad 1):Pick (srE 1 hk) (fun v=>v.1 = .inl false) where
 pick u v:=by
  rcases zvU u.1 v.1 with h|h
  ·exact .inl (Subtype.ext h)
  ·exact .inr (Subtype.ext h)
 inf u v hu hv:=by
  show zbI u.1 v.1=_;rw[show u.1 = .inl false from hu];have h:v.1 ≠ .inl true:=fun e=>hv (Subtype.ext e);rcases hv2:v.1 with(_|_)|x
  ·rfl
  ·exact absurd hv2 h
  ·rfl
 nz u v hu hv e:=by
  have h1:u.1 ≠ .inl true:=fun e=>hu (Subtype.ext e);have h2:v.1 ≠ .inl true:=fun e=>hv (Subtype.ext e);have h3:zbI u.1 v.1 = .inl true:=congrArg Subtype.val e;rcases hu2:u.1 with(_|_)|x <;> rcases hv2:v.1 with(_|_)|y <;> rw[hu2,hv2] at h3 <;> first|exact h1 hu2|exact h2 hv2|cases h3
 star u:=by
  by_cases h:cmpE u.1 (.inr 0)<0
  ·exact .inr (if_pos h)
  ·exact .inl (Subtype.ext (if_neg h))
 le_inf u v hu h:=by
  have h2:leE v.1 u.1:=h;rw[show u.1 = .inl false from hu] at h2;rcases hv:v.1 with(_|_)|x
  ·rfl
  ·rw[hv] at h2;exact absurd h2 zig
  ·rw[hv] at h2;exact absurd h2 (zey x)
 cancel x c hI h0 h:=by
  have h2:leE x.1 (zbI x.1 c.1):=h;show leE (.inr 0) c.1;rcases hx:x.1 with(_|_)|q
  ·exact absurd hx hI
  ·exact absurd (Subtype.ext hx) h0
  ·rcases hc:c.1 with(_|_)|r
   ·rw[hx,hc] at h2;exact absurd h2 (zey q)
   ·exact zbQ _
   ·rw[hx,hc] at h2
    have h3:q≤q+r:=(zbi _ _).1 h2;exact(zbi _ _).2 (by grind)
theorem zeV (v:El 3):v.1 = .inl true∨∃ x,v.1 = .inr x∧0≤x:=by
 have h:=v.2;rw[← zch] at h;rcases zat v.1 h with h|⟨x,h,hx⟩
 ·exact .inl h
 ·exact .inr ⟨x,h,hx⟩
theorem zHR (hk:zad 3):Pick (srE 3 hk) (fun v=>v.1 = .inl true) where
 pick u v:=by
  rcases zoR u.1 v.1 with h|h
  ·exact .inl (Subtype.ext h)
  ·exact .inr (Subtype.ext h)
 inf u v hu hv:=by
  show zaB u.1 v.1=_;rw[show u.1 = .inl true from hu];rcases zeV v with h|⟨x,h,hx⟩ <;> rw[h]
  ·exact zbf
  ·exact zaC (fun e=>hv (Subtype.ext (by rw[h,e];rfl)))
 nz u v hu hv e:=by
  have h3:zaB u.1 v.1 = .inr 0:=congrArg Subtype.val e;rcases zeV u with h|⟨x,h,hx⟩ <;> rcases zeV v with g|⟨y,g,hy⟩ <;> rw[h,g] at h3
  ·rw[zbf] at h3;cases h3
  ·rw[zaC (fun e=>hv (Subtype.ext (by rw[g,e];rfl)))] at h3;cases h3
  ·rw[zaE (fun e=>hu (Subtype.ext (by rw[h,e];rfl)))] at h3;cases h3
  ·rw[zaU] at h3
   have h4:x * y=0:=Sum.inr.inj h3;rcases Rat.mul_eq_zero.1 h4 with e|e
   ·exact hu (Subtype.ext (by rw[h,e];rfl))
   ·exact hv (Subtype.ext (by rw[g,e];rfl))
 star u:=by
  by_cases h:0<cmpE u.1 (.inr 1)
  ·exact .inr (if_pos h)
  ·exact .inl (Subtype.ext (if_neg h))
 le_inf u v hu h:=by
  have h2:leE u.1 v.1:=h;rw[show u.1 = .inl true from hu] at h2;rcases zeV v with g|⟨y,g,hy⟩
  ·exact g
  ·rw[g] at h2;exact absurd h2 (zbA y)
 cancel x c hI h0 h:=by
  have h2:leE (zaB x.1 c.1) x.1:=h;show leE c.1 (.inr 1);rcases zeV x with hx|⟨q,hx,hq⟩
  ·exact absurd hx hI
  ·have hq0:q≠0:=fun e=>h0 (Subtype.ext (by rw[hx,e];rfl))
   rcases zeV c with hc|⟨r,hc,hr⟩
   ·rw[hx,hc,zaE hq0] at h2;exact absurd h2 (zbA q)
   ·rw[hc]
    rw[hx,hc,zaU] at h2;have h3:q * r≤q:=(zbi _ _).1 h2;refine(zbi _ _).2 (Rat.not_lt.1 (fun hlt => ?_))
    have hqp:0<q:=by
     rcases Rat.le_iff_lt_or_eq.1 hq with h|h
     ·exact h
     ·exact absurd h.symm hq0
    have:=zlZ hlt hqp;rw[Rat.mul_comm] at this;exact absurd h3 (Rat.not_le.2 this)
theorem zqo {k:Int}{hk:zad k}{A:Nat→Nat→El k}{n w:Nat}(hw:1≤w)(hA:∀ x y,x<n→y<n→zaA w (A x y).1){j:Nat}(hj:j<n):∀ (ms:List Nat) (i:Nat),i<n→(∀ m∈ms,m<n)→zaA ((w+1) * (ms.length+1)+1) (zbB (srE k hk) A (i::(ms++[j]))).1
 | [],i,hi,_=>(zdH k hw (hA i j hi hj) (zgD k)).mono (by rw[List.length_nil];omega)
 | m::ms,i,hi,h=>by
  have hm:=h m (List.mem_cons_self ..);have ih:=zqo (hk:=hk) hw hA hj ms m hm (fun x hx=>h x (List.mem_cons_of_mem _ hx));have h1:=zdH k hw (hA i m hi hm) ih;refine zaA.mono h1 ?_;rw[List.length_cons];have:(w+1) * (ms.length+1+1)=(w+1) * (ms.length+1)+(w+1):=Nat.mul_succ _ _
  omega
theorem zDQ {k:Int}(hk:zad k)(h:k=1∨k=3){A:Nat→Nat→El k}{n w:Nat}(hw:1≤w)(hA:∀ x y,x<n→y<n→zaA w (A x y).1){i j:Nat}(hi:i<n)(hj:j<n):zaA ((w+1) * (n+1)+1) (el (srE k hk) A n i j).1:=by
 have key:∀ I,Pick (srE k hk) I→(∀ v,I v→zaA 1 v.1)→zaA ((w+1) * (n+1)+1) (el (srE k hk) A n i j).1:=fun I P hI=>by
  rcases P.few (A:=A) (n:=n) (i:=i) (j:=j) hi with e|e|⟨ms,h1,h2,e⟩
  ·rw[e];exact(zda k).mono (by omega)
  ·exact(hI _ e).mono (by omega)
  ·rw[← e]
   refine(zqo (hk:=hk) hw hA hj ms i hi h2).mono ?_;have:=Nat.mul_le_mul_left (w+1) (show ms.length+1≤n+1 by omega)
   omega
 rcases h with rfl|rfl
 ·exact key _ (zHQ hk) (fun v hv=>by rw[show v.1 = .inl false from hv];trivial)
 ·exact key _ (zHR hk) (fun v hv=>by rw[show v.1 = .inl true from hv];trivial)
end Go.Proofs.YtaogepcaoogpgaaGreatDoor
