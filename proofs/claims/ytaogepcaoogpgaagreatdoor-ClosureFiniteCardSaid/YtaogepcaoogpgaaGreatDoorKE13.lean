/- WE11 WE92 WE93 -/
import Derived.Test.YtaogepcaoogpgaaGreatDoorKE12
set_option linter.unusedVariables false
set_option linter.unusedSimpArgs false
set_option maxRecDepth 100000
set_option maxHeartbeats 16000000
namespace Go.Proofs.YtaogepcaoogpgaaGreatDoor
open Go.RowKit
open Go.Lib (nDigits decDigits)
theorem zoM (s:ByteArray)(k:Nat)(hk:k<s.size):s.data.toList[k]? = some s[k]:=Lib.data_getElem? s k hk
theorem zxj (s:ByteArray)(w:World)(hs:s.size≤maxLen) :
  Calls Tryz.prog 172 #[.string s,.int .u8 47] w fun e w'=>e = .returned (.int .i64 (Lib.indexByte s.data.toList 47))∧w=w':=by
 unfold maxLen at hs;go_enter Tryz.func172,Tryz.ntmps172;go_wp2
 go_loop [5] (fun i=>∃ k:Nat,i = .int .i64 k∧k≤s.size∧Lib.NoAny s.data.toList [47] k) (fun i=>s.size - (intOf i).toNat)
 case atStart=>exact⟨0,rfl,by omega,Lib.NoAny.zero _ _⟩
 case round =>
  obtain⟨k,rfl,hk,hno⟩:=hrel;have HNO:=zHd hno;clear hno
  by_cases hlt:k<s.size
  ·have hat:=zHd (zoM s k hlt)
   cases he:((s[k].toNat:Int) == 47)
   ·have hx:¬ (s[k].toNat:Int)=47:=by simpa using he
    have hc:([47]:List UInt8).contains s[k]=false:=by
     simp only[List.contains_cons,List.contains_nil,Bool.or_false,beq_eq_false_iff_ne];intro e;rw[e] at hx;exact hx rfl
    have HS:=zHd (HNO.out.succ hat.out hc);clear hx hc;go_wp2
    go_round
    case rel=>exact⟨k+1,by go_num,by omega,HS.out⟩
    case measure=>simp[intOf];omega
   ·have hx:(s[k].toNat:Int)=47:=by simpa using he
    have hc:([47]:List UInt8).contains s[k]=true:=by
     have:s[k]=47:=UInt8.toNat_inj.1 (by have:(47:UInt8).toNat=47:=rfl;omega);rw[this];decide
    have HS:=zHd (Lib.indexAny_hit HNO.out hat.out hc);clear hx hc;go_wp2;go_ret;exact⟨by rw[← Lib.indexAny_one,HS.out];rfl,rfl⟩
  ·have HS:=zHd (Lib.indexAny_none (s:=s.data.toList) (chars:=[47]) (by
    have e:k=s.data.toList.length:=by rw[← Lib.size_eq];omega
    rw[← e];exact HNO.out))
   go_wp2;go_ret;exact⟨by rw[← Lib.indexAny_one,HS.out];rfl,rfl⟩
def zcH (s:ByteArray):Bool:=decide (s.size≤400)&&numB s
theorem zhJ (s:ByteArray)(w:World)(hs:s.size≤maxLen) :
  Calls Tryz.prog 173 #[.string s] w fun e w'=>e = .returned (.bool (zcH s))∧w=w':=by
 have hv:=fun w=>zan s w hs
 by_cases h:s.size≤400
 ·have HN:=zHd (show zcH s=numB s by unfold zcH;simp[h])
  have h1:(s.size:Int)≤400:=by omega
  generalize numB s=b at *;have HV:=zHd hv;clear hv;go_enter Tryz.func173,Tryz.ntmps173;go_wp2_with fail;refine(HV.out _).mono ?_;rintro e w' ⟨rfl,rfl⟩;go_wp2;go_ret;exact⟨by rw[HN.out];rfl,rfl⟩
 ·have HN:=zHd (show zcH s=false by unfold zcH;simp[h])
  have h1:¬ (s.size:Int)≤400:=by omega
  clear hv;go_enter Tryz.func173,Tryz.ntmps173;go_wp2;go_ret;exact⟨by rw[HN.out];rfl,rfl⟩
theorem zuu (A C P:ByteArray)(w:World)(M:Hid (∀ w,Calls Tryz.prog 178 #[.string A,.string C] w (zab (.tuple #[.string P,.int .i64 0]) w))) :
  Calls Tryz.prog 139 #[.string A,.string C] w (zab (.string P) w):=by
 go_enter Tryz.func139,Tryz.ntmps139;go_wp2_with fail;refine(M.out _).mono ?_;rintro e w1 ⟨rfl,hg⟩;have G1:=zHd hg;clear hg;go_wp2;go_ret;exact⟨rfl,G1.out⟩
open Go.RowKit
open Go.Lib (nDigits decDigits)
def zbZ (R:ByteArray)(z:Int):Prop:=∀ w,Calls Tryz.prog 172 #[.string R,.int .u8 47] w fun e w'=>e = .returned (.int .i64 z)∧w=w'
def ShOk (s:ByteArray)(b:Bool):Prop:=∀ w,Calls Tryz.prog 173 #[.string s] w fun e w'=>e = .returned (.bool b)∧w=w'
def GcOk (n d G:ByteArray):Prop:=∀ w,Calls Tryz.prog 174 #[.string n,.string d] w (zab (.tuple #[.string G,.int .i64 0]) w)
theorem zoN (a R G:ByteArray)(w:World)(h0:¬ (0:Int)<(a.size:Int))(eR:a=R)
  (IX:Hid (zbZ R (-1))) (S1:Hid (ShOk R false)) :
  Calls Tryz.prog 137 #[.string a] w (zab (.tuple #[.bool false,.string ⟨#[]⟩,.string ⟨#[]⟩,.bool false]) w):=by
 subst eR;go_enter Tryz.func137,Tryz.ntmps137;go_wp2_with fail;refine(IX.out _).mono ?_;rintro e w' ⟨rfl,rfl⟩;go_wp2_with fail;refine(S1.out _).mono ?_;rintro e w' ⟨rfl,rfl⟩;go_wp2;exact bodyPost_ret (v := .tuple #[.bool _,.string _,.string _,.bool _]) (by simp[results,Tryz.results137,go_sem]) rfl ⟨rfl,zag _ _⟩
theorem zoO (a R G:ByteArray)(w:World)(h0:(0:Int)<(a.size:Int))(hp:0<a.size)(h1:(((a[0]'hp).toNat:Int) == 45)=false)(eR:a=R)
  (IX:Hid (zbZ R (-1))) (S1:Hid (ShOk R false)) :
  Calls Tryz.prog 137 #[.string a] w (zab (.tuple #[.bool false,.string ⟨#[]⟩,.string ⟨#[]⟩,.bool false]) w):=by
 subst eR;go_enter Tryz.func137,Tryz.ntmps137;go_wp2_with fail;refine(IX.out _).mono ?_;rintro e w' ⟨rfl,rfl⟩;go_wp2_with fail;refine(S1.out _).mono ?_;rintro e w' ⟨rfl,rfl⟩;go_wp2;exact bodyPost_ret (v := .tuple #[.bool _,.string _,.string _,.bool _]) (by simp[results,Tryz.results137,go_sem]) rfl ⟨rfl,zag _ _⟩
theorem zoP (a R G:ByteArray)(w:World)(h0:(0:Int)<(a.size:Int))(hp:0<a.size)(h1:(((a[0]'hp).toNat:Int) == 45)=true)(hle:(1:Int)≤(a.size:Int))(eR:a.extract 1 a.size=R)
  (IX:Hid (zbZ R (-1))) (S1:Hid (ShOk R false)) :
  Calls Tryz.prog 137 #[.string a] w (zab (.tuple #[.bool false,.string ⟨#[]⟩,.string ⟨#[]⟩,.bool false]) w):=by
 go_enter Tryz.func137,Tryz.ntmps137;go_wp2_with fail;refine(IX.out _).mono ?_;rintro e w' ⟨rfl,rfl⟩;go_wp2_with fail;refine(S1.out _).mono ?_;rintro e w' ⟨rfl,rfl⟩;go_wp2;exact bodyPost_ret (v := .tuple #[.bool _,.string _,.string _,.bool _]) (by simp[results,Tryz.results137,go_sem]) rfl ⟨rfl,zag _ _⟩
theorem znD (a R G:ByteArray)(w:World)(h0:(0:Int)<(a.size:Int))(hp:0<a.size)(h1:(((a[0]'hp).toNat:Int) == 45)=false)(eR:a=R)
  (IX:Hid (zbZ R (-1))) (S1:Hid (ShOk R true)) (S2:Hid (ShOk ⟨#[49]⟩ true)) (z1:(R.toList == [48])=true) (GC:Hid (GcOk R ⟨#[49]⟩ G)) (q1:(G.toList == [49])=true) (q2:(G.toList != [49])=false) :
  Calls Tryz.prog 137 #[.string a] w (zab (.tuple #[.bool false,.string R,.string ⟨#[49]⟩,.bool true]) w):=by
 subst eR;go_enter Tryz.func137,Tryz.ntmps137;go_wp2_with fail;refine(IX.out _).mono ?_;rintro e w' ⟨rfl,rfl⟩;go_wp2_with fail;refine(S1.out _).mono ?_;rintro e w' ⟨rfl,rfl⟩;go_wp2_with fail;refine(S2.out _).mono ?_;rintro e w' ⟨rfl,rfl⟩;go_wp2_with fail;refine(GC.out _).mono ?_;rintro e w1 ⟨rfl,hg⟩;have G1:=zHd hg;clear hg;go_wp2;exact bodyPost_ret (v := .tuple #[.bool _,.string _,.string _,.bool _]) (by simp[results,Tryz.results137,go_sem]) rfl ⟨rfl,G1.out⟩
theorem znE (a R G:ByteArray)(w:World)(h0:(0:Int)<(a.size:Int))(hp:0<a.size)(h1:(((a[0]'hp).toNat:Int) == 45)=false)(eR:a=R)
  (IX:Hid (zbZ R (-1))) (S1:Hid (ShOk R true)) (S2:Hid (ShOk ⟨#[49]⟩ true)) (z1:(R.toList == [48])=false) (GC:Hid (GcOk R ⟨#[49]⟩ G)) (q1:(G.toList == [49])=true) (q2:(G.toList != [49])=false) :
  Calls Tryz.prog 137 #[.string a] w (zab (.tuple #[.bool false,.string R,.string ⟨#[49]⟩,.bool true]) w):=by
 subst eR;go_enter Tryz.func137,Tryz.ntmps137;go_wp2_with fail;refine(IX.out _).mono ?_;rintro e w' ⟨rfl,rfl⟩;go_wp2_with fail;refine(S1.out _).mono ?_;rintro e w' ⟨rfl,rfl⟩;go_wp2_with fail;refine(S2.out _).mono ?_;rintro e w' ⟨rfl,rfl⟩;go_wp2_with fail;refine(GC.out _).mono ?_;rintro e w1 ⟨rfl,hg⟩;have G1:=zHd hg;clear hg;go_wp2;exact bodyPost_ret (v := .tuple #[.bool _,.string _,.string _,.bool _]) (by simp[results,Tryz.results137,go_sem]) rfl ⟨rfl,G1.out⟩
theorem zoQ (a R G:ByteArray)(w:World)(h0:(0:Int)<(a.size:Int))(hp:0<a.size)(h1:(((a[0]'hp).toNat:Int) == 45)=true)(hle:(1:Int)≤(a.size:Int))(eR:a.extract 1 a.size=R)
  (IX:Hid (zbZ R (-1))) (S1:Hid (ShOk R true)) (S2:Hid (ShOk ⟨#[49]⟩ true)) (z1:(R.toList == [48])=true) :
  Calls Tryz.prog 137 #[.string a] w (zab (.tuple #[.bool false,.string ⟨#[]⟩,.string ⟨#[]⟩,.bool false]) w):=by
 go_enter Tryz.func137,Tryz.ntmps137;go_wp2_with fail;refine(IX.out _).mono ?_;rintro e w' ⟨rfl,rfl⟩;go_wp2_with fail;refine(S1.out _).mono ?_;rintro e w' ⟨rfl,rfl⟩;go_wp2_with fail;refine(S2.out _).mono ?_;rintro e w' ⟨rfl,rfl⟩;go_wp2;exact bodyPost_ret (v := .tuple #[.bool _,.string _,.string _,.bool _]) (by simp[results,Tryz.results137,go_sem]) rfl ⟨rfl,zag _ _⟩
theorem znF (a R G:ByteArray)(w:World)(h0:(0:Int)<(a.size:Int))(hp:0<a.size)(h1:(((a[0]'hp).toNat:Int) == 45)=true)(hle:(1:Int)≤(a.size:Int))(eR:a.extract 1 a.size=R)
  (IX:Hid (zbZ R (-1))) (S1:Hid (ShOk R true)) (S2:Hid (ShOk ⟨#[49]⟩ true)) (z1:(R.toList == [48])=false) (GC:Hid (GcOk R ⟨#[49]⟩ G)) (q1:(G.toList == [49])=true) (q2:(G.toList != [49])=false) :
  Calls Tryz.prog 137 #[.string a] w (zab (.tuple #[.bool true,.string R,.string ⟨#[49]⟩,.bool true]) w):=by
 go_enter Tryz.func137,Tryz.ntmps137;go_wp2_with fail;refine(IX.out _).mono ?_;rintro e w' ⟨rfl,rfl⟩;go_wp2_with fail;refine(S1.out _).mono ?_;rintro e w' ⟨rfl,rfl⟩;go_wp2_with fail;refine(S2.out _).mono ?_;rintro e w' ⟨rfl,rfl⟩;go_wp2_with fail;refine(GC.out _).mono ?_;rintro e w1 ⟨rfl,hg⟩;have G1:=zHd hg;clear hg;go_wp2;exact bodyPost_ret (v := .tuple #[.bool _,.string _,.string _,.bool _]) (by simp[results,Tryz.results137,go_sem]) rfl ⟨rfl,G1.out⟩
theorem zoR (a R n d G:ByteArray)(i:Nat)(w:World)(h0:(0:Int)<(a.size:Int))(hp:0<a.size)(h1:(((a[0]'hp).toNat:Int) == 45)=false)(eR:a=R)
  (hi:i<R.size) (hR:R.size≤9223372036854775807) (IX:Hid (zbZ R i)) (eN:R.extract 0 i=n) (eD:R.extract (i+1) R.size=d) (S1:Hid (ShOk n false)) :
  Calls Tryz.prog 137 #[.string a] w (zab (.tuple #[.bool false,.string ⟨#[]⟩,.string ⟨#[]⟩,.bool false]) w):=by
 have c1:(0:Int)≤(i:Int):=by omega
 have c2:(i:Int)≤(R.size:Int):=by omega
 have c3:(0:Int)≤(i:Int)+1:=by omega
 have c4:(i:Int)+1≤(R.size:Int):=by omega
 subst eR;go_enter Tryz.func137,Tryz.ntmps137;go_wp2_with fail;refine(IX.out _).mono ?_;rintro e w' ⟨rfl,rfl⟩;go_wp2_with fail;refine(S1.out _).mono ?_;rintro e w' ⟨rfl,rfl⟩;go_wp2;exact bodyPost_ret (v := .tuple #[.bool _,.string _,.string _,.bool _]) (by simp[results,Tryz.results137,go_sem]) rfl ⟨rfl,zag _ _⟩
theorem zoS (a R n d G:ByteArray)(i:Nat)(w:World)(h0:(0:Int)<(a.size:Int))(hp:0<a.size)(h1:(((a[0]'hp).toNat:Int) == 45)=false)(eR:a=R)
  (hi:i<R.size) (hR:R.size≤9223372036854775807) (IX:Hid (zbZ R i)) (eN:R.extract 0 i=n) (eD:R.extract (i+1) R.size=d) (S1:Hid (ShOk n true)) (S2:Hid (ShOk d false)) :
  Calls Tryz.prog 137 #[.string a] w (zab (.tuple #[.bool false,.string ⟨#[]⟩,.string ⟨#[]⟩,.bool false]) w):=by
 have c1:(0:Int)≤(i:Int):=by omega
 have c2:(i:Int)≤(R.size:Int):=by omega
 have c3:(0:Int)≤(i:Int)+1:=by omega
 have c4:(i:Int)+1≤(R.size:Int):=by omega
 subst eR;go_enter Tryz.func137,Tryz.ntmps137;go_wp2_with fail;refine(IX.out _).mono ?_;rintro e w' ⟨rfl,rfl⟩;go_wp2_with fail;refine(S1.out _).mono ?_;rintro e w' ⟨rfl,rfl⟩;go_wp2_with fail;refine(S2.out _).mono ?_;rintro e w' ⟨rfl,rfl⟩;go_wp2;exact bodyPost_ret (v := .tuple #[.bool _,.string _,.string _,.bool _]) (by simp[results,Tryz.results137,go_sem]) rfl ⟨rfl,zag _ _⟩
theorem zoT (a R n d G:ByteArray)(i:Nat)(w:World)(h0:(0:Int)<(a.size:Int))(hp:0<a.size)(h1:(((a[0]'hp).toNat:Int) == 45)=false)(eR:a=R)
  (hi:i<R.size) (hR:R.size≤9223372036854775807) (IX:Hid (zbZ R i)) (eN:R.extract 0 i=n) (eD:R.extract (i+1) R.size=d) (S1:Hid (ShOk n true)) (S2:Hid (ShOk d true)) (z2:(d.toList == [48])=true) :
  Calls Tryz.prog 137 #[.string a] w (zab (.tuple #[.bool false,.string ⟨#[]⟩,.string ⟨#[]⟩,.bool false]) w):=by
 have c1:(0:Int)≤(i:Int):=by omega
 have c2:(i:Int)≤(R.size:Int):=by omega
 have c3:(0:Int)≤(i:Int)+1:=by omega
 have c4:(i:Int)+1≤(R.size:Int):=by omega
 subst eR;go_enter Tryz.func137,Tryz.ntmps137;go_wp2_with fail;refine(IX.out _).mono ?_;rintro e w' ⟨rfl,rfl⟩;go_wp2_with fail;refine(S1.out _).mono ?_;rintro e w' ⟨rfl,rfl⟩;go_wp2_with fail;refine(S2.out _).mono ?_;rintro e w' ⟨rfl,rfl⟩;go_wp2;exact bodyPost_ret (v := .tuple #[.bool _,.string _,.string _,.bool _]) (by simp[results,Tryz.results137,go_sem]) rfl ⟨rfl,zag _ _⟩
theorem zoU (a R n d G:ByteArray)(i:Nat)(w:World)(h0:(0:Int)<(a.size:Int))(hp:0<a.size)(h1:(((a[0]'hp).toNat:Int) == 45)=false)(eR:a=R)
  (hi:i<R.size) (hR:R.size≤9223372036854775807) (IX:Hid (zbZ R i)) (eN:R.extract 0 i=n) (eD:R.extract (i+1) R.size=d) (S1:Hid (ShOk n true)) (S2:Hid (ShOk d true)) (z2:(d.toList == [48])=false) (z1:(n.toList == [48])=true) :
  Calls Tryz.prog 137 #[.string a] w (zab (.tuple #[.bool false,.string ⟨#[]⟩,.string ⟨#[]⟩,.bool false]) w):=by
 have c1:(0:Int)≤(i:Int):=by omega
 have c2:(i:Int)≤(R.size:Int):=by omega
 have c3:(0:Int)≤(i:Int)+1:=by omega
 have c4:(i:Int)+1≤(R.size:Int):=by omega
 subst eR;go_enter Tryz.func137,Tryz.ntmps137;go_wp2_with fail;refine(IX.out _).mono ?_;rintro e w' ⟨rfl,rfl⟩;go_wp2_with fail;refine(S1.out _).mono ?_;rintro e w' ⟨rfl,rfl⟩;go_wp2_with fail;refine(S2.out _).mono ?_;rintro e w' ⟨rfl,rfl⟩;go_wp2;exact bodyPost_ret (v := .tuple #[.bool _,.string _,.string _,.bool _]) (by simp[results,Tryz.results137,go_sem]) rfl ⟨rfl,zag _ _⟩
theorem zoV (a R n d G:ByteArray)(i:Nat)(w:World)(h0:(0:Int)<(a.size:Int))(hp:0<a.size)(h1:(((a[0]'hp).toNat:Int) == 45)=false)(eR:a=R)
  (hi:i<R.size) (hR:R.size≤9223372036854775807) (IX:Hid (zbZ R i)) (eN:R.extract 0 i=n) (eD:R.extract (i+1) R.size=d) (S1:Hid (ShOk n true)) (S2:Hid (ShOk d true)) (z2:(d.toList == [48])=false) (z1:(n.toList == [48])=false) (o2:(d.toList == [49])=true) :
  Calls Tryz.prog 137 #[.string a] w (zab (.tuple #[.bool false,.string ⟨#[]⟩,.string ⟨#[]⟩,.bool false]) w):=by
 have c1:(0:Int)≤(i:Int):=by omega
 have c2:(i:Int)≤(R.size:Int):=by omega
 have c3:(0:Int)≤(i:Int)+1:=by omega
 have c4:(i:Int)+1≤(R.size:Int):=by omega
 subst eR;go_enter Tryz.func137,Tryz.ntmps137;go_wp2_with fail;refine(IX.out _).mono ?_;rintro e w' ⟨rfl,rfl⟩;go_wp2_with fail;refine(S1.out _).mono ?_;rintro e w' ⟨rfl,rfl⟩;go_wp2_with fail;refine(S2.out _).mono ?_;rintro e w' ⟨rfl,rfl⟩;go_wp2;exact bodyPost_ret (v := .tuple #[.bool _,.string _,.string _,.bool _]) (by simp[results,Tryz.results137,go_sem]) rfl ⟨rfl,zag _ _⟩
theorem zoW (a R n d G:ByteArray)(i:Nat)(w:World)(h0:(0:Int)<(a.size:Int))(hp:0<a.size)(h1:(((a[0]'hp).toNat:Int) == 45)=false)(eR:a=R)
  (hi:i<R.size) (hR:R.size≤9223372036854775807) (IX:Hid (zbZ R i)) (eN:R.extract 0 i=n) (eD:R.extract (i+1) R.size=d) (S1:Hid (ShOk n true)) (S2:Hid (ShOk d true)) (z2:(d.toList == [48])=false) (z1:(n.toList == [48])=false) (o2:(d.toList == [49])=false) (o3:(d.toList != [49])=true) (GC:Hid (GcOk n d G)) (q1:(G.toList == [49])=false) (q2:(G.toList != [49])=true) :
  Calls Tryz.prog 137 #[.string a] w (zab (.tuple #[.bool false,.string ⟨#[]⟩,.string ⟨#[]⟩,.bool false]) w):=by
 have c1:(0:Int)≤(i:Int):=by omega
 have c2:(i:Int)≤(R.size:Int):=by omega
 have c3:(0:Int)≤(i:Int)+1:=by omega
 have c4:(i:Int)+1≤(R.size:Int):=by omega
 subst eR;go_enter Tryz.func137,Tryz.ntmps137;go_wp2_with fail;refine(IX.out _).mono ?_;rintro e w' ⟨rfl,rfl⟩;go_wp2_with fail;refine(S1.out _).mono ?_;rintro e w' ⟨rfl,rfl⟩;go_wp2_with fail;refine(S2.out _).mono ?_;rintro e w' ⟨rfl,rfl⟩;go_wp2_with fail;refine(GC.out _).mono ?_;rintro e w1 ⟨rfl,hg⟩;have G1:=zHd hg;clear hg;go_wp2;exact bodyPost_ret (v := .tuple #[.bool _,.string _,.string _,.bool _]) (by simp[results,Tryz.results137,go_sem]) rfl ⟨rfl,G1.out⟩
theorem zoX (a R n d G:ByteArray)(i:Nat)(w:World)(h0:(0:Int)<(a.size:Int))(hp:0<a.size)(h1:(((a[0]'hp).toNat:Int) == 45)=false)(eR:a=R)
  (hi:i<R.size) (hR:R.size≤9223372036854775807) (IX:Hid (zbZ R i)) (eN:R.extract 0 i=n) (eD:R.extract (i+1) R.size=d) (S1:Hid (ShOk n true)) (S2:Hid (ShOk d true)) (z2:(d.toList == [48])=false) (z1:(n.toList == [48])=false) (o2:(d.toList == [49])=false) (o3:(d.toList != [49])=true) (GC:Hid (GcOk n d G)) (q1:(G.toList == [49])=true) (q2:(G.toList != [49])=false) :
  Calls Tryz.prog 137 #[.string a] w (zab (.tuple #[.bool false,.string n,.string d,.bool true]) w):=by
 have c1:(0:Int)≤(i:Int):=by omega
 have c2:(i:Int)≤(R.size:Int):=by omega
 have c3:(0:Int)≤(i:Int)+1:=by omega
 have c4:(i:Int)+1≤(R.size:Int):=by omega
 subst eR;go_enter Tryz.func137,Tryz.ntmps137;go_wp2_with fail;refine(IX.out _).mono ?_;rintro e w' ⟨rfl,rfl⟩;go_wp2_with fail;refine(S1.out _).mono ?_;rintro e w' ⟨rfl,rfl⟩;go_wp2_with fail;refine(S2.out _).mono ?_;rintro e w' ⟨rfl,rfl⟩;go_wp2_with fail;refine(GC.out _).mono ?_;rintro e w1 ⟨rfl,hg⟩;have G1:=zHd hg;clear hg;go_wp2;exact bodyPost_ret (v := .tuple #[.bool _,.string _,.string _,.bool _]) (by simp[results,Tryz.results137,go_sem]) rfl ⟨rfl,G1.out⟩
theorem zoY (a R n d G:ByteArray)(i:Nat)(w:World)(h0:(0:Int)<(a.size:Int))(hp:0<a.size)(h1:(((a[0]'hp).toNat:Int) == 45)=true)(hle:(1:Int)≤(a.size:Int))(eR:a.extract 1 a.size=R)
  (hi:i<R.size) (hR:R.size≤9223372036854775807) (IX:Hid (zbZ R i)) (eN:R.extract 0 i=n) (eD:R.extract (i+1) R.size=d) (S1:Hid (ShOk n false)) :
  Calls Tryz.prog 137 #[.string a] w (zab (.tuple #[.bool false,.string ⟨#[]⟩,.string ⟨#[]⟩,.bool false]) w):=by
 have c1:(0:Int)≤(i:Int):=by omega
 have c2:(i:Int)≤(R.size:Int):=by omega
 have c3:(0:Int)≤(i:Int)+1:=by omega
 have c4:(i:Int)+1≤(R.size:Int):=by omega
 go_enter Tryz.func137,Tryz.ntmps137;go_wp2_with fail;refine(IX.out _).mono ?_;rintro e w' ⟨rfl,rfl⟩;go_wp2_with fail;refine(S1.out _).mono ?_;rintro e w' ⟨rfl,rfl⟩;go_wp2;exact bodyPost_ret (v := .tuple #[.bool _,.string _,.string _,.bool _]) (by simp[results,Tryz.results137,go_sem]) rfl ⟨rfl,zag _ _⟩
theorem zoZ (a R n d G:ByteArray)(i:Nat)(w:World)(h0:(0:Int)<(a.size:Int))(hp:0<a.size)(h1:(((a[0]'hp).toNat:Int) == 45)=true)(hle:(1:Int)≤(a.size:Int))(eR:a.extract 1 a.size=R)
  (hi:i<R.size) (hR:R.size≤9223372036854775807) (IX:Hid (zbZ R i)) (eN:R.extract 0 i=n) (eD:R.extract (i+1) R.size=d) (S1:Hid (ShOk n true)) (S2:Hid (ShOk d false)) :
  Calls Tryz.prog 137 #[.string a] w (zab (.tuple #[.bool false,.string ⟨#[]⟩,.string ⟨#[]⟩,.bool false]) w):=by
 have c1:(0:Int)≤(i:Int):=by omega
 have c2:(i:Int)≤(R.size:Int):=by omega
 have c3:(0:Int)≤(i:Int)+1:=by omega
 have c4:(i:Int)+1≤(R.size:Int):=by omega
 go_enter Tryz.func137,Tryz.ntmps137;go_wp2_with fail;refine(IX.out _).mono ?_;rintro e w' ⟨rfl,rfl⟩;go_wp2_with fail;refine(S1.out _).mono ?_;rintro e w' ⟨rfl,rfl⟩;go_wp2_with fail;refine(S2.out _).mono ?_;rintro e w' ⟨rfl,rfl⟩;go_wp2;exact bodyPost_ret (v := .tuple #[.bool _,.string _,.string _,.bool _]) (by simp[results,Tryz.results137,go_sem]) rfl ⟨rfl,zag _ _⟩
theorem zpa (a R n d G:ByteArray)(i:Nat)(w:World)(h0:(0:Int)<(a.size:Int))(hp:0<a.size)(h1:(((a[0]'hp).toNat:Int) == 45)=true)(hle:(1:Int)≤(a.size:Int))(eR:a.extract 1 a.size=R)
  (hi:i<R.size) (hR:R.size≤9223372036854775807) (IX:Hid (zbZ R i)) (eN:R.extract 0 i=n) (eD:R.extract (i+1) R.size=d) (S1:Hid (ShOk n true)) (S2:Hid (ShOk d true)) (z2:(d.toList == [48])=true) :
  Calls Tryz.prog 137 #[.string a] w (zab (.tuple #[.bool false,.string ⟨#[]⟩,.string ⟨#[]⟩,.bool false]) w):=by
 have c1:(0:Int)≤(i:Int):=by omega
 have c2:(i:Int)≤(R.size:Int):=by omega
 have c3:(0:Int)≤(i:Int)+1:=by omega
 have c4:(i:Int)+1≤(R.size:Int):=by omega
 go_enter Tryz.func137,Tryz.ntmps137;go_wp2_with fail;refine(IX.out _).mono ?_;rintro e w' ⟨rfl,rfl⟩;go_wp2_with fail;refine(S1.out _).mono ?_;rintro e w' ⟨rfl,rfl⟩;go_wp2_with fail;refine(S2.out _).mono ?_;rintro e w' ⟨rfl,rfl⟩;go_wp2;exact bodyPost_ret (v := .tuple #[.bool _,.string _,.string _,.bool _]) (by simp[results,Tryz.results137,go_sem]) rfl ⟨rfl,zag _ _⟩
theorem zpb (a R n d G:ByteArray)(i:Nat)(w:World)(h0:(0:Int)<(a.size:Int))(hp:0<a.size)(h1:(((a[0]'hp).toNat:Int) == 45)=true)(hle:(1:Int)≤(a.size:Int))(eR:a.extract 1 a.size=R)
  (hi:i<R.size) (hR:R.size≤9223372036854775807) (IX:Hid (zbZ R i)) (eN:R.extract 0 i=n) (eD:R.extract (i+1) R.size=d) (S1:Hid (ShOk n true)) (S2:Hid (ShOk d true)) (z2:(d.toList == [48])=false) (z1:(n.toList == [48])=true) :
  Calls Tryz.prog 137 #[.string a] w (zab (.tuple #[.bool false,.string ⟨#[]⟩,.string ⟨#[]⟩,.bool false]) w):=by
 have c1:(0:Int)≤(i:Int):=by omega
 have c2:(i:Int)≤(R.size:Int):=by omega
 have c3:(0:Int)≤(i:Int)+1:=by omega
 have c4:(i:Int)+1≤(R.size:Int):=by omega
 go_enter Tryz.func137,Tryz.ntmps137;go_wp2_with fail;refine(IX.out _).mono ?_;rintro e w' ⟨rfl,rfl⟩;go_wp2_with fail;refine(S1.out _).mono ?_;rintro e w' ⟨rfl,rfl⟩;go_wp2_with fail;refine(S2.out _).mono ?_;rintro e w' ⟨rfl,rfl⟩;go_wp2;exact bodyPost_ret (v := .tuple #[.bool _,.string _,.string _,.bool _]) (by simp[results,Tryz.results137,go_sem]) rfl ⟨rfl,zag _ _⟩
theorem zpc (a R n d G:ByteArray)(i:Nat)(w:World)(h0:(0:Int)<(a.size:Int))(hp:0<a.size)(h1:(((a[0]'hp).toNat:Int) == 45)=true)(hle:(1:Int)≤(a.size:Int))(eR:a.extract 1 a.size=R)
  (hi:i<R.size) (hR:R.size≤9223372036854775807) (IX:Hid (zbZ R i)) (eN:R.extract 0 i=n) (eD:R.extract (i+1) R.size=d) (S1:Hid (ShOk n true)) (S2:Hid (ShOk d true)) (z2:(d.toList == [48])=false) (z1:(n.toList == [48])=false) (o2:(d.toList == [49])=true) :
  Calls Tryz.prog 137 #[.string a] w (zab (.tuple #[.bool false,.string ⟨#[]⟩,.string ⟨#[]⟩,.bool false]) w):=by
 have c1:(0:Int)≤(i:Int):=by omega
 have c2:(i:Int)≤(R.size:Int):=by omega
 have c3:(0:Int)≤(i:Int)+1:=by omega
 have c4:(i:Int)+1≤(R.size:Int):=by omega
 go_enter Tryz.func137,Tryz.ntmps137;go_wp2_with fail;refine(IX.out _).mono ?_;rintro e w' ⟨rfl,rfl⟩;go_wp2_with fail;refine(S1.out _).mono ?_;rintro e w' ⟨rfl,rfl⟩;go_wp2_with fail;refine(S2.out _).mono ?_;rintro e w' ⟨rfl,rfl⟩;go_wp2;exact bodyPost_ret (v := .tuple #[.bool _,.string _,.string _,.bool _]) (by simp[results,Tryz.results137,go_sem]) rfl ⟨rfl,zag _ _⟩
theorem zpd (a R n d G:ByteArray)(i:Nat)(w:World)(h0:(0:Int)<(a.size:Int))(hp:0<a.size)(h1:(((a[0]'hp).toNat:Int) == 45)=true)(hle:(1:Int)≤(a.size:Int))(eR:a.extract 1 a.size=R)
  (hi:i<R.size) (hR:R.size≤9223372036854775807) (IX:Hid (zbZ R i)) (eN:R.extract 0 i=n) (eD:R.extract (i+1) R.size=d) (S1:Hid (ShOk n true)) (S2:Hid (ShOk d true)) (z2:(d.toList == [48])=false) (z1:(n.toList == [48])=false) (o2:(d.toList == [49])=false) (o3:(d.toList != [49])=true) (GC:Hid (GcOk n d G)) (q1:(G.toList == [49])=false) (q2:(G.toList != [49])=true) :
  Calls Tryz.prog 137 #[.string a] w (zab (.tuple #[.bool false,.string ⟨#[]⟩,.string ⟨#[]⟩,.bool false]) w):=by
 have c1:(0:Int)≤(i:Int):=by omega
 have c2:(i:Int)≤(R.size:Int):=by omega
 have c3:(0:Int)≤(i:Int)+1:=by omega
 have c4:(i:Int)+1≤(R.size:Int):=by omega
 go_enter Tryz.func137,Tryz.ntmps137;go_wp2_with fail;refine(IX.out _).mono ?_;rintro e w' ⟨rfl,rfl⟩;go_wp2_with fail;refine(S1.out _).mono ?_;rintro e w' ⟨rfl,rfl⟩;go_wp2_with fail;refine(S2.out _).mono ?_;rintro e w' ⟨rfl,rfl⟩;go_wp2_with fail;refine(GC.out _).mono ?_;rintro e w1 ⟨rfl,hg⟩;have G1:=zHd hg;clear hg;go_wp2;exact bodyPost_ret (v := .tuple #[.bool _,.string _,.string _,.bool _]) (by simp[results,Tryz.results137,go_sem]) rfl ⟨rfl,G1.out⟩
theorem zpe (a R n d G:ByteArray)(i:Nat)(w:World)(h0:(0:Int)<(a.size:Int))(hp:0<a.size)(h1:(((a[0]'hp).toNat:Int) == 45)=true)(hle:(1:Int)≤(a.size:Int))(eR:a.extract 1 a.size=R)
  (hi:i<R.size) (hR:R.size≤9223372036854775807) (IX:Hid (zbZ R i)) (eN:R.extract 0 i=n) (eD:R.extract (i+1) R.size=d) (S1:Hid (ShOk n true)) (S2:Hid (ShOk d true)) (z2:(d.toList == [48])=false) (z1:(n.toList == [48])=false) (o2:(d.toList == [49])=false) (o3:(d.toList != [49])=true) (GC:Hid (GcOk n d G)) (q1:(G.toList == [49])=true) (q2:(G.toList != [49])=false) :
  Calls Tryz.prog 137 #[.string a] w (zab (.tuple #[.bool true,.string n,.string d,.bool true]) w):=by
 have c1:(0:Int)≤(i:Int):=by omega
 have c2:(i:Int)≤(R.size:Int):=by omega
 have c3:(0:Int)≤(i:Int)+1:=by omega
 have c4:(i:Int)+1≤(R.size:Int):=by omega
 go_enter Tryz.func137,Tryz.ntmps137;go_wp2_with fail;refine(IX.out _).mono ?_;rintro e w' ⟨rfl,rfl⟩;go_wp2_with fail;refine(S1.out _).mono ?_;rintro e w' ⟨rfl,rfl⟩;go_wp2_with fail;refine(S2.out _).mono ?_;rintro e w' ⟨rfl,rfl⟩;go_wp2_with fail;refine(GC.out _).mono ?_;rintro e w1 ⟨rfl,hg⟩;have G1:=zHd hg;clear hg;go_wp2;exact bodyPost_ret (v := .tuple #[.bool _,.string _,.string _,.bool _]) (by simp[results,Tryz.results137,go_sem]) rfl ⟨rfl,G1.out⟩
open Go.RowKit
open Go.Lib (nDigits decDigits)
theorem zAb (b:ByteArray)(h:numB b=true):(b.toList == [49])=decide (nv b=1)∧(b.toList != [49]) = !decide (nv b=1):=by
 have e:=(zbG b h).1;have:=zfB (nv b);rw[← e] at this;exact this
theorem zAc (a:ByteArray):(a.extract 1 a.size).data.toList=a.data.toList.drop 1:=by
 rw[ByteArray.data_extract,Array.toList_extract,List.extract_eq_take_drop,List.take_of_length_le];rw[List.length_drop,Lib.size_eq];exact Nat.le_refl _
theorem znG (a:ByteArray)(h:∀ (hp:0<a.size),a[0]≠45):negA a=false∧zbY a=a.data.toList:=by
 have e:negA a=false:=by
  unfold negA Lib.hasPrefix;cases hd:a.data.toList with
  | nil=>rfl
  | cons c r =>
   have hp:0<a.size:=by rw[Lib.size_eq,hd];simp
   have h0:=zoM a 0 hp;rw[hd] at h0;have:c=a[0]:=by simpa using h0
   simp only[List.isPrefixOf_cons_cons,Bool.and_eq_false_iff]
   left
   rw[beq_eq_false_iff_ne];intro k;exact h hp (by rw[← this,← k])
 refine⟨e,?_⟩;unfold zbY Lib.trimPrefix;unfold negA at e;rw[e];simp
theorem zuv (a:ByteArray)(hp:0<a.size)(h:a[0]=45):negA a=true∧zbY a=(a.extract 1 a.size).data.toList:=by
 have e:negA a=true:=by
  unfold negA Lib.hasPrefix;have h0:=zoM a 0 hp;cases hd:a.data.toList with
  | nil=>rw[hd] at h0;simp at h0
  | cons c r =>
   rw[hd] at h0;have:c=a[0]:=by simpa using h0
   rw[this,h]
   rfl
 refine⟨e,?_⟩;rw[zAc];unfold zbY Lib.trimPrefix;unfold negA at e;rw[e];simp
theorem zAd (s:ByteArray):(⟨s.data.toList.toArray⟩:ByteArray)=s:=by
 apply ByteArray.ext
 apply Array.ext'
 simp
theorem zuw (a R:ByteArray)(hr:zbY a=R.data.toList)(h:Lib.indexByte R.data.toList 47 = -1):zcd a=false∧numA a=R∧denA a=⟨#[49]⟩:=by
 have hc:Lib.cut (zbY a) [47]=(R.data.toList,[],false):=by
  rw[hr];unfold Lib.cut;rw[Lib.index_one,h];rfl
 refine⟨by unfold zcd;rw[hc],?_,by unfold denA zcd;rw[hc];rfl⟩;unfold numA;rw[hc]
theorem zux (a R:ByteArray)(i:Nat)(hr:zbY a=R.data.toList)(h:Lib.indexByte R.data.toList 47=i):zcd a=true∧numA a=R.extract 0 i∧denA a=R.extract (i+1) R.size:=by
 have hc:Lib.cut (zbY a) [47]=(R.data.toList.take i,R.data.toList.drop (i+1),true):=by
  rw[hr];unfold Lib.cut;rw[Lib.index_one,h,if_pos (by omega)];simp
 have e1:=zrV R.data.toList i;have e2:=extract_drop R.data.toList (i+1);rw[zAd] at e1 e2;refine⟨by unfold zcd;rw[hc],?_,?_⟩
 ·unfold numA;rw[hc];exact e1.symm
 ·unfold denA zcd tailA;rw[hc];exact e2.symm
theorem index_room (s:List UInt8):Lib.indexByte s 47 = -1∨∃ i:Nat,Lib.indexByte s 47=i∧i<s.length:=by
 rw[← Lib.indexAny_one];rcases zuj s [47] with⟨h,_⟩|⟨i,c,h1,h2,_⟩
 ·exact .inl h
 ·exact .inr ⟨i,h1,(List.getElem?_eq_some_iff.1 h2).1⟩
def znH (a:ByteArray)(w:World)(e:Ending)(w':World):Prop :=
 ((zdc a∧e = .returned (.tuple #[.bool (negA a),.string (numA a),.string (denA a),.bool true]))∨(¬ zdc a∧e = .returned zcM))∧w.grownBy w' none
theorem zgi {a:ByteArray}{w:World}(h:¬ zdc a){e:Ending}{w':World}(k:zab zcM w e w'):znH a w e w':=⟨.inr ⟨h,k.1⟩,k.2⟩
theorem zEs {a:ByteArray}{w:World}(h:zdc a){e:Ending}{w':World}(k:zab (.tuple #[.bool (negA a),.string (numA a),.string (denA a),.bool true]) w e w'):znH a w e w':=⟨.inl ⟨h,k.1⟩,k.2⟩
theorem zmm {a:ByteArray}(h:zdc a):zcH (numA a)=true∧zcH (denA a)=true:=by
 unfold zcH;rw[h.n,h.d];have:=h.sn;have:=h.sd;simp[*]
theorem zmn {s:ByteArray}(h:zcH s=true):s.size≤400∧numB s=true:=by
 unfold zcH at h
 simpa using h
theorem gcOk (n d:ByteArray)(hn:numB n=true)(hd:numB d=true):GcOk n d (decS (Nat.gcd (nv n) (nv d))):=fun w=>by
 have:=zCX n d w (zaS hn) (zaS hd);unfold gcdV at this;rw[hn,hd] at this;exact this
theorem zsG (k:Nat):((decS k).toList == [49])=decide (k=1)∧((decS k).toList != [49]) = !decide (k=1):=zfB k
theorem ziZ (a R:ByteArray)(N:Bool)(w:World)(hN:negA a=N)(hr:zbY a=R.data.toList)(hR:R.size≤maxLen)(hz:Lib.indexByte R.data.toList 47 = -1)
  (B:ShOk R false→∀ w,Calls Tryz.prog 137 #[.string a] w (zab zcM w))
  (Z:N=true→ShOk R true→(R.toList == [48])=true→∀ w,Calls Tryz.prog 137 #[.string a] w (zab zcM w))
  (K:∀ z G,zcH R=true→ShOk R true→(R.toList == [48])=z→(N=true→z=false)→GcOk R ⟨#[49]⟩ G→(G.toList == [49])=true→(G.toList != [49])=false→∀ w,Calls Tryz.prog 137 #[.string a] w (zab (.tuple #[.bool N,.string R,.string ⟨#[49]⟩,.bool true]) w)) :
  Calls Tryz.prog 137 #[.string a] w (znH a w):=by
 obtain⟨e1,e2,e3⟩:=zuw a R hr hz;have S:=fun w=>zhJ R w hR;cases hs:zcH R
 ·rw[hs] at S
  refine(B S w).mono fun e w' k=>zgi (fun h => ?_) k;have:=(zmm h).1;rw[e2,hs] at this;cases this
 rw[hs] at S;obtain⟨h4,hn⟩:=zmn hs;have hzf:=(zdp R hn).1
 by_cases hb:N=true∧nv R=0
 ·refine(Z hb.1 S (by rw[hzf];simpa using hb.2) w).mono fun e w' k=>zgi (fun h => ?_) k
  have:=(h.z (by rw[e2];exact hb.2)).1;rw[hN,hb.1] at this;cases this
 ·have G:=gcOk R ⟨#[49]⟩ hn (by decide +kernel)
  have hg:Nat.gcd (nv R) (nv ⟨#[49]⟩)=1:=by rw[show nv ⟨#[49]⟩=1 by decide +kernel,Nat.gcd_one_right]
  rw[hg] at G;have f:=zsG 1;refine(K _ _ hs S rfl (fun hN1=>by rw[hzf];simpa using fun h0=>hb ⟨hN1,h0⟩) G (by simpa using f.1) (by simpa using f.2) w).mono fun e w' k => ?_
  have P:zdc a:=by
   refine⟨by rw[e2];exact hn,by rw[e3];decide +kernel,by rw[e2];exact h4,by rw[e3];decide,by rw[e3];decide +kernel,?_,?_,?_⟩
   ·rw[e2,hN,e1]
    intro h0;refine⟨?_,rfl⟩;cases N
    ·rfl
    ·exact absurd ⟨rfl,h0⟩ hb
   ·intro _;exact e1
   ·rw[e3];exact .inr (by decide +kernel)
  exact zEs P (by rw[hN,e2,e3];exact k)
theorem zlN (a R:ByteArray)(N:Bool)(i:Nat)(w:World)(hN:negA a=N)(hr:zbY a=R.data.toList)(hR:R.size≤maxLen)(hz:Lib.indexByte R.data.toList 47=i)(hi:i<R.size)
  (B0:∀ n d,R.extract 0 i=n→R.extract (i+1) R.size=d→ShOk n false→∀ w,Calls Tryz.prog 137 #[.string a] w (zab zcM w))
  (B1:∀ n d,R.extract 0 i=n→R.extract (i+1) R.size=d→ShOk n true→ShOk d false→∀ w,Calls Tryz.prog 137 #[.string a] w (zab zcM w))
  (B2:∀ n d,R.extract 0 i=n→R.extract (i+1) R.size=d→ShOk n true→ShOk d true→(d.toList == [48])=true→∀ w,Calls Tryz.prog 137 #[.string a] w (zab zcM w))
  (B3:∀ n d,R.extract 0 i=n→R.extract (i+1) R.size=d→ShOk n true→ShOk d true→(d.toList == [48])=false→(n.toList == [48])=true→∀ w,Calls Tryz.prog 137 #[.string a] w (zab zcM w))
  (B4:∀ n d,R.extract 0 i=n→R.extract (i+1) R.size=d→ShOk n true→ShOk d true→(d.toList == [48])=false→(n.toList == [48])=false→(d.toList == [49])=true→∀ w,Calls Tryz.prog 137 #[.string a] w (zab zcM w))
  (B5:∀ n d G,R.extract 0 i=n→R.extract (i+1) R.size=d→ShOk n true→ShOk d true→(d.toList == [48])=false→(n.toList == [48])=false→(d.toList == [49])=false→(d.toList != [49])=true→GcOk n d G→(G.toList == [49])=false→(G.toList != [49])=true→∀ w,Calls Tryz.prog 137 #[.string a] w (zab zcM w))
  (K:∀ n d G,R.extract 0 i=n→R.extract (i+1) R.size=d→ShOk n true→ShOk d true→(d.toList == [48])=false→(n.toList == [48])=false→(d.toList == [49])=false→(d.toList != [49])=true→GcOk n d G→(G.toList == [49])=true→(G.toList != [49])=false→∀ w,Calls Tryz.prog 137 #[.string a] w (zab (.tuple #[.bool N,.string n,.string d,.bool true]) w)) :
  Calls Tryz.prog 137 #[.string a] w (znH a w):=by
 obtain⟨e1,e2,e3⟩:=zux a R i hr hz;have l1:(R.extract 0 i).size≤maxLen:=by rw[ByteArray.size_extract];omega
 have l2:(R.extract (i+1) R.size).size≤maxLen:=by rw[ByteArray.size_extract];omega
 have S1:=fun w=>zhJ _ w l1;have S2:=fun w=>zhJ _ w l2;obtain⟨n,en⟩:∃ n,R.extract 0 i=n:=⟨_,rfl⟩;obtain⟨d,ed⟩:∃ d,R.extract (i+1) R.size=d:=⟨_,rfl⟩;rw[en] at S1 e2;rw[ed] at S2 e3;cases hs1:zcH n
 ·rw[hs1] at S1
  refine(B0 n d en ed S1 w).mono fun e w' k=>zgi (fun h => ?_) k;have:=(zmm h).1;rw[e2,hs1] at this;cases this
 rw[hs1] at S1;cases hs2:zcH d
 ·rw[hs2] at S2
  refine(B1 n d en ed S1 S2 w).mono fun e w' k=>zgi (fun h => ?_) k;have:=(zmm h).2;rw[e3,hs2] at this;cases this
 rw[hs2] at S2;obtain⟨n4,nn⟩:=zmn hs1;obtain⟨d4,nd⟩:=zmn hs2;have zn:=(zdp n nn).1;have zd:=(zdp d nd).1;obtain⟨od,od'⟩:=zAb d nd
 by_cases h0:nv d=0
 ·refine(B2 n d en ed S1 S2 (by rw[zd];simpa using h0) w).mono fun e w' k=>zgi (fun h => ?_) k
  exact h.d0 (by rw[e3];exact h0)
 by_cases h1:nv n=0
 ·refine(B3 n d en ed S1 S2 (by rw[zd];simpa using h0) (by rw[zn];simpa using h1) w).mono fun e w' k=>zgi (fun h => ?_) k
  have:=(h.z (by rw[e2];exact h1)).2;rw[e1] at this;cases this
 by_cases h2:nv d=1
 ·refine(B4 n d en ed S1 S2 (by rw[zd];simpa using h0) (by rw[zn];simpa using h1) (by rw[od];simpa using h2) w).mono fun e w' k=>zgi (fun h => ?_) k
  have:=h.one (by rw[e3];exact h2);rw[e1] at this;cases this
 have G:=gcOk n d nn nd;have f:=zsG (Nat.gcd (nv n) (nv d))
 by_cases h3:Nat.gcd (nv n) (nv d)=1
 ·refine(K n d _ en ed S1 S2 (by rw[zd];simpa using h0) (by rw[zn];simpa using h1) (by rw[od];simpa using h2) (by rw[od'];simpa using h2) G (by rw[f.1];simpa using h3) (by rw[f.2];simpa using h3) w).mono fun e w' k => ?_
  have P:zdc a:=by
   refine⟨by rw[e2];exact nn,by rw[e3];exact nd,by rw[e2];exact n4,by rw[e3];exact d4,by rw[e3];exact h0,?_,?_,?_⟩
   ·rw[e2];intro h;exact absurd h h1
   ·rw[e3];intro h;exact absurd h h2
   ·rw[e2,e3];exact .inl h3
  exact zEs P (by rw[hN,e2,e3];exact k)
 ·refine(B5 n d _ en ed S1 S2 (by rw[zd];simpa using h0) (by rw[zn];simpa using h1) (by rw[od];simpa using h2) (by rw[od'];simpa using h2) G (by rw[f.1];simpa using h3) (by rw[f.2];simpa using h3) w).mono fun e w' k=>zgi (fun h => ?_) k
  have:=h.gcd;rw[e2,e3] at this;exact h3 this
theorem znI (a:ByteArray)(w:World)(ha:a.size≤maxLen):Calls Tryz.prog 137 #[.string a] w (znH a w):=by
 have hm:=ha;unfold maxLen at hm;have one:ShOk ⟨#[49]⟩ true:=fun w=>by have:=zhJ ⟨#[49]⟩ w (by decide);rw[show zcH ⟨#[49]⟩=true by decide +kernel] at this;exact this
 have ix:∀ (R:ByteArray) (z:Int),R.size≤maxLen→Lib.indexByte R.data.toList 47=z→zbZ R z:=fun R z h e w=>by rw[← e];exact zxj R w h
 by_cases hp:0<a.size
 ·cases h45:(((a[0]'hp).toNat:Int) == 45)
  ·have hne:a[0]≠45:=by intro e;rw[e] at h45;exact absurd h45 (by decide)
   obtain⟨hN,hr⟩:=znG a (fun _=>hne);rcases index_room a.data.toList with hz|⟨i,hz,hi⟩
   ·have I:=zHd (ix a _ ha hz)
    refine ziZ a a false w hN hr ha hz ?_ ?_ ?_
    ·exact fun S w=>zoO a a ⟨#[]⟩ w (by omega) hp h45 rfl I (zHd S)
    ·intro h;cases h
    ·intro z G _ S hzz _ GC q1 q2 w
     cases z
     ·exact znE a a G w (by omega) hp h45 rfl I (zHd S) (zHd one) hzz (zHd GC) q1 q2
     ·exact znD a a G w (by omega) hp h45 rfl I (zHd S) (zHd one) hzz (zHd GC) q1 q2
   ·have I:=zHd (ix a _ ha hz)
    have hi':i<a.size:=by rw[Lib.size_eq];exact hi
    refine zlN a a false i w hN hr ha hz hi' ?_ ?_ ?_ ?_ ?_ ?_ ?_
    ·exact fun n d en ed S1 w=>zoR a a n d ⟨#[]⟩ i w (by omega) hp h45 rfl hi' hm I en ed (zHd S1)
    ·exact fun n d en ed S1 S2 w=>zoS a a n d ⟨#[]⟩ i w (by omega) hp h45 rfl hi' hm I en ed (zHd S1) (zHd S2)
    ·exact fun n d en ed S1 S2 f w=>zoT a a n d ⟨#[]⟩ i w (by omega) hp h45 rfl hi' hm I en ed (zHd S1) (zHd S2) f
    ·exact fun n d en ed S1 S2 f g w=>zoU a a n d ⟨#[]⟩ i w (by omega) hp h45 rfl hi' hm I en ed (zHd S1) (zHd S2) f g
    ·exact fun n d en ed S1 S2 f g h w=>zoV a a n d ⟨#[]⟩ i w (by omega) hp h45 rfl hi' hm I en ed (zHd S1) (zHd S2) f g h
    ·exact fun n d G en ed S1 S2 f g h h' GC q1 q2 w=>zoW a a n d G i w (by omega) hp h45 rfl hi' hm I en ed (zHd S1) (zHd S2) f g h h' (zHd GC) q1 q2
    ·exact fun n d G en ed S1 S2 f g h h' GC q1 q2 w=>zoX a a n d G i w (by omega) hp h45 rfl hi' hm I en ed (zHd S1) (zHd S2) f g h h' (zHd GC) q1 q2
  ·have he:a[0]=45:=UInt8.toNat_inj.1 (by
    have h2:((a[0]'hp).toNat:Int)=45:=by simpa using h45
    have:(45:UInt8).toNat=45:=rfl
    omega)
   obtain⟨hN,hr⟩:=zuv a hp he;obtain⟨R,eR⟩:∃ R,a.extract 1 a.size=R:=⟨_,rfl⟩;have hR:R.size≤maxLen:=by rw[← eR,ByteArray.size_extract];omega
   have hmR:=hR;unfold maxLen at hmR;rw[eR] at hr;rcases index_room R.data.toList with hz|⟨i,hz,hi⟩
   ·have I:=zHd (ix R _ hR hz)
    refine ziZ a R true w hN hr hR hz ?_ ?_ ?_
    ·exact fun S w=>zoP a R ⟨#[]⟩ w (by omega) hp h45 (by omega) eR I (zHd S)
    ·exact fun _ S z w=>zoQ a R ⟨#[]⟩ w (by omega) hp h45 (by omega) eR I (zHd S) (zHd one) z
    ·intro z G _ S hzz hzn GC q1 q2 w
     have:=hzn rfl;subst this;exact znF a R G w (by omega) hp h45 (by omega) eR I (zHd S) (zHd one) hzz (zHd GC) q1 q2
   ·have I:=zHd (ix R _ hR hz)
    have hi':i<R.size:=by rw[Lib.size_eq];exact hi
    refine zlN a R true i w hN hr hR hz hi' ?_ ?_ ?_ ?_ ?_ ?_ ?_
    ·exact fun n d en ed S1 w=>zoY a R n d ⟨#[]⟩ i w (by omega) hp h45 (by omega) eR hi' hmR I en ed (zHd S1)
    ·exact fun n d en ed S1 S2 w=>zoZ a R n d ⟨#[]⟩ i w (by omega) hp h45 (by omega) eR hi' hmR I en ed (zHd S1) (zHd S2)
    ·exact fun n d en ed S1 S2 f w=>zpa a R n d ⟨#[]⟩ i w (by omega) hp h45 (by omega) eR hi' hmR I en ed (zHd S1) (zHd S2) f
    ·exact fun n d en ed S1 S2 f g w=>zpb a R n d ⟨#[]⟩ i w (by omega) hp h45 (by omega) eR hi' hmR I en ed (zHd S1) (zHd S2) f g
    ·exact fun n d en ed S1 S2 f g h w=>zpc a R n d ⟨#[]⟩ i w (by omega) hp h45 (by omega) eR hi' hmR I en ed (zHd S1) (zHd S2) f g h
    ·exact fun n d G en ed S1 S2 f g h h' GC q1 q2 w=>zpd a R n d G i w (by omega) hp h45 (by omega) eR hi' hmR I en ed (zHd S1) (zHd S2) f g h h' (zHd GC) q1 q2
    ·exact fun n d G en ed S1 S2 f g h h' GC q1 q2 w=>zpe a R n d G i w (by omega) hp h45 (by omega) eR hi' hmR I en ed (zHd S1) (zHd S2) f g h h' (zHd GC) q1 q2
 ·have h0:a.size=0:=by omega
  obtain⟨hN,hr⟩:=znG a (fun h=>absurd h hp)
  have e0:a=⟨#[]⟩:=by
   cases a with
   | mk d=>congr 1;exact Array.eq_empty_of_size_eq_zero h0
  have hz:Lib.indexByte a.data.toList 47 = -1:=by rw[e0];rfl
  have I:=zHd (ix a _ ha hz);refine ziZ a a false w hN hr ha hz ?_ ?_ ?_
  ·exact fun S w=>zoN a a ⟨#[]⟩ w (by omega) rfl I (zHd S)
  ·intro h;cases h
  ·intro z G hs _ _ _ _ _ _ w
   rw[e0] at hs;exact absurd hs (by decide +kernel)
theorem zxk {a:ByteArray}{x:Rat}(h:zax a x)(w:World):Calls Tryz.prog 137 #[.string a] w (zab (zzk x) w):=by
 refine(znI a w (zgI h)).mono ?_;rintro e w' ⟨⟨_,k⟩|⟨k,_⟩,hg⟩
 ·obtain⟨p1,p2,p3,_⟩:=apart a x h.eq
  rw[p1,p2,p3] at k;exact⟨k,hg⟩
 ·exact absurd (zhs h) k
theorem zAe {a:ByteArray}(h:zcP a)(ha:a.size≤maxLen)(w:World):Calls Tryz.prog 137 #[.string a] w (zab zcM w):=by
 refine(znI a w ha).mono ?_;rintro e w' ⟨⟨k,_⟩|⟨_,k⟩,hg⟩
 ·exact absurd (zyu k) (h _)
 ·exact⟨k,hg⟩
open Go.RowKit
section
variable {k:Int}
theorem zAf (k:Int)(w:World):Calls Tryz.prog 73 #[.int .i64 k] w (zab (calV k) w):=by
 have hz:=fun w'=>zhC k w';have ho:=fun w'=>ziR k w';have hs0:∀ w1:World,(w.alloc (.cells #[.int .i64 0,.string ⟨#[]⟩,.string ⟨#[]⟩] 62)).grownBy w1 none→w1.heap[w.heap.size]? = some (.cells #[.int .i64 0,.string ⟨#[]⟩,.string ⟨#[]⟩] 62 (0,0)):=fun w1 h=>(h.block w.heap.size (by simp) (by simp)).trans (zau w _);have HZ:=zHd hz;have HO:=zHd ho;have HS:=zHd hs0;clear hz ho hs0;unfold calV;go_enter Tryz.func73,Tryz.ntmps73;go_wp2_with fail;refine(HZ.out _).mono ?_;rintro e w1 ⟨rfl,hg1⟩;go_wp2_with fail;refine(HO.out _).mono ?_;rintro e w2 ⟨rfl,hg2⟩;have hgA:=zaa hg1 hg2;have hb:=HS.out w2 hgA;have q0:=cell_of_row w2 _ 0 _ _ (0,0) hb;have q1:=cell_of_row w2 _ 1 _ _ (0,0) hb;have q2:=cell_of_row w2 _ 2 _ _ (0,0) hb;have z0:=frozen_of_row w2 w.heap.size 0 _ _ hb;have z1:=frozen_of_row w2 w.heap.size 1 _ _ hb;have z2:=frozen_of_row w2 w.heap.size 2 _ _ hb;have HG:=zHd (zaa (zGA w _ none) hgA);clear hg1 hg2 hgA hb;go_wp2;refine bodyPost_ret (v := .agg #[.int .i64 k,.string (zaf k),.string (oneT k)]) ?_ rfl ⟨rfl,?_⟩
 ·simp[results,Tryz.results73,go_sem,q0,q1,q2]
 ·exact zai (zai (zai HG.out (zac _ _ _) (Nat.le_refl _)) (zac _ _ _) (Nat.le_refl _)) (zac _ _ _) (Nat.le_refl _)
theorem zln (k:Int)(w:World):Calls Tryz.prog 42 #[.int .i64 k] w (zab (calV k) w):=by
 have hz:=fun w'=>zAf k w';have hs0:∀ w1:World,(w.alloc (.cells #[.int .i64 0,.string ⟨#[]⟩,.string ⟨#[]⟩] 64)).grownBy w1 none→w1.heap[w.heap.size]? = some (.cells #[.int .i64 0,.string ⟨#[]⟩,.string ⟨#[]⟩] 64 (0,0)):=fun w1 h=>(h.block w.heap.size (by simp) (by simp)).trans (zau w _);have HZ:=zHd hz;have HS:=zHd hs0;clear hz hs0;unfold calV at *;go_enter Tryz.func42,Tryz.ntmps42;go_wp2_with fail;refine(HZ.out _).mono ?_;rintro e w2 ⟨rfl,hgA⟩;have hb:=HS.out w2 hgA;have q0:=cell_of_row w2 _ 0 _ _ (0,0) hb;have q1:=cell_of_row w2 _ 1 _ _ (0,0) hb;have q2:=cell_of_row w2 _ 2 _ _ (0,0) hb;have z0:=frozen_of_row w2 w.heap.size 0 _ _ hb;have z1:=frozen_of_row w2 w.heap.size 1 _ _ hb;have z2:=frozen_of_row w2 w.heap.size 2 _ _ hb;have HG:=zHd (zaa (zGA w _ none) hgA);clear hgA hb;go_wp2;refine bodyPost_ret (v := .agg #[.int .i64 k,.string (zaf k),.string (oneT k)]) ?_ rfl ⟨rfl,?_⟩
 ·simp[results,Tryz.results42,go_sem,q0,q1,q2]
 ·exact zai (zai (zai HG.out (zac _ _ _) (Nat.le_refl _)) (zac _ _ _) (Nat.le_refl _)) (zac _ _ _) (Nat.le_refl _)
def zca (w:World)(g:Nat)(k:Int):Prop:=w.cell? ⟨g,0,none⟩=some (.int .i64 k)∧w.cell? ⟨g,1,none⟩=some (.string (zaf k))∧w.cell? ⟨g,2,none⟩=some (.string (oneT k))
theorem zca.grown {w w':World}{g:Nat}(h:zca w g k)(hg:w.grownBy w' none):zca w' g k:=⟨hg.cell h.1 (by simp),hg.cell h.2.1 (by simp),hg.cell h.2.2 (by simp)⟩
theorem zxl (hk:zad k)(f:Nat→El k)(κ:Nat→Nat)(n K g1 g2 g3:Nat)(Ac Ar:Option Addr)(cc cr:Nat)(fv:Value)(w:World)(hn:n≤10000)(hK:K≤10000)(hκ:∀ j,j<n→κ j<K)(hf:RowR w fv n (fun j=>Value.string (tx (f j))))(hff:∀ j,j<n→FitE (f j))
  (hcal:zca w g1 k) (hcv:w.cell? ⟨g2,0,none⟩=some (.slice Ac n cc)) (hrv:w.cell? ⟨g3,0,none⟩=some (.slice Ar K cr)) (hc:RowR w (.slice Ac n cc) n (fun j => .int .i64 ((κ j:Nat):Int))) :
  Calls Tryz.prog 79 #[fv,.pointer (some ⟨g1,0,none⟩),.pointer (some ⟨g2,0,none⟩),.pointer (some ⟨g3,0,none⟩)] w (zbn (∀ s,s<n→FitE (mrgP hk f κ (s+1) (κ s))) (fun v w'=>∃ g,v = .slice (some ⟨g,0,none⟩) K K∧w.heap.size≤g∧zam w' g 0 K (fun d => .string (tx (mrgP hk f κ n d)))) w):=by
 have h:=zxi hk f κ n K fv (.slice Ac n cc) w hn hK hκ hf hff hc;obtain⟨c0,c1,c2⟩:=hcal;obtain⟨Af,cf,rfl,-⟩:=hf;have H:=zHd h;clear h hc hκ hff;unfold calV at H;go_enter Tryz.func79,Tryz.ntmps79;go_wp2_with fail;refine H.out.mono ?_;rintro e w1 (⟨hp,v,rfl,⟨g,rfl,hg,hr⟩,hg1⟩|⟨hn,rfl,hg1⟩)
 ·have HP:=zHd (zAI hp (zAI hg (zAI hr hg1)))
  clear hp hg hr hg1 H;go_wp2;go_ret;obtain⟨hp,hg,hr,hg1⟩:=HP.out;exact .inl ⟨hp,_,rfl,⟨g,rfl,hg,hr⟩,hg1⟩
 ·exact⟨rfl,.inr ⟨hn,rfl,hg1⟩⟩
theorem zsH:Enters 87:=enters_of Tryz.func87 (by kernel_rfl) rfl
theorem RowR.at_drew {w:World}{v:Value}{n:Nat}{L:Nat→Value}(h:RowR w v n L):RowR w.drew v n L:=h.grown (zae w none)
theorem zxm (hk:zad k)(b:Nat→El k)(Y:Nat→El k)(K m d g1 g2:Nat)(Ay:Option Addr)(cy:Nat)(ys:Nat→Value)(bv:Value)(w:World)(hm:m≤10000)(hd:d<K)(hb:RowR w bv m (txs b))(hbf:∀ j,j<m→FitE (b j))
  (hcal:zca w g1 k) (hyv:w.cell? ⟨g2,0,none⟩=some (.slice Ay K cy)) (hy:RowR w (.slice Ay K cy) K ys) (hyd:RowR w (ys d) m (txs Y)) (hyf:∀ j,j<m→FitE (Y j)) :
  Calls Tryz.prog 85 #[bv,.int .i64 (d:Int),.pointer (some ⟨g2,0,none⟩),.pointer (some ⟨g1,0,none⟩)] w (ziU (∀ j,j<m→FitE ((srE k hk).add (b j) (Y j))) m (fun j=>tx ((srE k hk).add (b j) (Y j))) w):=by
 have hmf:∀ (fn:Fn) (first cap:Array Value) (w:World),(Instr.makeFunc fn first cap).run Tryz.prog w = .ok (.func fn first cap) w:=fun _ _ _ _=>rfl
 have hcall:=zjB 87 zsH #[calV k] #[] m m (txs b) (txs Y) (fun j=>FitE ((srE k hk).add (b j) (Y j))) (fun j=>tx ((srE k hk).add (b j) (Y j))) bv (ys d) w.drew hm hb.at_drew hyd.at_drew (Nat.le_refl m)
  (fun i hi w' _=>zhI hk (hbf i hi) (hyf i hi) w')
 obtain⟨Ay',cy',e,hy1,hy2,hy3⟩:=hy;obtain⟨rfl,rfl⟩:Ay'=Ay∧cy'=cy:=by simp at e;exact⟨e.1.symm,e.2.symm⟩
 obtain⟨ad,rfl,hbl,hcl⟩:=hy3 d hd;obtain⟨c0,c1,c2⟩:=hcal;have d0:w.drew.cell? ⟨g1,0,none⟩=some (.int .i64 k):=c0;have d1:w.drew.cell? ⟨g1,1,none⟩=some (.string (zaf k)):=c1;have d2:w.drew.cell? ⟨g1,2,none⟩=some (.string (oneT k)):=c2;have d3:w.drew.cell? ⟨g2,0,none⟩=some (.slice (some ad) K cy'):=hyv;have d4:w.drew.cell? (ad.add d)=some (ys d):=hcl;have i1:(d:Int)<(K:Int):=by omega
 have i2:(0:Int)≤(d:Int):=by omega
 have HC:=zHd hcall;clear hcall hb hyd hbf hyf hy1 hy2 hy3 hbl hcl c0 c1 c2 e hyv;unfold calV at HC;go_enter Tryz.func85,Tryz.ntmps85;go_upto_region 1 with(fail)
 go_region_held2 (fun W'=>W'.cell? ⟨g1,0,none⟩=some (.int .i64 k)∧W'.cell? ⟨g1,1,none⟩=some (.string (zaf k))∧W'.cell? ⟨g1,2,none⟩=some (.string (oneT k))∧W'.cell? ⟨g2,0,none⟩=some (.slice (some ad) K cy')∧W'.cell? (ad.add d)=some (ys d)) (go_keep)
  (first
  | (go_at_call 86;refine HC.out.mono ?_;rintro e w6 (⟨hp,v,rfl,⟨rfl,hr6⟩,hg6⟩|⟨hn,rfl,hg6⟩);rotate_left 1;(exact⟨rfl,.inr ⟨hn,rfl,zaa (zae w none) hg6⟩⟩);have s0:=hg6.cell d0 (by simp);have s1:=hg6.cell d1 (by simp);have s2:=hg6.cell d2 (by simp);have s3:=hg6.cell d3 (by simp);have s4:=hg6.cell d4 (by simp);have H6:=zHd (zAI hp (zAI hr6 hg6));clear hp hr6 hg6))
 all_goals
  go_wp2;go_ret;obtain⟨hp,hr6,hg6⟩:=H6.out;exact .inl ⟨hp,_,rfl,⟨rfl,hr6⟩,zaa (zae w none) hg6⟩
theorem zqc (ad:Addr):ad.add 0=ad:=by unfold Addr.add;rcases ad with⟨b,o,s⟩;cases s <;> simp
theorem zxn (hk:zad k)(f:Nat→El k)(b:Nat→Nat→El k)(n m g1 g2:Nat)(Ab:Option Addr)(cb:Nat)(bs:Nat→Value)(fv:Value)(w:World)(hn0:1≤n)(hn:n≤10000)(hm:m≤10000)(hf:RowR w fv n (txs f))(hff:∀ j,j<n→FitE (f j))
  (hcal:zca w g1 k) (hbv:w.cell? ⟨g2,0,none⟩=some (.slice Ab n cb)) (hb:RowR w (.slice Ab n cb) n bs) (hbs:∀ i,i<n→RowR w (bs i) m (txs (b i))) (hbf:∀ i,i<n→∀ j,j<m→FitE (b i j)) :
  Calls Tryz.prog 81 #[fv,.pointer (some ⟨g1,0,none⟩),.pointer (some ⟨g2,0,none⟩)] w (zbn (zcL (srE k hk) FitE n m (fun _=>(srE k hk).zero) f b) (fun v w'=>∃ g o c,v = .slice (some ⟨g,o,none⟩) m c∧m≤c∧c≤maxLen∧w.heap.size≤g∧zam w' g o m (txs (zaN (srE k hk) (fun _=>(srE k hk).zero) f b n))) w):=by
 have hz:=fun w'=>zeX k m w' hm
 have hsum:=fun(w5:World) (h5:w.grownBy w5 none) (g:Nat) (hr:zam w5 g 0 m (fun _ => .string (zaf k)))=>zmk hk n m g 0 m (fun _=>(srE k hk).zero) f b fv (.slice Ab n cb) bs w5 hm hn
  (by have e:txs (fun _=>(srE k hk).zero)=fun _=>Value.string (zaf k):=funext fun j=>by unfold txs;rw[zdj]
      rw[e];exact hr) (Nat.le_refl m) (by unfold maxLen;omega) (hf.grown h5) hff (fun j _=>zbR hk) (hb.grown h5) (fun i hi=>(hbs i hi).grown h5) hbf
 obtain⟨Ab',cb',e,hb1,hb2,hb3⟩:=hb;obtain⟨rfl,rfl⟩:Ab'=Ab∧cb'=cb:=by simp at e;exact⟨e.1.symm,e.2.symm⟩
 obtain⟨ad,rfl,hbl,hcl⟩:=hb3 0 (by omega);rw[zqc] at hcl;obtain⟨A0,c00,e0,-⟩:=hbs 0 (by omega);rw[e0] at hcl;obtain⟨c0,c1,c2⟩:=hcal;obtain⟨Af,cf,rfl,-⟩:=hf;have d0:w.drew.cell? ⟨g1,0,none⟩=some (.int .i64 k):=c0;have d1:w.drew.cell? ⟨g1,1,none⟩=some (.string (zaf k)):=c1;have d2:w.drew.cell? ⟨g1,2,none⟩=some (.string (oneT k)):=c2;have d3:w.drew.cell? ⟨g2,0,none⟩=some (.slice (some ad) n cb'):=hbv;have d4:w.drew.cell? ad=some (.slice A0 m c00):=hcl;have i1:(0:Int)<(n:Int):=by omega
 have i3:0<n:=by omega
 have i4:¬ n=0:=by omega
 have i5:(1:Int)≤(n:Int):=by omega
 have HZ:=zHd hz;have HS:=zHd hsum;clear hz hsum hbs hbf hff hb1 hb2 hb3 hbl hcl c0 c1 c2 e e0 hbv;unfold calV at HZ HS;go_enter Tryz.func81,Tryz.ntmps81;go_upto_region 1 with(fail)
 go_region_held2 (fun W'=>W'.cell? ⟨g1,0,none⟩=some (.int .i64 k)∧W'.cell? ⟨g1,1,none⟩=some (.string (zaf k))∧W'.cell? ⟨g1,2,none⟩=some (.string (oneT k))∧W'.cell? ⟨g2,0,none⟩=some (.slice (some ad) n cb')∧W'.cell? ad=some (.slice A0 m c00)) (go_keep)
  (first
  | (go_at_call 83;refine(HZ.out _).mono ?_;clear HZ;rintro e w5 ⟨g,rfl,hgW,hrow,hg5⟩;have s0:=hg5.cell d0 (by simp);have s1:=hg5.cell d1 (by simp);have s2:=hg5.cell d2 (by simp);have s3:=hg5.cell d3 (by simp);have s4:=hg5.cell d4 (by simp);have hg5':=zaa (zae w none) hg5;have H5:=zHd (zAI hgW (zAI hrow hg5'));clear hgW hrow hg5 hg5')
  | (go_at_call 82;refine(HS.out w5 H5.out.2.2 g (zis H5.out.2.1)).mono ?_;clear HS;rintro e w6 (⟨hp,v,rfl,⟨gg,o,c,rfl,hc3,hc4,hgg,hrw⟩,hg6⟩|⟨hn,rfl,hg6⟩);rotate_left 1;(exact⟨rfl,.inr ⟨hn,rfl,zaa H5.out.2.2 hg6⟩⟩);have p0:=hg6.cell s0 (by simp);have p1:=hg6.cell s1 (by simp);have p2:=hg6.cell s2 (by simp);have p3:=hg6.cell s3 (by simp);have p4:=hg6.cell s4 (by simp);have H6:=zHd (zAI hp (zAI hc3 (zAI hc4 (zAI hgg (zAI hrw hg6)))));clear hp hc3 hc4 hgg hrw hg6))
 all_goals
  go_wp2;go_ret;obtain⟨hp,hc3,hc4,hgg,hrw,hg6⟩:=H6.out;refine .inl ⟨hp,_,rfl,⟨gg,o,c,rfl,hc3,hc4,?_,hrw⟩,zaa H5.out.2.2 hg6⟩;have h1:w.heap.size≤g:=H5.out.1;have h2:=H5.out.2.2.size;rcases hgg with h|h <;> omega
end
open Go.RowKit
def zer (P:Prop)(Q:Value→World→Prop)(z:Value)(w:World)(e:Ending)(w':World):Prop :=
 (P∧∃ v,e = .returned (.tuple #[v,.int .i64 0])∧Q v w'∧w.grownBy w' none)∨(¬ P∧e = .returned (.tuple #[z,.int .i64 2])∧w.grownBy w' none)
section
variable {WB:Nat}
theorem zuy (p:Addr)(x E:Int)(older:List PanicEntry)(w:World)(hc:w.cell? p=some (.int .i64 x))(hz:w.frozen? p=false) :
  CallsD Tryz.prog 72 #[.pointer (some p)] (.panicking ({ v := .iface 24 (.int .i64 E),recovered:=false }::older)) w fun e u' w' =>
   e = .returned (.tuple #[])∧u' = .panicking ({ v := .iface 24 (.int .i64 E),recovered:=true }::older)∧w'=w.setCell p (.int .i64 E):=by
 refine callsD_of_wpS Tryz.func72 rfl fun c₀ cs hu => ?_
 apply wpS_seq
 apply wpS_region
 simp[wpOpsS,go_sem,recoverD,hu,Tryz.ntmps72,Exit.thenS];clear hu;obtain⟨fs,hfs⟩:∃ fs:List Frame,fs = { c₀ with mode := .panicking ({ v := .iface 24 (.int .i64 E),recovered:=true }::older) }::cs:=⟨_,rfl⟩;have HFS:=zHd hfs;rw[← hfs];clear hfs;have h1:∀ w:World,(binOp .neq 20 (.iface 24 (.int .i64 E)) .nilIface).run Tryz.prog w = .ok (.bool true) w:=fun w=>run_neq_held_nil _ _ _ _ (by kernel_rfl);have h2:∀ w:World,(Instr.typeAssert (.iface 24 (.int .i64 E)) 20 24 false).run Tryz.prog w = .ok (.int .i64 E) w:=fun w=>by kernel_rfl
 refine wpS_of_wp ?_;go_wp2_with fail;clear h1 h2 hc hz;rw[HFS.out];exact⟨rfl,_,rfl,.tuple #[],by simp[results,Tryz.results72],rfl,rfl,rfl⟩
theorem zAg (p:Addr)(w:World) :
  CallsD Tryz.prog 72 #[.pointer (some p)] .returning w fun e u' w'=>e = .returned (.tuple #[])∧u' = .returning∧w'=w:=by
 refine callsD_of_wpS Tryz.func72 rfl fun c₀ cs hu => ?_
 apply wpS_seq
 apply wpS_region
 simp[wpOpsS,go_sem,recoverD,hu,Tryz.ntmps72,Exit.thenS];refine wpS_of_wp ?_;go_wp2;cases c₀
 simp_all [bodyPostS,results,Tryz.results72]
theorem zqU (A:Option Addr)(n c:Nat)(P:Prop)(Q:Value→World→Prop)(hP:P)(w w2:World)(tmps:Array Value)(ht:tmps=#[tmps.getD 0 undef,tmps.getD 1 undef,(.slice A n c),.pointer (some ⟨w.heap.size,0,none⟩),tmps.getD 4 undef,tmps.getD 5 undef,tmps.getD 6 undef])
  (hq:Q (.slice A n c) w2) (hb:w2.heap[w.heap.size]? = some (.cells #[.int .i64 0] 24 (0,0))) (hg:w.grownBy w2 none) :
  Leaves Tryz.prog Tryz.f40 tmps (zer P Q (.slice none 0 0) w) [{ target := .fn (.func 72) #[.pointer (some ⟨w.heap.size,0,none⟩)],args:=#[] }] .returning w2:=by
 have hcell:=cell_of_one hb;refine leaves_cons (f:=72) (args:=#[.pointer (some ⟨w.heap.size,0,none⟩)]) (by simp) (by simp[go_sem]) ?_;refine(zAg ⟨w.heap.size,0,none⟩ _).mono ?_;rintro e u' w'' ⟨rfl,rfl,rfl⟩;rw[ht];refine⟨.tuple #[(.slice A n c),.int .i64 0],by simp[results,Tryz.results40,go_sem,hcell],.inl ⟨hP,_,rfl,hq,hg⟩⟩
theorem zqV (P:Prop)(Q:Value→World→Prop)(hP:¬ P)(w w2:World)(tmps:Array Value)(ht:tmps=#[tmps.getD 0 undef,tmps.getD 1 undef,(.slice none 0 0),.pointer (some ⟨w.heap.size,0,none⟩),tmps.getD 4 undef,tmps.getD 5 undef,tmps.getD 6 undef])
  (hb:w2.heap[w.heap.size]? = some (.cells #[.int .i64 0] 24 (0,0))) (hg:w.grownBy w2 none) :
  Leaves Tryz.prog Tryz.f40 tmps (zer P Q (.slice none 0 0) w) [{ target := .fn (.func 72) #[.pointer (some ⟨w.heap.size,0,none⟩)],args:=#[] }] (.panicking [{ v := .iface 24 (.int .i64 2),recovered:=false }]) w2:=by
 have hcell:=cell_of_one (one_setCell (u := .int .i64 2) hb);refine leaves_cons (f:=72) (args:=#[.pointer (some ⟨w.heap.size,0,none⟩)]) (by simp) (by simp[go_sem]) ?_;refine(zuy ⟨w.heap.size,0,none⟩ 0 2 [] _ (cell_of_one hb) (free_of_one hb)).mono ?_;rintro e u' w'' ⟨rfl,rfl,rfl⟩;rw[ht];refine⟨.tuple #[(.slice none 0 0),.int .i64 2],by simp[results,Tryz.results40,go_sem,hcell],.inr ⟨hP,rfl,?_⟩⟩;exact zai hg (zac w2 ⟨w.heap.size,0,none⟩ _) (Nat.le_refl _)
theorem zsI (F:Nat)(he:Enters F)(first cap:Array Value)(P:Prop)(Q:Value→World→Prop)(hmono:∀ v w1 w2 b,b<w1.heap.size→w1.grownBy w2 (some b)→b=WB→Q v w1→Q v w2)(w:World)(hWB:WB=w.heap.size)
  (h:Calls Tryz.prog F (first++cap) (w.alloc (.cells #[.int .i64 0] 24)) (zbn P (fun v w'=>(∃ A n c,v=(.slice A n c))∧Q v w') (w.alloc (.cells #[.int .i64 0] 24)))) :
  Calls Tryz.prog 40 #[.func (.func F) first cap] w (zer P Q (.slice none 0 0) w):=by
 have hmf:∀ (fn:Fn) (first cap:Array Value) (w:World),(Instr.makeFunc fn first cap).run Tryz.prog w = .ok (.func fn first cap) w:=fun _ _ _ _=>rfl;have H:=zHd h;have HE:=zHd he;have HMO:=zHd hmono;clear h he hmono
 go_enter_defers Tryz.func40,Tryz.ntmps40
 go_wp2_with fail;rw[HE.out];refine H.out.mono ?_;rintro e w2 (⟨hp,v,rfl,⟨⟨A,n,c,rfl⟩,hq⟩,hg⟩|⟨hn,rfl,hg⟩)
 ·have hb:=alloc_old hg
  have hcell:=cell_of_one hb;have hfree:=free_of_one hb;have HB:=zHd hb;have HG:=zHd hg;have HQ:=zHd (zAI hp hq);clear hb hg H HE hq hp;go_wp2;exact zqU A n c P Q HQ.out.1 w _ _ rfl (HMO.out _ _ _ _ (Array.getElem?_eq_some_iff.1 HB.out).1 (zac w2 ⟨w.heap.size,0,none⟩ _) hWB.symm HQ.out.2) (one_setCell HB.out) (zai (zaa (zGA _ _ none) HG.out) (zac w2 ⟨w.heap.size,0,none⟩ _) (Nat.le_refl _))
 ·have hb:=alloc_old hg
  have HB:=zHd hb;have HG:=zHd hg;clear hb hg H HE;exact zqV P Q hn w _ _ rfl HB.out (zaa (zGA _ _ none) HG.out)
theorem zxo (p:Addr)(x E:Int)(older:List PanicEntry)(w:World)(hc:w.cell? p=some (.int .i64 x))(hz:w.frozen? p=false) :
  CallsD Tryz.prog 93 #[.pointer (some p)] (.panicking ({ v := .iface 24 (.int .i64 E),recovered:=false }::older)) w fun e u' w' =>
   e = .returned (.tuple #[])∧u' = .panicking ({ v := .iface 24 (.int .i64 E),recovered:=true }::older)∧w'=w.setCell p (.int .i64 E):=by
 refine callsD_of_wpS Tryz.func93 rfl fun c₀ cs hu => ?_
 apply wpS_seq
 apply wpS_region
 simp[wpOpsS,go_sem,recoverD,hu,Tryz.ntmps93,Exit.thenS];clear hu;obtain⟨fs,hfs⟩:∃ fs:List Frame,fs = { c₀ with mode := .panicking ({ v := .iface 24 (.int .i64 E),recovered:=true }::older) }::cs:=⟨_,rfl⟩;have HFS:=zHd hfs;rw[← hfs];clear hfs;have h1:∀ w:World,(binOp .neq 20 (.iface 24 (.int .i64 E)) .nilIface).run Tryz.prog w = .ok (.bool true) w:=fun w=>run_neq_held_nil _ _ _ _ (by kernel_rfl);have h2:∀ w:World,(Instr.typeAssert (.iface 24 (.int .i64 E)) 20 24 false).run Tryz.prog w = .ok (.int .i64 E) w:=fun w=>by kernel_rfl
 refine wpS_of_wp ?_;go_wp2_with fail;clear h1 h2 hc hz;rw[HFS.out];exact⟨rfl,_,rfl,.tuple #[],by simp[results,Tryz.results93],rfl,rfl,rfl⟩
theorem zDj (p:Addr)(w:World) :
  CallsD Tryz.prog 93 #[.pointer (some p)] .returning w fun e u' w'=>e = .returned (.tuple #[])∧u' = .returning∧w'=w:=by
 refine callsD_of_wpS Tryz.func93 rfl fun c₀ cs hu => ?_
 apply wpS_seq
 apply wpS_region
 simp[wpOpsS,go_sem,recoverD,hu,Tryz.ntmps93,Exit.thenS];refine wpS_of_wp ?_;go_wp2;cases c₀
 simp_all [bodyPostS,results,Tryz.results93]
theorem zsJ (A:Option Addr)(n c:Nat)(P:Prop)(Q:Value→World→Prop)(hP:P)(w w2:World)(tmps:Array Value)(ht:tmps=#[tmps.getD 0 undef,tmps.getD 1 undef,(.slice A n c),.pointer (some ⟨w.heap.size,0,none⟩),tmps.getD 4 undef,tmps.getD 5 undef,tmps.getD 6 undef])
  (hq:Q (.slice A n c) w2) (hb:w2.heap[w.heap.size]? = some (.cells #[.int .i64 0] 24 (0,0))) (hg:w.grownBy w2 none) :
  Leaves Tryz.prog Tryz.f51 tmps (zer P Q (.slice none 0 0) w) [{ target := .fn (.func 93) #[.pointer (some ⟨w.heap.size,0,none⟩)],args:=#[] }] .returning w2:=by
 have hcell:=cell_of_one hb;refine leaves_cons (f:=93) (args:=#[.pointer (some ⟨w.heap.size,0,none⟩)]) (by simp) (by simp[go_sem]) ?_;refine(zDj ⟨w.heap.size,0,none⟩ _).mono ?_;rintro e u' w'' ⟨rfl,rfl,rfl⟩;rw[ht];refine⟨.tuple #[(.slice A n c),.int .i64 0],by simp[results,Tryz.results51,go_sem,hcell],.inl ⟨hP,_,rfl,hq,hg⟩⟩
theorem zsK (P:Prop)(Q:Value→World→Prop)(hP:¬ P)(w w2:World)(tmps:Array Value)(ht:tmps=#[tmps.getD 0 undef,tmps.getD 1 undef,(.slice none 0 0),.pointer (some ⟨w.heap.size,0,none⟩),tmps.getD 4 undef,tmps.getD 5 undef,tmps.getD 6 undef])
  (hb:w2.heap[w.heap.size]? = some (.cells #[.int .i64 0] 24 (0,0))) (hg:w.grownBy w2 none) :
  Leaves Tryz.prog Tryz.f51 tmps (zer P Q (.slice none 0 0) w) [{ target := .fn (.func 93) #[.pointer (some ⟨w.heap.size,0,none⟩)],args:=#[] }] (.panicking [{ v := .iface 24 (.int .i64 2),recovered:=false }]) w2:=by
 have hcell:=cell_of_one (one_setCell (u := .int .i64 2) hb);refine leaves_cons (f:=93) (args:=#[.pointer (some ⟨w.heap.size,0,none⟩)]) (by simp) (by simp[go_sem]) ?_;refine(zxo ⟨w.heap.size,0,none⟩ 0 2 [] _ (cell_of_one hb) (free_of_one hb)).mono ?_;rintro e u' w'' ⟨rfl,rfl,rfl⟩;rw[ht];refine⟨.tuple #[(.slice none 0 0),.int .i64 2],by simp[results,Tryz.results51,go_sem,hcell],.inr ⟨hP,rfl,?_⟩⟩;exact zai hg (zac w2 ⟨w.heap.size,0,none⟩ _) (Nat.le_refl _)
theorem zlO (F:Nat)(he:Enters F)(first cap:Array Value)(P:Prop)(Q:Value→World→Prop)(hmono:∀ v w1 w2 b,b<w1.heap.size→w1.grownBy w2 (some b)→b=WB→Q v w1→Q v w2)(w:World)(hWB:WB=w.heap.size)
  (h:Calls Tryz.prog F (first++cap) (w.alloc (.cells #[.int .i64 0] 24)) (zbn P (fun v w'=>(∃ A n c,v=(.slice A n c))∧Q v w') (w.alloc (.cells #[.int .i64 0] 24)))) :
  Calls Tryz.prog 51 #[.func (.func F) first cap] w (zer P Q (.slice none 0 0) w):=by
 have hmf:∀ (fn:Fn) (first cap:Array Value) (w:World),(Instr.makeFunc fn first cap).run Tryz.prog w = .ok (.func fn first cap) w:=fun _ _ _ _=>rfl;have H:=zHd h;have HE:=zHd he;have HMO:=zHd hmono;clear h he hmono
 go_enter_defers Tryz.func51,Tryz.ntmps51
 go_wp2_with fail;rw[HE.out];refine H.out.mono ?_;rintro e w2 (⟨hp,v,rfl,⟨⟨A,n,c,rfl⟩,hq⟩,hg⟩|⟨hn,rfl,hg⟩)
 ·have hb:=alloc_old hg
  have hcell:=cell_of_one hb;have hfree:=free_of_one hb;have HB:=zHd hb;have HG:=zHd hg;have HQ:=zHd (zAI hp hq);clear hb hg H HE hq hp;go_wp2;exact zsJ A n c P Q HQ.out.1 w _ _ rfl (HMO.out _ _ _ _ (Array.getElem?_eq_some_iff.1 HB.out).1 (zac w2 ⟨w.heap.size,0,none⟩ _) hWB.symm HQ.out.2) (one_setCell HB.out) (zai (zaa (zGA _ _ none) HG.out) (zac w2 ⟨w.heap.size,0,none⟩ _) (Nat.le_refl _))
 ·have hb:=alloc_old hg
  have HB:=zHd hb;have HG:=zHd hg;clear hb hg H HE;exact zsK P Q hn w _ _ rfl HB.out (zaa (zGA _ _ none) HG.out)
theorem zxp (p:Addr)(x E:Int)(older:List PanicEntry)(w:World)(hc:w.cell? p=some (.int .i64 x))(hz:w.frozen? p=false) :
  CallsD Tryz.prog 101 #[.pointer (some p)] (.panicking ({ v := .iface 24 (.int .i64 E),recovered:=false }::older)) w fun e u' w' =>
   e = .returned (.tuple #[])∧u' = .panicking ({ v := .iface 24 (.int .i64 E),recovered:=true }::older)∧w'=w.setCell p (.int .i64 E):=by
 refine callsD_of_wpS Tryz.func101 rfl fun c₀ cs hu => ?_
 apply wpS_seq
 apply wpS_region
 simp[wpOpsS,go_sem,recoverD,hu,Tryz.ntmps101,Exit.thenS];clear hu;obtain⟨fs,hfs⟩:∃ fs:List Frame,fs = { c₀ with mode := .panicking ({ v := .iface 24 (.int .i64 E),recovered:=true }::older) }::cs:=⟨_,rfl⟩;have HFS:=zHd hfs;rw[← hfs];clear hfs;have h1:∀ w:World,(binOp .neq 20 (.iface 24 (.int .i64 E)) .nilIface).run Tryz.prog w = .ok (.bool true) w:=fun w=>run_neq_held_nil _ _ _ _ (by kernel_rfl);have h2:∀ w:World,(Instr.typeAssert (.iface 24 (.int .i64 E)) 20 24 false).run Tryz.prog w = .ok (.int .i64 E) w:=fun w=>by kernel_rfl
 refine wpS_of_wp ?_;go_wp2_with fail;clear h1 h2 hc hz;rw[HFS.out];exact⟨rfl,_,rfl,.tuple #[],by simp[results,Tryz.results101],rfl,rfl,rfl⟩
theorem zDk (p:Addr)(w:World) :
  CallsD Tryz.prog 101 #[.pointer (some p)] .returning w fun e u' w'=>e = .returned (.tuple #[])∧u' = .returning∧w'=w:=by
 refine callsD_of_wpS Tryz.func101 rfl fun c₀ cs hu => ?_
 apply wpS_seq
 apply wpS_region
 simp[wpOpsS,go_sem,recoverD,hu,Tryz.ntmps101,Exit.thenS];refine wpS_of_wp ?_;go_wp2;cases c₀
 simp_all [bodyPostS,results,Tryz.results101]
theorem zsL (s:ByteArray)(P:Prop)(Q:Value→World→Prop)(hP:P)(w w2:World)(tmps:Array Value)(ht:tmps=#[tmps.getD 0 undef,tmps.getD 1 undef,(.string s),.pointer (some ⟨w.heap.size,0,none⟩),tmps.getD 4 undef,tmps.getD 5 undef,tmps.getD 6 undef])
  (hq:Q (.string s) w2) (hb:w2.heap[w.heap.size]? = some (.cells #[.int .i64 0] 24 (0,0))) (hg:w.grownBy w2 none) :
  Leaves Tryz.prog Tryz.f57 tmps (zer P Q (.string ⟨#[]⟩) w) [{ target := .fn (.func 101) #[.pointer (some ⟨w.heap.size,0,none⟩)],args:=#[] }] .returning w2:=by
 have hcell:=cell_of_one hb;refine leaves_cons (f:=101) (args:=#[.pointer (some ⟨w.heap.size,0,none⟩)]) (by simp) (by simp[go_sem]) ?_;refine(zDk ⟨w.heap.size,0,none⟩ _).mono ?_;rintro e u' w'' ⟨rfl,rfl,rfl⟩;rw[ht];refine⟨.tuple #[(.string s),.int .i64 0],by simp[results,Tryz.results57,go_sem,hcell],.inl ⟨hP,_,rfl,hq,hg⟩⟩
theorem zsM (P:Prop)(Q:Value→World→Prop)(hP:¬ P)(w w2:World)(tmps:Array Value)(ht:tmps=#[tmps.getD 0 undef,tmps.getD 1 undef,(.string ⟨#[]⟩),.pointer (some ⟨w.heap.size,0,none⟩),tmps.getD 4 undef,tmps.getD 5 undef,tmps.getD 6 undef])
  (hb:w2.heap[w.heap.size]? = some (.cells #[.int .i64 0] 24 (0,0))) (hg:w.grownBy w2 none) :
  Leaves Tryz.prog Tryz.f57 tmps (zer P Q (.string ⟨#[]⟩) w) [{ target := .fn (.func 101) #[.pointer (some ⟨w.heap.size,0,none⟩)],args:=#[] }] (.panicking [{ v := .iface 24 (.int .i64 2),recovered:=false }]) w2:=by
 have hcell:=cell_of_one (one_setCell (u := .int .i64 2) hb);refine leaves_cons (f:=101) (args:=#[.pointer (some ⟨w.heap.size,0,none⟩)]) (by simp) (by simp[go_sem]) ?_;refine(zxp ⟨w.heap.size,0,none⟩ 0 2 [] _ (cell_of_one hb) (free_of_one hb)).mono ?_;rintro e u' w'' ⟨rfl,rfl,rfl⟩;rw[ht];refine⟨.tuple #[(.string ⟨#[]⟩),.int .i64 2],by simp[results,Tryz.results57,go_sem,hcell],.inr ⟨hP,rfl,?_⟩⟩;exact zai hg (zac w2 ⟨w.heap.size,0,none⟩ _) (Nat.le_refl _)
theorem zuz (F:Nat)(he:Enters F)(first cap:Array Value)(P:Prop)(Q:Value→World→Prop)(hmono:∀ v w1 w2 b,b<w1.heap.size→w1.grownBy w2 (some b)→b=WB→Q v w1→Q v w2)(w:World)(hWB:WB=w.heap.size)
  (h:Calls Tryz.prog F (first++cap) (w.alloc (.cells #[.int .i64 0] 24)) (zbn P (fun v w'=>(∃ s,v=(.string s))∧Q v w') (w.alloc (.cells #[.int .i64 0] 24)))) :
  Calls Tryz.prog 57 #[.func (.func F) first cap] w (zer P Q (.string ⟨#[]⟩) w):=by
 have hmf:∀ (fn:Fn) (first cap:Array Value) (w:World),(Instr.makeFunc fn first cap).run Tryz.prog w = .ok (.func fn first cap) w:=fun _ _ _ _=>rfl;have H:=zHd h;have HE:=zHd he;have HMO:=zHd hmono;clear h he hmono
 go_enter_defers Tryz.func57,Tryz.ntmps57
 go_wp2_with fail;rw[HE.out];refine H.out.mono ?_;rintro e w2 (⟨hp,v,rfl,⟨⟨s,rfl⟩,hq⟩,hg⟩|⟨hn,rfl,hg⟩)
 ·have hb:=alloc_old hg
  have hcell:=cell_of_one hb;have hfree:=free_of_one hb;have HB:=zHd hb;have HG:=zHd hg;have HQ:=zHd (zAI hp hq);clear hb hg H HE hq hp;go_wp2;exact zsL s P Q HQ.out.1 w _ _ rfl (HMO.out _ _ _ _ (Array.getElem?_eq_some_iff.1 HB.out).1 (zac w2 ⟨w.heap.size,0,none⟩ _) hWB.symm HQ.out.2) (one_setCell HB.out) (zai (zaa (zGA _ _ none) HG.out) (zac w2 ⟨w.heap.size,0,none⟩ _) (Nat.le_refl _))
 ·have hb:=alloc_old hg
  have HB:=zHd hb;have HG:=zHd hg;clear hb hg H HE;exact zsM P Q hn w _ _ rfl HB.out (zaa (zGA _ _ none) HG.out)
end
end Go.Proofs.YtaogepcaoogpgaaGreatDoor
