/- Part. -/
import Derived.Test.YtadgpgofcjpnjaaGreatDoorZK05
import Derived.Laws.EntriesVeiled
import Derived.Great.Walk
set_option linter.unusedVariables false
set_option linter.defProp false
set_option linter.unusedSimpArgs false
set_option maxRecDepth 100000
set_option maxHeartbeats 16000000
namespace Go.Proofs.YtadgpgofcjpnjaaGreatDoor
open Go.Proofs.Tryz
open Go.RowKit
open Go.Lib (nDigits decDigits)
def zqR (s:ByteArray)(k:Nat)(hk:k<s.size):s.data.toList[k]?=some s[k]:=Lib.data_getElem? s k hk
def zxj (s:ByteArray)(w:World)(hs:s.size<=maxLen) :
  Calls prog 134 #[.string s,.int .u8 47] w fun e w'=>e=.returned (.int .i64 (Lib.indexByte s.data.toList 47))/\w=w':=by
 unfold maxLen at hs;go_enter func134,ntmps134;go_wp2
 go_loop [5] (fun i=>∃ k:Nat,i=.int .i64 k/\k<=s.size/\Lib.NoAny s.data.toList [47] k) (fun i=>s.size-(intOf i).toNat)
 case atStart=>exact⟨0,rfl,by omega,Lib.NoAny.zero _ _⟩
 case round =>
  obtain⟨k,rfl,hk,hno⟩:=hrel;have HNO:=zHd hno;clear hno
  by_cases hlt:k<s.size
  ·have hat:=zHd (zqR s k hlt)
   cases he:((s[k].toNat:Int)==47)
   ·have hx:¬ (s[k].toNat:Int)=47:=by simpa using he
    have hc:([47]:List UInt8).contains s[k]=false:=by
     simp only[List.contains_cons,List.contains_nil,Bool.or_false,beq_eq_false_iff_ne];intro e;rw[e] at hx;exact hx rfl
    have HS:=zHd (HNO.out.succ hat.out hc);clear hx hc;go_wp2;go_round
    case rel=>exact⟨k+1,by go_num,by omega,HS.out⟩
    case measure=>simp[intOf];omega
   have hx:(s[k].toNat:Int)=47:=by simpa using he
   have hc:([47]:List UInt8).contains s[k]=true:=by
    have:s[k]=47:=UInt8.toNat_inj.1 (by have:(47:UInt8).toNat=47:=rfl;omega);rw[this];decide
   have HS:=zHd (Lib.indexAny_hit HNO.out hat.out hc);clear hx hc;exact zQcq
  have HS:=zHd (Lib.indexAny_none (s:=s.data.toList) (chars:=[47]) (by
   have e:k=s.data.toList.length:=(by rw[<- Lib.size_eq];omega);rw[<- e];exact HNO.out))
  exact zQcq
def zet (s:ByteArray):Bool:=decide (s.size<=400)&&zas s
def zkf (s:ByteArray)(w:World)(hs:s.size<=maxLen) :
  Calls prog 135 #[.string s] w fun e w'=>e=.returned (.bool (zet s))/\w=w':=by
 have hv:=fun w=>zaE s w hs
 by_cases h:s.size<=400
 ·have HN:=zHd (show zet s=zas s by unfold zet;simp[h])
  have h1:(s.size:Int)<=400:=by omega
  generalize zas s=b at *;have HV:=zHd hv;clear hv;go_enter func135,ntmps135;go_wp2_with fail;refine(HV.out _).mono ?_;rintro e w' ⟨rfl,rfl⟩;exact zQaF
 have HN:=zHd (show zet s=false by unfold zet;simp[h]);have h1:¬ (s.size:Int)<=400:=by omega
 clear hv;go_enter func135,ntmps135;exact zQaF
def zvf (A C P:ByteArray)(w:World)(M:Hid (∀ w,Calls prog 140 #[.string A,.string C] w (zab (.tuple #[.string P,.int .i64 0]) w))) :
  Calls prog 110 #[.string A,.string C] w (zab (.string P) w):=by
 go_enter func110,ntmps110;go_wp2_with fail;refine(M.out _).mono ?_;exact zQaI
open Go.RowKit
open Go.Lib (nDigits decDigits)
def zdA (R:ByteArray)(z:Int):Prop:=∀ w,Calls prog 134 #[.string R,.int .u8 47] w fun e w'=>e=.returned (.int .i64 z)/\w=w'
def zbr (s:ByteArray)(b:Bool):Prop:=∀ w,Calls prog 135 #[.string s] w fun e w'=>e=.returned (.bool b)/\w=w'
def zgP (n d G:ByteArray):Prop:=∀ w,Calls prog 136 #[.string n,.string d] w (zab (.tuple #[.string G,.int .i64 0]) w)
def zqS (a R G:ByteArray)(w:World)(h0:¬ (0:Int)<(a.size:Int))(eR:a=R)
  (IX:Hid (zdA R (-1))) (S1:Hid (zbr R false)) :
  Calls prog 108 #[.string a] w (zab (.tuple #[.bool false,.string ⟨#[]⟩,.string ⟨#[]⟩,.bool false]) w):=by
 subst eR;exact zQaj
def zqT (a R G:ByteArray)(w:World)(h0:(0:Int)<(a.size:Int))(hp:0<a.size)(h1:(((a[0]'hp).toNat:Int)==45)=false)(eR:a=R)
  (IX:Hid (zdA R (-1))) (S1:Hid (zbr R false)) :
  Calls prog 108 #[.string a] w (zab (.tuple #[.bool false,.string ⟨#[]⟩,.string ⟨#[]⟩,.bool false]) w):=by
 subst eR;exact zQaj
def zqU (a R G:ByteArray)(w:World)(h0:(0:Int)<(a.size:Int))(hp:0<a.size)(h1:(((a[0]'hp).toNat:Int)==45)=true)(hle:(1:Int)<=(a.size:Int))(eR:a.extract 1 a.size=R)
  (IX:Hid (zdA R (-1))) (S1:Hid (zbr R false)) :
  Calls prog 108 #[.string a] w (zab (.tuple #[.bool false,.string ⟨#[]⟩,.string ⟨#[]⟩,.bool false]) w):=by
 exact zQaj
def zpI (a R G:ByteArray)(w:World)(h0:(0:Int)<(a.size:Int))(hp:0<a.size)(h1:(((a[0]'hp).toNat:Int)==45)=false)(eR:a=R)
  (IX:Hid (zdA R (-1))) (S1:Hid (zbr R true)) (S2:Hid (zbr ⟨#[49]⟩ true)) (z1:(R.toList==[48])=true) (GC:Hid (zgP R ⟨#[49]⟩ G)) (q1:(G.toList==[49])=true) (q2:(G.toList != [49])=false) :
  Calls prog 108 #[.string a] w (zab (.tuple #[.bool false,.string R,.string ⟨#[49]⟩,.bool true]) w):=by
 subst eR;exact zQad
def zpJ (a R G:ByteArray)(w:World)(h0:(0:Int)<(a.size:Int))(hp:0<a.size)(h1:(((a[0]'hp).toNat:Int)==45)=false)(eR:a=R)
  (IX:Hid (zdA R (-1))) (S1:Hid (zbr R true)) (S2:Hid (zbr ⟨#[49]⟩ true)) (z1:(R.toList==[48])=false) (GC:Hid (zgP R ⟨#[49]⟩ G)) (q1:(G.toList==[49])=true) (q2:(G.toList != [49])=false) :
  Calls prog 108 #[.string a] w (zab (.tuple #[.bool false,.string R,.string ⟨#[49]⟩,.bool true]) w):=by
 subst eR;exact zQad
def zqV (a R G:ByteArray)(w:World)(h0:(0:Int)<(a.size:Int))(hp:0<a.size)(h1:(((a[0]'hp).toNat:Int)==45)=true)(hle:(1:Int)<=(a.size:Int))(eR:a.extract 1 a.size=R)
  (IX:Hid (zdA R (-1))) (S1:Hid (zbr R true)) (S2:Hid (zbr ⟨#[49]⟩ true)) (z1:(R.toList==[48])=true) :
  Calls prog 108 #[.string a] w (zab (.tuple #[.bool false,.string ⟨#[]⟩,.string ⟨#[]⟩,.bool false]) w):=by
 exact zQac
def zpK (a R G:ByteArray)(w:World)(h0:(0:Int)<(a.size:Int))(hp:0<a.size)(h1:(((a[0]'hp).toNat:Int)==45)=true)(hle:(1:Int)<=(a.size:Int))(eR:a.extract 1 a.size=R)
  (IX:Hid (zdA R (-1))) (S1:Hid (zbr R true)) (S2:Hid (zbr ⟨#[49]⟩ true)) (z1:(R.toList==[48])=false) (GC:Hid (zgP R ⟨#[49]⟩ G)) (q1:(G.toList==[49])=true) (q2:(G.toList != [49])=false) :
  Calls prog 108 #[.string a] w (zab (.tuple #[.bool true,.string R,.string ⟨#[49]⟩,.bool true]) w):=by
 exact zQad
def zqW (a R n d G:ByteArray)(i:Nat)(w:World)(h0:(0:Int)<(a.size:Int))(hp:0<a.size)(h1:(((a[0]'hp).toNat:Int)==45)=false)(eR:a=R)
  (hi:i<R.size) (hR:R.size<=9223372036854775807) (IX:Hid (zdA R i)) (eN:R.extract 0 i=n) (eD:R.extract (i+1) R.size=d) (S1:Hid (zbr n false)) :
  Calls prog 108 #[.string a] w (zab (.tuple #[.bool false,.string ⟨#[]⟩,.string ⟨#[]⟩,.bool false]) w):=by
 have c1:(0:Int)<=(i:Int):=by omega
 have c2:(i:Int)<=(R.size:Int):=by omega
 have c3:(0:Int)<=(i:Int)+1:=by omega
 have c4:(i:Int)+1<=(R.size:Int):=by omega
 subst eR;exact zQaj
def zqX (a R n d G:ByteArray)(i:Nat)(w:World)(h0:(0:Int)<(a.size:Int))(hp:0<a.size)(h1:(((a[0]'hp).toNat:Int)==45)=false)(eR:a=R)
  (hi:i<R.size) (hR:R.size<=9223372036854775807) (IX:Hid (zdA R i)) (eN:R.extract 0 i=n) (eD:R.extract (i+1) R.size=d) (S1:Hid (zbr n true)) (S2:Hid (zbr d false)) :
  Calls prog 108 #[.string a] w (zab (.tuple #[.bool false,.string ⟨#[]⟩,.string ⟨#[]⟩,.bool false]) w):=by
 have c1:(0:Int)<=(i:Int):=by omega
 have c2:(i:Int)<=(R.size:Int):=by omega
 have c3:(0:Int)<=(i:Int)+1:=by omega
 have c4:(i:Int)+1<=(R.size:Int):=by omega
 subst eR;exact zQac
def zqY (a R n d G:ByteArray)(i:Nat)(w:World)(h0:(0:Int)<(a.size:Int))(hp:0<a.size)(h1:(((a[0]'hp).toNat:Int)==45)=false)(eR:a=R)
  (hi:i<R.size) (hR:R.size<=9223372036854775807) (IX:Hid (zdA R i)) (eN:R.extract 0 i=n) (eD:R.extract (i+1) R.size=d) (S1:Hid (zbr n true)) (S2:Hid (zbr d true)) (z2:(d.toList==[48])=true) :
  Calls prog 108 #[.string a] w (zab (.tuple #[.bool false,.string ⟨#[]⟩,.string ⟨#[]⟩,.bool false]) w):=by
 have c1:(0:Int)<=(i:Int):=by omega
 have c2:(i:Int)<=(R.size:Int):=by omega
 have c3:(0:Int)<=(i:Int)+1:=by omega
 have c4:(i:Int)+1<=(R.size:Int):=by omega
 subst eR;exact zQac
def zqZ (a R n d G:ByteArray)(i:Nat)(w:World)(h0:(0:Int)<(a.size:Int))(hp:0<a.size)(h1:(((a[0]'hp).toNat:Int)==45)=false)(eR:a=R)
  (hi:i<R.size) (hR:R.size<=9223372036854775807) (IX:Hid (zdA R i)) (eN:R.extract 0 i=n) (eD:R.extract (i+1) R.size=d) (S1:Hid (zbr n true)) (S2:Hid (zbr d true)) (z2:(d.toList==[48])=false) (z1:(n.toList==[48])=true) :
  Calls prog 108 #[.string a] w (zab (.tuple #[.bool false,.string ⟨#[]⟩,.string ⟨#[]⟩,.bool false]) w):=by
 have c1:(0:Int)<=(i:Int):=by omega
 have c2:(i:Int)<=(R.size:Int):=by omega
 have c3:(0:Int)<=(i:Int)+1:=by omega
 have c4:(i:Int)+1<=(R.size:Int):=by omega
 subst eR;exact zQac
def zra (a R n d G:ByteArray)(i:Nat)(w:World)(h0:(0:Int)<(a.size:Int))(hp:0<a.size)(h1:(((a[0]'hp).toNat:Int)==45)=false)(eR:a=R)
  (hi:i<R.size) (hR:R.size<=9223372036854775807) (IX:Hid (zdA R i)) (eN:R.extract 0 i=n) (eD:R.extract (i+1) R.size=d) (S1:Hid (zbr n true)) (S2:Hid (zbr d true)) (z2:(d.toList==[48])=false) (z1:(n.toList==[48])=false) (o2:(d.toList==[49])=true) :
  Calls prog 108 #[.string a] w (zab (.tuple #[.bool false,.string ⟨#[]⟩,.string ⟨#[]⟩,.bool false]) w):=by
 have c1:(0:Int)<=(i:Int):=by omega
 have c2:(i:Int)<=(R.size:Int):=by omega
 have c3:(0:Int)<=(i:Int)+1:=by omega
 have c4:(i:Int)+1<=(R.size:Int):=by omega
 subst eR;exact zQac
def zrb (a R n d G:ByteArray)(i:Nat)(w:World)(h0:(0:Int)<(a.size:Int))(hp:0<a.size)(h1:(((a[0]'hp).toNat:Int)==45)=false)(eR:a=R)
  (hi:i<R.size) (hR:R.size<=9223372036854775807) (IX:Hid (zdA R i)) (eN:R.extract 0 i=n) (eD:R.extract (i+1) R.size=d) (S1:Hid (zbr n true)) (S2:Hid (zbr d true)) (z2:(d.toList==[48])=false) (z1:(n.toList==[48])=false) (o2:(d.toList==[49])=false) (o3:(d.toList != [49])=true) (GC:Hid (zgP n d G)) (q1:(G.toList==[49])=false) (q2:(G.toList != [49])=true) :
  Calls prog 108 #[.string a] w (zab (.tuple #[.bool false,.string ⟨#[]⟩,.string ⟨#[]⟩,.bool false]) w):=by
 have c1:(0:Int)<=(i:Int):=by omega
 have c2:(i:Int)<=(R.size:Int):=by omega
 have c3:(0:Int)<=(i:Int)+1:=by omega
 have c4:(i:Int)+1<=(R.size:Int):=by omega
 subst eR;exact zQad
def zrc (a R n d G:ByteArray)(i:Nat)(w:World)(h0:(0:Int)<(a.size:Int))(hp:0<a.size)(h1:(((a[0]'hp).toNat:Int)==45)=false)(eR:a=R)
  (hi:i<R.size) (hR:R.size<=9223372036854775807) (IX:Hid (zdA R i)) (eN:R.extract 0 i=n) (eD:R.extract (i+1) R.size=d) (S1:Hid (zbr n true)) (S2:Hid (zbr d true)) (z2:(d.toList==[48])=false) (z1:(n.toList==[48])=false) (o2:(d.toList==[49])=false) (o3:(d.toList != [49])=true) (GC:Hid (zgP n d G)) (q1:(G.toList==[49])=true) (q2:(G.toList != [49])=false) :
  Calls prog 108 #[.string a] w (zab (.tuple #[.bool false,.string n,.string d,.bool true]) w):=by
 have c1:(0:Int)<=(i:Int):=by omega
 have c2:(i:Int)<=(R.size:Int):=by omega
 have c3:(0:Int)<=(i:Int)+1:=by omega
 have c4:(i:Int)+1<=(R.size:Int):=by omega
 subst eR;exact zQad
def zrd (a R n d G:ByteArray)(i:Nat)(w:World)(h0:(0:Int)<(a.size:Int))(hp:0<a.size)(h1:(((a[0]'hp).toNat:Int)==45)=true)(hle:(1:Int)<=(a.size:Int))(eR:a.extract 1 a.size=R)
  (hi:i<R.size) (hR:R.size<=9223372036854775807) (IX:Hid (zdA R i)) (eN:R.extract 0 i=n) (eD:R.extract (i+1) R.size=d) (S1:Hid (zbr n false)) :
  Calls prog 108 #[.string a] w (zab (.tuple #[.bool false,.string ⟨#[]⟩,.string ⟨#[]⟩,.bool false]) w):=by
 have c1:(0:Int)<=(i:Int):=by omega
 have c2:(i:Int)<=(R.size:Int):=by omega
 have c3:(0:Int)<=(i:Int)+1:=by omega
 have c4:(i:Int)+1<=(R.size:Int):=by omega
 exact zQaj
def zre (a R n d G:ByteArray)(i:Nat)(w:World)(h0:(0:Int)<(a.size:Int))(hp:0<a.size)(h1:(((a[0]'hp).toNat:Int)==45)=true)(hle:(1:Int)<=(a.size:Int))(eR:a.extract 1 a.size=R)
  (hi:i<R.size) (hR:R.size<=9223372036854775807) (IX:Hid (zdA R i)) (eN:R.extract 0 i=n) (eD:R.extract (i+1) R.size=d) (S1:Hid (zbr n true)) (S2:Hid (zbr d false)) :
  Calls prog 108 #[.string a] w (zab (.tuple #[.bool false,.string ⟨#[]⟩,.string ⟨#[]⟩,.bool false]) w):=by
 have c1:(0:Int)<=(i:Int):=by omega
 have c2:(i:Int)<=(R.size:Int):=by omega
 have c3:(0:Int)<=(i:Int)+1:=by omega
 have c4:(i:Int)+1<=(R.size:Int):=by omega
 exact zQac
def zrf (a R n d G:ByteArray)(i:Nat)(w:World)(h0:(0:Int)<(a.size:Int))(hp:0<a.size)(h1:(((a[0]'hp).toNat:Int)==45)=true)(hle:(1:Int)<=(a.size:Int))(eR:a.extract 1 a.size=R)
  (hi:i<R.size) (hR:R.size<=9223372036854775807) (IX:Hid (zdA R i)) (eN:R.extract 0 i=n) (eD:R.extract (i+1) R.size=d) (S1:Hid (zbr n true)) (S2:Hid (zbr d true)) (z2:(d.toList==[48])=true) :
  Calls prog 108 #[.string a] w (zab (.tuple #[.bool false,.string ⟨#[]⟩,.string ⟨#[]⟩,.bool false]) w):=by
 have c1:(0:Int)<=(i:Int):=by omega
 have c2:(i:Int)<=(R.size:Int):=by omega
 have c3:(0:Int)<=(i:Int)+1:=by omega
 have c4:(i:Int)+1<=(R.size:Int):=by omega
 exact zQac
def zrg (a R n d G:ByteArray)(i:Nat)(w:World)(h0:(0:Int)<(a.size:Int))(hp:0<a.size)(h1:(((a[0]'hp).toNat:Int)==45)=true)(hle:(1:Int)<=(a.size:Int))(eR:a.extract 1 a.size=R)
  (hi:i<R.size) (hR:R.size<=9223372036854775807) (IX:Hid (zdA R i)) (eN:R.extract 0 i=n) (eD:R.extract (i+1) R.size=d) (S1:Hid (zbr n true)) (S2:Hid (zbr d true)) (z2:(d.toList==[48])=false) (z1:(n.toList==[48])=true) :
  Calls prog 108 #[.string a] w (zab (.tuple #[.bool false,.string ⟨#[]⟩,.string ⟨#[]⟩,.bool false]) w):=by
 have c1:(0:Int)<=(i:Int):=by omega
 have c2:(i:Int)<=(R.size:Int):=by omega
 have c3:(0:Int)<=(i:Int)+1:=by omega
 have c4:(i:Int)+1<=(R.size:Int):=by omega
 exact zQac
def zrh (a R n d G:ByteArray)(i:Nat)(w:World)(h0:(0:Int)<(a.size:Int))(hp:0<a.size)(h1:(((a[0]'hp).toNat:Int)==45)=true)(hle:(1:Int)<=(a.size:Int))(eR:a.extract 1 a.size=R)
  (hi:i<R.size) (hR:R.size<=9223372036854775807) (IX:Hid (zdA R i)) (eN:R.extract 0 i=n) (eD:R.extract (i+1) R.size=d) (S1:Hid (zbr n true)) (S2:Hid (zbr d true)) (z2:(d.toList==[48])=false) (z1:(n.toList==[48])=false) (o2:(d.toList==[49])=true) :
  Calls prog 108 #[.string a] w (zab (.tuple #[.bool false,.string ⟨#[]⟩,.string ⟨#[]⟩,.bool false]) w):=by
 have c1:(0:Int)<=(i:Int):=by omega
 have c2:(i:Int)<=(R.size:Int):=by omega
 have c3:(0:Int)<=(i:Int)+1:=by omega
 have c4:(i:Int)+1<=(R.size:Int):=by omega
 exact zQac
def zri (a R n d G:ByteArray)(i:Nat)(w:World)(h0:(0:Int)<(a.size:Int))(hp:0<a.size)(h1:(((a[0]'hp).toNat:Int)==45)=true)(hle:(1:Int)<=(a.size:Int))(eR:a.extract 1 a.size=R)
  (hi:i<R.size) (hR:R.size<=9223372036854775807) (IX:Hid (zdA R i)) (eN:R.extract 0 i=n) (eD:R.extract (i+1) R.size=d) (S1:Hid (zbr n true)) (S2:Hid (zbr d true)) (z2:(d.toList==[48])=false) (z1:(n.toList==[48])=false) (o2:(d.toList==[49])=false) (o3:(d.toList != [49])=true) (GC:Hid (zgP n d G)) (q1:(G.toList==[49])=false) (q2:(G.toList != [49])=true) :
  Calls prog 108 #[.string a] w (zab (.tuple #[.bool false,.string ⟨#[]⟩,.string ⟨#[]⟩,.bool false]) w):=by
 have c1:(0:Int)<=(i:Int):=by omega
 have c2:(i:Int)<=(R.size:Int):=by omega
 have c3:(0:Int)<=(i:Int)+1:=by omega
 have c4:(i:Int)+1<=(R.size:Int):=by omega
 exact zQad
def zrj (a R n d G:ByteArray)(i:Nat)(w:World)(h0:(0:Int)<(a.size:Int))(hp:0<a.size)(h1:(((a[0]'hp).toNat:Int)==45)=true)(hle:(1:Int)<=(a.size:Int))(eR:a.extract 1 a.size=R)
  (hi:i<R.size) (hR:R.size<=9223372036854775807) (IX:Hid (zdA R i)) (eN:R.extract 0 i=n) (eD:R.extract (i+1) R.size=d) (S1:Hid (zbr n true)) (S2:Hid (zbr d true)) (z2:(d.toList==[48])=false) (z1:(n.toList==[48])=false) (o2:(d.toList==[49])=false) (o3:(d.toList != [49])=true) (GC:Hid (zgP n d G)) (q1:(G.toList==[49])=true) (q2:(G.toList != [49])=false) :
  Calls prog 108 #[.string a] w (zab (.tuple #[.bool true,.string n,.string d,.bool true]) w):=by
 have c1:(0:Int)<=(i:Int):=by omega
 have c2:(i:Int)<=(R.size:Int):=by omega
 have c3:(0:Int)<=(i:Int)+1:=by omega
 have c4:(i:Int)+1<=(R.size:Int):=by omega
 exact zQad
open Go.RowKit
open Go.Lib (nDigits decDigits)
def zzX (b:ByteArray)(h:zas b=true):(b.toList==[49])=decide (nv b=1)/\(b.toList != [49]) = !decide (nv b=1):=by
 have e:=(zcE b h).1;have:=zgW (nv b);rw[<- e] at this;exact this
def zzY (a:ByteArray):(a.extract 1 a.size).data.toList=a.data.toList.drop 1:=by
 rw[ByteArray.data_extract,Array.toList_extract,List.extract_eq_take_drop,zqaf];rw[List.length_drop,Lib.size_eq];exact zqab _
def zpL (a:ByteArray)(h:∀ (hp:0<a.size),a[0]≠45):zdp a=false/\zdy a=a.data.toList:=by
 have e:zdp a=false:=by
  unfold zdp Lib.hasPrefix;cases hd:a.data.toList with
  | nil=>rfl
  | cons c r =>
   have hp:0<a.size:=by rw[Lib.size_eq,hd];simp
   have h0:=zqR a 0 hp;rw[hd] at h0;have:c=a[0]:=by simpa using h0
   simp only[List.isPrefixOf_cons_cons,Bool.and_eq_false_iff];left;rw[beq_eq_false_iff_ne];intro k;exact h hp (by rw[<- this,<- k])
 refine⟨e,?_⟩;unfold zdy Lib.trimPrefix;unfold zdp at e;rw[e];simp
def zvg (a:ByteArray)(hp:0<a.size)(h:a[0]=45):zdp a=true/\zdy a=(a.extract 1 a.size).data.toList:=by
 have e:zdp a=true:=by
  unfold zdp Lib.hasPrefix;have h0:=zqR a 0 hp;cases hd:a.data.toList with
  | nil=>rw[hd] at h0;simp at h0
  | cons c r =>
   rw[hd] at h0;have:c=a[0]:=by simpa using h0
   rw[this,h];rfl
 refine⟨e,?_⟩;rw[zzY];unfold zdy Lib.trimPrefix;unfold zdp at e;rw[e];simp
def zzZ (s:ByteArray):(⟨s.data.toList.toArray⟩:ByteArray)=s:=by
 apply ByteArray.ext;apply Array.ext';simp
def zvh (a R:ByteArray)(hr:zdy a=R.data.toList)(h:Lib.indexByte R.data.toList 47 = -1):zdC a=false/\zdq a=R/\zdd a=⟨#[49]⟩:=by
 have hc:Lib.cut (zdy a) [47]=(R.data.toList,[],false):=by
  rw[hr];unfold Lib.cut;rw[Lib.index_one,h];rfl
 refine⟨by unfold zdC;rw[hc],?_,by unfold zdd zdC;rw[hc];rfl⟩;unfold zdq;rw[hc]
def zvi (a R:ByteArray)(i:Nat)(hr:zdy a=R.data.toList)(h:Lib.indexByte R.data.toList 47=i):zdC a=true/\zdq a=R.extract 0 i/\zdd a=R.extract (i+1) R.size:=by
 have hc:Lib.cut (zdy a) [47]=(R.data.toList.take i,R.data.toList.drop (i+1),true):=by
  rw[hr];unfold Lib.cut;rw[Lib.index_one,h,if_pos (by omega)];simp
 have e1:=ztn R.data.toList i;have e2:=extract_drop R.data.toList (i+1);rw[zzZ] at e1 e2;refine⟨by unfold zdC;rw[hc],?_,?_⟩;unfold zdq;rw[hc];exact e1.symm;unfold zdd zdC tailA;rw[hc];exact e2.symm
def index_room (s:List UInt8):Lib.indexByte s 47 = -1∨∃ i:Nat,Lib.indexByte s 47=i/\i<s.length:=by
 rw[<- Lib.indexAny_one];rcases zvc s [47] with⟨h,_⟩|⟨i,c,h1,h2,_⟩
 exact .inl h;exact .inr ⟨i,h1,(zqae.1 h2).1⟩
def zpM (a:ByteArray)(w:World)(e:Ending)(w':World):Prop :=
 ((zfe a/\e=.returned (.tuple #[.bool (zdp a),.string (zdq a),.string (zdd a),.bool true]))∨(¬ zfe a/\e=.returned zeD))/\w.grownBy w' none
def ziv {a:ByteArray}{w:World}(h:¬ zfe a){e:Ending}{w':World}(k:zab zeD w e w'):zpM a w e w':=⟨.inr ⟨h,k.1⟩,k.2⟩
def zEU {a:ByteArray}{w:World}(h:zfe a){e:Ending}{w':World}(k:zab (.tuple #[.bool (zdp a),.string (zdq a),.string (zdd a),.bool true]) w e w'):zpM a w e w':=⟨.inl ⟨h,k.1⟩,k.2⟩
def zoB {a:ByteArray}(h:zfe a):zet (zdq a)=true/\zet (zdd a)=true:=by
 unfold zet;rw[h.n,h.d];have:=h.sn;have:=h.sd;simp[*]
def zoC {s:ByteArray}(h:zet s=true):s.size<=400/\zas s=true:=by
 unfold zet at h;simpa using h
def zDe (n d:ByteArray)(hn:zas n=true)(hd:zas d=true):zgP n d (zal (Nat.gcd (nv n) (nv d))):=fun w=>by
 have:=zCQ n d w (zbz hn) (zbz hd);unfold zfh at this;rw[hn,hd] at this;exact this
def ztA (k:Nat):((zal k).toList==[49])=decide (k=1)/\((zal k).toList != [49]) = !decide (k=1):=zgW k
def zlj (a R:ByteArray)(N:Bool)(w:World)(hN:zdp a=N)(hr:zdy a=R.data.toList)(hR:R.size<=maxLen)(hz:Lib.indexByte R.data.toList 47 = -1)
  (B:zbr R false->∀ w,Calls prog 108 #[.string a] w (zab zeD w))
  (Z:N=true->zbr R true->(R.toList==[48])=true->∀ w,Calls prog 108 #[.string a] w (zab zeD w))
  (K:∀ z G,zet R=true->zbr R true->(R.toList==[48])=z->(N=true->z=false)->zgP R ⟨#[49]⟩ G->(G.toList==[49])=true->(G.toList != [49])=false->∀ w,Calls prog 108 #[.string a] w (zab (.tuple #[.bool N,.string R,.string ⟨#[49]⟩,.bool true]) w)) :
  Calls prog 108 #[.string a] w (zpM a w):=by
 obtain⟨e1,e2,e3⟩:=zvh a R hr hz;have S:=fun w=>zkf R w hR;cases hs:zet R
 ·rw[hs] at S
  refine(B S w).mono fun e w' k=>ziv (fun h=>?_) k;have:=(zoB h).1;rw[e2,hs] at this;cases this
 rw[hs] at S;obtain⟨h4,hn⟩:=zoC hs;have hzf:=(zeL R hn).1
 by_cases hb:N=true/\nv R=0
 ·refine(Z hb.1 S (by rw[hzf];simpa using hb.2) w).mono fun e w' k=>ziv (fun h=>?_) k
  have:=(h.z (by rw[e2];exact hb.2)).1;rw[hN,hb.1] at this;cases this
 have G:=zDe R ⟨#[49]⟩ hn (by decide +kernel);have hg:Nat.gcd (nv R) (nv ⟨#[49]⟩)=1:=by rw[show nv ⟨#[49]⟩=1 by decide +kernel,Nat.gcd_one_right]
 rw[hg] at G;have f:=ztA 1;refine(K _ _ hs S rfl (fun hN1=>by rw[hzf];simpa using fun h0=>hb ⟨hN1,h0⟩) G (by simpa using f.1) (by simpa using f.2) w).mono fun e w' k=>?_
 have P:zfe a:=by
  refine⟨by rw[e2];exact hn,by rw[e3];decide +kernel,by rw[e2];exact h4,by rw[e3];decide,by rw[e3];decide +kernel,?_,?_,?_⟩
  ·rw[e2,hN,e1]
   intro h0;refine⟨?_,rfl⟩;cases N;rfl;exact absurd ⟨rfl,h0⟩ hb
  ·intro _;exact e1
  rw[e3];exact .inr (by decide +kernel)
 exact zEU P (by rw[hN,e2,e3];exact k)
def zob (a R:ByteArray)(N:Bool)(i:Nat)(w:World)(hN:zdp a=N)(hr:zdy a=R.data.toList)(hR:R.size<=maxLen)(hz:Lib.indexByte R.data.toList 47=i)(hi:i<R.size)
  (B0:∀ n d,R.extract 0 i=n->R.extract (i+1) R.size=d->zbr n false->∀ w,Calls prog 108 #[.string a] w (zab zeD w))
  (B1:∀ n d,R.extract 0 i=n->R.extract (i+1) R.size=d->zbr n true->zbr d false->∀ w,Calls prog 108 #[.string a] w (zab zeD w))
  (B2:∀ n d,R.extract 0 i=n->R.extract (i+1) R.size=d->zbr n true->zbr d true->(d.toList==[48])=true->∀ w,Calls prog 108 #[.string a] w (zab zeD w))
  (B3:∀ n d,R.extract 0 i=n->R.extract (i+1) R.size=d->zbr n true->zbr d true->(d.toList==[48])=false->(n.toList==[48])=true->∀ w,Calls prog 108 #[.string a] w (zab zeD w))
  (B4:∀ n d,R.extract 0 i=n->R.extract (i+1) R.size=d->zbr n true->zbr d true->(d.toList==[48])=false->(n.toList==[48])=false->(d.toList==[49])=true->∀ w,Calls prog 108 #[.string a] w (zab zeD w))
  (B5:∀ n d G,R.extract 0 i=n->R.extract (i+1) R.size=d->zbr n true->zbr d true->(d.toList==[48])=false->(n.toList==[48])=false->(d.toList==[49])=false->(d.toList != [49])=true->zgP n d G->(G.toList==[49])=false->(G.toList != [49])=true->∀ w,Calls prog 108 #[.string a] w (zab zeD w))
  (K:∀ n d G,R.extract 0 i=n->R.extract (i+1) R.size=d->zbr n true->zbr d true->(d.toList==[48])=false->(n.toList==[48])=false->(d.toList==[49])=false->(d.toList != [49])=true->zgP n d G->(G.toList==[49])=true->(G.toList != [49])=false->∀ w,Calls prog 108 #[.string a] w (zab (.tuple #[.bool N,.string n,.string d,.bool true]) w)) :
  Calls prog 108 #[.string a] w (zpM a w):=by
 obtain⟨e1,e2,e3⟩:=zvi a R i hr hz;have l1:(R.extract 0 i).size<=maxLen:=by rw[ByteArray.size_extract];omega
 have l2:(R.extract (i+1) R.size).size<=maxLen:=by rw[ByteArray.size_extract];omega
 have S1:=fun w=>zkf _ w l1;have S2:=fun w=>zkf _ w l2;obtain⟨n,en⟩:∃ n,R.extract 0 i=n:=⟨_,rfl⟩;obtain⟨d,ed⟩:∃ d,R.extract (i+1) R.size=d:=⟨_,rfl⟩;rw[en] at S1 e2;rw[ed] at S2 e3;cases hs1:zet n
 ·rw[hs1] at S1
  refine(B0 n d en ed S1 w).mono fun e w' k=>ziv (fun h=>?_) k;have:=(zoB h).1;rw[e2,hs1] at this;cases this
 rw[hs1] at S1;cases hs2:zet d
 ·rw[hs2] at S2
  refine(B1 n d en ed S1 S2 w).mono fun e w' k=>ziv (fun h=>?_) k;have:=(zoB h).2;rw[e3,hs2] at this;cases this
 rw[hs2] at S2;obtain⟨n4,nn⟩:=zoC hs1;obtain⟨d4,nd⟩:=zoC hs2;have zn:=(zeL n nn).1;have zd:=(zeL d nd).1;obtain⟨od,od'⟩:=zzX d nd
 by_cases h0:nv d=0
 ·refine(B2 n d en ed S1 S2 (by rw[zd];simpa using h0) w).mono fun e w' k=>ziv (fun h=>?_) k
  exact h.d0 (by rw[e3];exact h0)
 by_cases h1:nv n=0
 ·refine(B3 n d en ed S1 S2 (by rw[zd];simpa using h0) (by rw[zn];simpa using h1) w).mono fun e w' k=>ziv (fun h=>?_) k
  have:=(h.z (by rw[e2];exact h1)).2;rw[e1] at this;cases this
 by_cases h2:nv d=1
 ·refine(B4 n d en ed S1 S2 (by rw[zd];simpa using h0) (by rw[zn];simpa using h1) (by rw[od];simpa using h2) w).mono fun e w' k=>ziv (fun h=>?_) k
  have:=h.one (by rw[e3];exact h2);rw[e1] at this;cases this
 have G:=zDe n d nn nd;have f:=ztA (Nat.gcd (nv n) (nv d))
 by_cases h3:Nat.gcd (nv n) (nv d)=1
 ·refine(K n d _ en ed S1 S2 (by rw[zd];simpa using h0) (by rw[zn];simpa using h1) (by rw[od];simpa using h2) (by rw[od'];simpa using h2) G (by rw[f.1];simpa using h3) (by rw[f.2];simpa using h3) w).mono fun e w' k=>?_
  have P:zfe a:=by
   refine⟨by rw[e2];exact nn,by rw[e3];exact nd,by rw[e2];exact n4,by rw[e3];exact d4,by rw[e3];exact h0,?_,?_,?_⟩;rw[e2];intro h;exact absurd h h1;rw[e3];intro h;exact absurd h h2;rw[e2,e3];exact .inl h3
  exact zEU P (by rw[hN,e2,e3];exact k)
 refine(B5 n d _ en ed S1 S2 (by rw[zd];simpa using h0) (by rw[zn];simpa using h1) (by rw[od];simpa using h2) (by rw[od'];simpa using h2) G (by rw[f.1];simpa using h3) (by rw[f.2];simpa using h3) w).mono fun e w' k=>ziv (fun h=>?_) k;have:=h.gcd;rw[e2,e3] at this;exact h3 this
def zpN (a:ByteArray)(w:World)(ha:a.size<=maxLen):Calls prog 108 #[.string a] w (zpM a w):=by
 have hm:=ha;unfold maxLen at hm;have one:zbr ⟨#[49]⟩ true:=fun w=>by have:=zkf ⟨#[49]⟩ w (by decide);rw[show zet ⟨#[49]⟩=true by decide +kernel] at this;exact this
 have ix:∀ (R:ByteArray) (z:Int),R.size<=maxLen->Lib.indexByte R.data.toList 47=z->zdA R z:=fun R z h e w=>by rw[<- e];exact zxj R w h
 by_cases hp:0<a.size
 ·cases h45:(((a[0]'hp).toNat:Int)==45)
  ·have hne:a[0]≠45:=by intro e;rw[e] at h45;exact absurd h45 (by decide)
   obtain⟨hN,hr⟩:=zpL a (fun _=>hne);rcases index_room a.data.toList with hz|⟨i,hz,hi⟩
   ·have I:=zHd (ix a _ ha hz)
    refine zlj a a false w hN hr ha hz ?_ ?_ ?_;exact fun S w=>zqT a a ⟨#[]⟩ w (by omega) hp h45 rfl I (zHd S)
    ·intro h;cases h
    intro z G _ S hzz _ GC q1 q2 w;cases z;exact zpJ a a G w (by omega) hp h45 rfl I (zHd S) (zHd one) hzz (zHd GC) q1 q2;exact zpI a a G w (by omega) hp h45 rfl I (zHd S) (zHd one) hzz (zHd GC) q1 q2
   have I:=zHd (ix a _ ha hz);have hi':i<a.size:=(by rw[Lib.size_eq];exact hi);refine zob a a false i w hN hr ha hz hi' ?_ ?_ ?_ ?_ ?_ ?_ ?_;exact fun n d en ed S1 w=>zqW a a n d ⟨#[]⟩ i w (by omega) hp h45 rfl hi' hm I en ed (zHd S1);exact fun n d en ed S1 S2 w=>zqX a a n d ⟨#[]⟩ i w (by omega) hp h45 rfl hi' hm I en ed (zHd S1) (zHd S2);exact fun n d en ed S1 S2 f w=>zqY a a n d ⟨#[]⟩ i w (by omega) hp h45 rfl hi' hm I en ed (zHd S1) (zHd S2) f;exact fun n d en ed S1 S2 f g w=>zqZ a a n d ⟨#[]⟩ i w (by omega) hp h45 rfl hi' hm I en ed (zHd S1) (zHd S2) f g;exact fun n d en ed S1 S2 f g h w=>zra a a n d ⟨#[]⟩ i w (by omega) hp h45 rfl hi' hm I en ed (zHd S1) (zHd S2) f g h;exact fun n d G en ed S1 S2 f g h h' GC q1 q2 w=>zrb a a n d G i w (by omega) hp h45 rfl hi' hm I en ed (zHd S1) (zHd S2) f g h h' (zHd GC) q1 q2;exact fun n d G en ed S1 S2 f g h h' GC q1 q2 w=>zrc a a n d G i w (by omega) hp h45 rfl hi' hm I en ed (zHd S1) (zHd S2) f g h h' (zHd GC) q1 q2
  have he:a[0]=45:=UInt8.toNat_inj.1 (by
   have h2:((a[0]'hp).toNat:Int)=45:=(by simpa using h45);have:(45:UInt8).toNat=45:=rfl;omega)
  obtain⟨hN,hr⟩:=zvg a hp he;obtain⟨R,eR⟩:∃ R,a.extract 1 a.size=R:=⟨_,rfl⟩;have hR:R.size<=maxLen:=by rw[<- eR,ByteArray.size_extract];omega
  have hmR:=hR;unfold maxLen at hmR;rw[eR] at hr;rcases index_room R.data.toList with hz|⟨i,hz,hi⟩
  ·have I:=zHd (ix R _ hR hz)
   refine zlj a R true w hN hr hR hz ?_ ?_ ?_;exact fun S w=>zqU a R ⟨#[]⟩ w (by omega) hp h45 (by omega) eR I (zHd S);exact fun _ S z w=>zqV a R ⟨#[]⟩ w (by omega) hp h45 (by omega) eR I (zHd S) (zHd one) z;intro z G _ S hzz hzn GC q1 q2 w;have:=hzn rfl;subst this;exact zpK a R G w (by omega) hp h45 (by omega) eR I (zHd S) (zHd one) hzz (zHd GC) q1 q2
  have I:=zHd (ix R _ hR hz);have hi':i<R.size:=(by rw[Lib.size_eq];exact hi);refine zob a R true i w hN hr hR hz hi' ?_ ?_ ?_ ?_ ?_ ?_ ?_;exact fun n d en ed S1 w=>zrd a R n d ⟨#[]⟩ i w (by omega) hp h45 (by omega) eR hi' hmR I en ed (zHd S1);exact fun n d en ed S1 S2 w=>zre a R n d ⟨#[]⟩ i w (by omega) hp h45 (by omega) eR hi' hmR I en ed (zHd S1) (zHd S2);exact fun n d en ed S1 S2 f w=>zrf a R n d ⟨#[]⟩ i w (by omega) hp h45 (by omega) eR hi' hmR I en ed (zHd S1) (zHd S2) f;exact fun n d en ed S1 S2 f g w=>zrg a R n d ⟨#[]⟩ i w (by omega) hp h45 (by omega) eR hi' hmR I en ed (zHd S1) (zHd S2) f g;exact fun n d en ed S1 S2 f g h w=>zrh a R n d ⟨#[]⟩ i w (by omega) hp h45 (by omega) eR hi' hmR I en ed (zHd S1) (zHd S2) f g h;exact fun n d G en ed S1 S2 f g h h' GC q1 q2 w=>zri a R n d G i w (by omega) hp h45 (by omega) eR hi' hmR I en ed (zHd S1) (zHd S2) f g h h' (zHd GC) q1 q2;exact fun n d G en ed S1 S2 f g h h' GC q1 q2 w=>zrj a R n d G i w (by omega) hp h45 (by omega) eR hi' hmR I en ed (zHd S1) (zHd S2) f g h h' (zHd GC) q1 q2
 have h0:a.size=0:=by omega
 obtain⟨hN,hr⟩:=zpL a (fun h=>absurd h hp)
 have e0:a=⟨#[]⟩:=by
  cases a with
  | mk d=>congr 1;exact Array.eq_empty_of_size_eq_zero h0
 have hz:Lib.indexByte a.data.toList 47 = -1:=by rw[e0];rfl
 have I:=zHd (ix a _ ha hz);refine zlj a a false w hN hr ha hz ?_ ?_ ?_;exact fun S w=>zqS a a ⟨#[]⟩ w (by omega) rfl I (zHd S)
 ·intro h;cases h
 intro z G hs _ _ _ _ _ _ w;rw[e0] at hs;exact absurd hs (by decide +kernel)
def zxk {a:ByteArray}{x:Rat}(h:zaM a x)(w:World):Calls prog 108 #[.string a] w (zab (zzx x) w):=by
 refine(zpN a w (zji h)).mono ?_;rintro e w' ⟨⟨_,k⟩|⟨k,_⟩,hg⟩
 ·obtain⟨p1,p2,p3,_⟩:=apart a x h.eq
  rw[p1,p2,p3] at k;exact⟨k,hg⟩
 exact absurd (zlW h) k
def zAa {a:ByteArray}(h:zeN a)(ha:a.size<=maxLen)(w:World):Calls prog 108 #[.string a] w (zab zeD w):=by
 refine(zpN a w ha).mono ?_;rintro e w' ⟨⟨k,_⟩|⟨_,k⟩,hg⟩;exact absurd (zyR k) (h _);exact⟨k,hg⟩
open Go.RowKit
def fnV (F:Nat):Value:=.func (.func F) #[] #[]
def zdM:Array Value:=#[.string ⟨#[]⟩,.string ⟨#[]⟩,fnV 91,fnV 91,.nilFunc,.nilFunc,.nilFunc,.nilFunc,.nilFunc]
def zdN:Array Value:=#[.string zcU,.string zcD,fnV 92,fnV 93,fnV 94,fnV 95,fnV 96,fnV 97,fnV 98]
def zdO:Array Value:=#[.string zcD,.string zle,fnV 99,fnV 100,fnV 101,fnV 102,fnV 103,fnV 104,fnV 105]
def zdP:Array Value:=#[.string zcD,.string zle,fnV 99,fnV 100,fnV 106,fnV 102,fnV 107,fnV 104,fnV 105]
def zbo:Array Value:=zdM++zdN++zdO++zdP
def zdZ:Array Value:=#[.string ⟨#[]⟩,.string ⟨#[]⟩,.nilFunc,.nilFunc,.nilFunc,.nilFunc,.nilFunc,.nilFunc,.nilFunc]
def zeg:Array Value:=zdZ++zdZ++zdZ++zdZ
def zaK (k:Int):Array Value:=if k=1 then zdN else if k=2 then zdO else if k=3 then zdP else zdM
def zxl (k:Int):Value:=.agg (zaK k)
def zkI (j:Nat)(hj:j<4)(i:Nat)(v:Value)(h:(zaK j).toList[i]?=some v):zbo[j*9+i]?=some v:=by
 have h4:j=0∨j=1∨j=2∨j=3:=by omega
 have hi:i<9:=by
  have h1:=(zqae.1 h).1;rcases h4 with rfl|rfl|rfl|rfl <;> exact h1
 have h9:i=0∨i=1∨i=2∨i=3∨i=4∨i=5∨i=6∨i=7∨i=8:=by omega
 rcases h4 with rfl|rfl|rfl|rfl <;> rcases h9 with rfl|rfl|rfl|rfl|rfl|rfl|rfl|rfl|rfl <;> exact h
def zhc (o:Oper)(ho:o.op=.alloc 123)(ρ:Operand->Value)(w:World){g:Nat}(hg:w.heap.size=g):(execOp ρ o).run prog w=.ok (.value (.pointer (some ⟨g,0,none⟩))) (w.alloc (.cells zeg 123)):=by
 subst hg;obtain⟨d,p,t,q,af,gd⟩:=o;cases ho
 kernel_rfl
def zjj (o:Oper)(x y:Operand)(ho:o.op=.indexAddr 123 x y)(ρ:Operand->Value)(w:World)(g:Nat)(j:Nat)(hj:j<4)(hx:ρ x=.pointer (some ⟨g,0,none⟩))(hy:ρ y=.int .i64 j) :
  (execOp ρ o).run prog w=.ok (.value (.pointer (some ⟨g,j*9,none⟩))) w:=by
 obtain⟨d,p,t,q,af,gd⟩:=o;cases ho;unfold execOp;dsimp only;rw[hx,hy];have h4:j=0∨j=1∨j=2∨j=3:=by omega
 rcases h4 with rfl|rfl|rfl|rfl <;> exact rfl
def zhd {w w1:World}{g:Nat}{cs:Array Value}(h:w.grownBy w1 none)(hg:w.heap.size<=g):w.grownBy (w1.setRow g cs) none :=
 ⟨h.1,h.2,h.3,by rw[setRow_size];exact h.4,fun k hk hn=>by rw[setRow_other _ _ _ _ (by omega)];exact h.5 k hk hn⟩
def zHa (w:World):Calls prog 66 #[.int .i64 1] w (zab (.agg (zaK 1)) w):=by
 go_enter func66,ntmps66;go_upto_region 1 with(fail)
 rename_i K hK
 generalize hW:w.alloc (.cells #[.string ⟨#[]⟩,.string ⟨#[]⟩,.nilFunc,.nilFunc,.nilFunc,.nilFunc,.nilFunc,.nilFunc,.nilFunc] 101)=W at *;have h1:W.heap[w.heap.size]?=some (.cells zdZ 101 (0,0)):=by subst hW;exact zaG _ _
 have h2:w.grownBy W none:=by subst hW;exact zGA _ _ none
 have h3:W.heap.size=w.heap.size+1:=by subst hW;simp
 clear hW;apply wp_region_lit;refine wpList_buildTo rfl 101 _ rfl (some 4) rfl zdM (by as_aux_lemma=>kernel_rfl) ?_;refine wpList_buildTo rfl 101 _ rfl (some 5) rfl zdN (by as_aux_lemma=>kernel_rfl) ?_;refine wpList_buildTo rfl 101 _ rfl (some 6) rfl zdO (by as_aux_lemma=>kernel_rfl) ?_;refine wpList_buildTo rfl 101 _ rfl (some 7) rfl zdP (by as_aux_lemma=>kernel_rfl) ?_;refine wpList_buildTo rfl 123 _ rfl (some 8) rfl zbo (by as_aux_lemma=>kernel_rfl) ?_;refine Great.wpList_allocTo rfl (some 3) rfl (.pointer (some ⟨w.heap.size+1,0,none⟩)) (.cells zeg 123) ?_ ?_;exact zhc _ rfl _ _ h3;refine wpList_store_rowTo rfl 123 _ _ rfl rfl (w.heap.size+1) zbo ?_ ?_ 123 zeg ?_ ?_ ?_ ?_ ?_;exact Act.eval_put_same _ 3 _ (by simp[Act.size_put]);exact(Act.eval_put_ne _ 3 8 _ (by decide)).trans (Act.eval_put_same _ 8 _ (by simp[Act.size_put]));exact zes _ _ _ h3.symm
 ·as_aux_lemma=>kernel_rfl
 ·as_aux_lemma=>kernel_rfl
 ·as_aux_lemma=>kernel_rfl
 refine wpList_nil (hK _ _ ?_);have e1:(W.alloc (.cells zeg 123)).setRow (w.heap.size+1) zbo=W.alloc (.cells zbo 123):=by rw[<- h3];exact World.setRow_alloc_new _ _ _ _
 rw[e1];change Code.wp _ _ _ ⟨#[.int .i64 1,undef,.pointer (some ⟨w.heap.size,0,none⟩),.pointer (some ⟨w.heap.size+1,0,none⟩),.agg zdM,.agg zdN,.agg zdO,.agg zdP,.agg zbo,undef,undef,undef,undef,undef,undef,undef,undef,undef],[]⟩ _;clear hK;go_upto_region 4 with(fail)
 rename_i K2 hK2
 apply wp_region_lit;refine Great.wpList_readTo rfl (some 15) rfl (.int .i64 1) rfl ?_;refine Great.wpList_readTo rfl (some 16) rfl (.pointer (some ⟨w.heap.size+1,1*9,none⟩)) ?_ ?_;exact zjj _ (.tmp 3) (.tmp 15) rfl _ _ _ 1 (by decide) rfl rfl;refine wpList_load_mid rfl 101 _ rfl (w.heap.size+1) (1*9) rfl (zaK 1).toList _ ?_ underlying101 rfl (by as_aux_lemma=>kernel_rfl) ?_
 ·intro i v hv
  rw[<- h3,zqbw _ _ _ _ _ (0,0) (zaG _ _)];exact zkI 1 (by decide) i v hv
 refine wpList_store_rowTo rfl 101 _ _ rfl rfl w.heap.size (zaK 1) rfl rfl 101 zdZ ?_ ?_ ?_ ?_ ?_;exact(zcp _ _ _ (by omega)).trans h1
 ·as_aux_lemma=>kernel_rfl
 ·as_aux_lemma=>kernel_rfl
 ·as_aux_lemma=>kernel_rfl
 refine wpList_nil (hK2 _ _ ?_);clear hK2
 have hb:((W.alloc (.cells zbo 123)).setRow w.heap.size (zaK 1)).heap[w.heap.size]?=some (.cells (zaK 1) 101 (0,0)) :=
  setRow_heap _ _ _ _ _ _ ((zcp _ _ _ (by omega)).trans h1)
 have hg:w.grownBy ((W.alloc (.cells zbo 123)).setRow w.heap.size (zaK 1)) none :=
  zhd (zaa h2 (zGA _ _ none)) (zqab _)
 generalize (W.alloc (.cells zbo 123)).setRow w.heap.size (zaK 1)=W2 at *;change Code.wp _ _ _ ⟨#[.int .i64 1,undef,.pointer (some ⟨w.heap.size,0,none⟩),.pointer (some ⟨w.heap.size+1,0,none⟩),.agg zdM,.agg zdN,.agg zdO,.agg zdP,.agg zbo,_,_,_,_,_,_,.int .i64 1,.pointer (some ⟨w.heap.size+1,1*9,none⟩),.agg (zaK 1)],[]⟩ _;go_wp2;have hl:=run_loadVar_row (P:=prog) W2 w.heap.size 101 101 (zaK 1) (0,0) _ hb underlying101 rfl (by as_aux_lemma=>kernel_rfl);refine zqby (v:=.agg (zaK 1)) ?_ rfl ⟨rfl,hg⟩;exact zQbW
def zHb (w:World):Calls prog 66 #[.int .i64 2] w (zab (.agg (zaK 2)) w):=by
 go_enter func66,ntmps66;go_upto_region 1 with(fail)
 rename_i K hK
 generalize hW:w.alloc (.cells #[.string ⟨#[]⟩,.string ⟨#[]⟩,.nilFunc,.nilFunc,.nilFunc,.nilFunc,.nilFunc,.nilFunc,.nilFunc] 101)=W at *;have h1:W.heap[w.heap.size]?=some (.cells zdZ 101 (0,0)):=by subst hW;exact zaG _ _
 have h2:w.grownBy W none:=by subst hW;exact zGA _ _ none
 have h3:W.heap.size=w.heap.size+1:=by subst hW;simp
 clear hW;apply wp_region_lit;refine wpList_buildTo rfl 101 _ rfl (some 4) rfl zdM (by as_aux_lemma=>kernel_rfl) ?_;refine wpList_buildTo rfl 101 _ rfl (some 5) rfl zdN (by as_aux_lemma=>kernel_rfl) ?_;refine wpList_buildTo rfl 101 _ rfl (some 6) rfl zdO (by as_aux_lemma=>kernel_rfl) ?_;refine wpList_buildTo rfl 101 _ rfl (some 7) rfl zdP (by as_aux_lemma=>kernel_rfl) ?_;refine wpList_buildTo rfl 123 _ rfl (some 8) rfl zbo (by as_aux_lemma=>kernel_rfl) ?_;refine Great.wpList_allocTo rfl (some 3) rfl (.pointer (some ⟨w.heap.size+1,0,none⟩)) (.cells zeg 123) ?_ ?_;exact zhc _ rfl _ _ h3;refine wpList_store_rowTo rfl 123 _ _ rfl rfl (w.heap.size+1) zbo ?_ ?_ 123 zeg ?_ ?_ ?_ ?_ ?_;exact Act.eval_put_same _ 3 _ (by simp[Act.size_put]);exact(Act.eval_put_ne _ 3 8 _ (by decide)).trans (Act.eval_put_same _ 8 _ (by simp[Act.size_put]));exact zes _ _ _ h3.symm
 ·as_aux_lemma=>kernel_rfl
 ·as_aux_lemma=>kernel_rfl
 ·as_aux_lemma=>kernel_rfl
 refine wpList_nil (hK _ _ ?_);have e1:(W.alloc (.cells zeg 123)).setRow (w.heap.size+1) zbo=W.alloc (.cells zbo 123):=by rw[<- h3];exact World.setRow_alloc_new _ _ _ _
 rw[e1];change Code.wp _ _ _ ⟨#[.int .i64 2,undef,.pointer (some ⟨w.heap.size,0,none⟩),.pointer (some ⟨w.heap.size+1,0,none⟩),.agg zdM,.agg zdN,.agg zdO,.agg zdP,.agg zbo,undef,undef,undef,undef,undef,undef,undef,undef,undef],[]⟩ _;clear hK;go_upto_region 4 with(fail)
 rename_i K2 hK2
 apply wp_region_lit;refine Great.wpList_readTo rfl (some 15) rfl (.int .i64 2) rfl ?_;refine Great.wpList_readTo rfl (some 16) rfl (.pointer (some ⟨w.heap.size+1,2*9,none⟩)) ?_ ?_;exact zjj _ (.tmp 3) (.tmp 15) rfl _ _ _ 2 (by decide) rfl rfl;refine wpList_load_mid rfl 101 _ rfl (w.heap.size+1) (2*9) rfl (zaK 2).toList _ ?_ underlying101 rfl (by as_aux_lemma=>kernel_rfl) ?_
 ·intro i v hv
  rw[<- h3,zqbw _ _ _ _ _ (0,0) (zaG _ _)];exact zkI 2 (by decide) i v hv
 refine wpList_store_rowTo rfl 101 _ _ rfl rfl w.heap.size (zaK 2) rfl rfl 101 zdZ ?_ ?_ ?_ ?_ ?_;exact(zcp _ _ _ (by omega)).trans h1
 ·as_aux_lemma=>kernel_rfl
 ·as_aux_lemma=>kernel_rfl
 ·as_aux_lemma=>kernel_rfl
 refine wpList_nil (hK2 _ _ ?_);clear hK2
 have hb:((W.alloc (.cells zbo 123)).setRow w.heap.size (zaK 2)).heap[w.heap.size]?=some (.cells (zaK 2) 101 (0,0)) :=
  setRow_heap _ _ _ _ _ _ ((zcp _ _ _ (by omega)).trans h1)
 have hg:w.grownBy ((W.alloc (.cells zbo 123)).setRow w.heap.size (zaK 2)) none :=
  zhd (zaa h2 (zGA _ _ none)) (zqab _)
 generalize (W.alloc (.cells zbo 123)).setRow w.heap.size (zaK 2)=W2 at *;change Code.wp _ _ _ ⟨#[.int .i64 2,undef,.pointer (some ⟨w.heap.size,0,none⟩),.pointer (some ⟨w.heap.size+1,0,none⟩),.agg zdM,.agg zdN,.agg zdO,.agg zdP,.agg zbo,_,_,_,_,_,_,.int .i64 2,.pointer (some ⟨w.heap.size+1,2*9,none⟩),.agg (zaK 2)],[]⟩ _;go_wp2;have hl:=run_loadVar_row (P:=prog) W2 w.heap.size 101 101 (zaK 2) (0,0) _ hb underlying101 rfl (by as_aux_lemma=>kernel_rfl);refine zqby (v:=.agg (zaK 2)) ?_ rfl ⟨rfl,hg⟩;exact zQbW
def zDf (w:World):Calls prog 66 #[.int .i64 3] w (zab (.agg (zaK 3)) w):=by
 go_enter func66,ntmps66;go_upto_region 1 with(fail)
 rename_i K hK
 generalize hW:w.alloc (.cells #[.string ⟨#[]⟩,.string ⟨#[]⟩,.nilFunc,.nilFunc,.nilFunc,.nilFunc,.nilFunc,.nilFunc,.nilFunc] 101)=W at *;have h1:W.heap[w.heap.size]?=some (.cells zdZ 101 (0,0)):=by subst hW;exact zaG _ _
 have h2:w.grownBy W none:=by subst hW;exact zGA _ _ none
 have h3:W.heap.size=w.heap.size+1:=by subst hW;simp
 clear hW;apply wp_region_lit;refine wpList_buildTo rfl 101 _ rfl (some 4) rfl zdM (by as_aux_lemma=>kernel_rfl) ?_;refine wpList_buildTo rfl 101 _ rfl (some 5) rfl zdN (by as_aux_lemma=>kernel_rfl) ?_;refine wpList_buildTo rfl 101 _ rfl (some 6) rfl zdO (by as_aux_lemma=>kernel_rfl) ?_;refine wpList_buildTo rfl 101 _ rfl (some 7) rfl zdP (by as_aux_lemma=>kernel_rfl) ?_;refine wpList_buildTo rfl 123 _ rfl (some 8) rfl zbo (by as_aux_lemma=>kernel_rfl) ?_;refine Great.wpList_allocTo rfl (some 3) rfl (.pointer (some ⟨w.heap.size+1,0,none⟩)) (.cells zeg 123) ?_ ?_;exact zhc _ rfl _ _ h3;refine wpList_store_rowTo rfl 123 _ _ rfl rfl (w.heap.size+1) zbo ?_ ?_ 123 zeg ?_ ?_ ?_ ?_ ?_;exact Act.eval_put_same _ 3 _ (by simp[Act.size_put]);exact(Act.eval_put_ne _ 3 8 _ (by decide)).trans (Act.eval_put_same _ 8 _ (by simp[Act.size_put]));exact zes _ _ _ h3.symm
 ·as_aux_lemma=>kernel_rfl
 ·as_aux_lemma=>kernel_rfl
 ·as_aux_lemma=>kernel_rfl
 refine wpList_nil (hK _ _ ?_);have e1:(W.alloc (.cells zeg 123)).setRow (w.heap.size+1) zbo=W.alloc (.cells zbo 123):=by rw[<- h3];exact World.setRow_alloc_new _ _ _ _
 rw[e1];change Code.wp _ _ _ ⟨#[.int .i64 3,undef,.pointer (some ⟨w.heap.size,0,none⟩),.pointer (some ⟨w.heap.size+1,0,none⟩),.agg zdM,.agg zdN,.agg zdO,.agg zdP,.agg zbo,undef,undef,undef,undef,undef,undef,undef,undef,undef],[]⟩ _;clear hK;go_upto_region 4 with(fail)
 rename_i K2 hK2
 apply wp_region_lit;refine Great.wpList_readTo rfl (some 15) rfl (.int .i64 3) rfl ?_;refine Great.wpList_readTo rfl (some 16) rfl (.pointer (some ⟨w.heap.size+1,3*9,none⟩)) ?_ ?_;exact zjj _ (.tmp 3) (.tmp 15) rfl _ _ _ 3 (by decide) rfl rfl;refine wpList_load_mid rfl 101 _ rfl (w.heap.size+1) (3*9) rfl (zaK 3).toList _ ?_ underlying101 rfl (by as_aux_lemma=>kernel_rfl) ?_
 ·intro i v hv
  rw[<- h3,zqbw _ _ _ _ _ (0,0) (zaG _ _)];exact zkI 3 (by decide) i v hv
 refine wpList_store_rowTo rfl 101 _ _ rfl rfl w.heap.size (zaK 3) rfl rfl 101 zdZ ?_ ?_ ?_ ?_ ?_;exact(zcp _ _ _ (by omega)).trans h1
 ·as_aux_lemma=>kernel_rfl
 ·as_aux_lemma=>kernel_rfl
 ·as_aux_lemma=>kernel_rfl
 refine wpList_nil (hK2 _ _ ?_);clear hK2
 have hb:((W.alloc (.cells zbo 123)).setRow w.heap.size (zaK 3)).heap[w.heap.size]?=some (.cells (zaK 3) 101 (0,0)) :=
  setRow_heap _ _ _ _ _ _ ((zcp _ _ _ (by omega)).trans h1)
 have hg:w.grownBy ((W.alloc (.cells zbo 123)).setRow w.heap.size (zaK 3)) none :=
  zhd (zaa h2 (zGA _ _ none)) (zqab _)
 generalize (W.alloc (.cells zbo 123)).setRow w.heap.size (zaK 3)=W2 at *;change Code.wp _ _ _ ⟨#[.int .i64 3,undef,.pointer (some ⟨w.heap.size,0,none⟩),.pointer (some ⟨w.heap.size+1,0,none⟩),.agg zdM,.agg zdN,.agg zdO,.agg zdP,.agg zbo,_,_,_,_,_,_,.int .i64 3,.pointer (some ⟨w.heap.size+1,3*9,none⟩),.agg (zaK 3)],[]⟩ _;go_wp2;have hl:=run_loadVar_row (P:=prog) W2 w.heap.size 101 101 (zaK 3) (0,0) _ hb underlying101 rfl (by as_aux_lemma=>kernel_rfl);refine zqby (v:=.agg (zaK 3)) ?_ rfl ⟨rfl,hg⟩;exact zQbW
def zFM (w:World):Calls prog 66 #[.int .i64 0] w (zab (.agg (zaK 0)) w):=by
 go_enter func66,ntmps66;go_upto_region 1 with(fail)
 rename_i K hK
 generalize hW:w.alloc (.cells #[.string ⟨#[]⟩,.string ⟨#[]⟩,.nilFunc,.nilFunc,.nilFunc,.nilFunc,.nilFunc,.nilFunc,.nilFunc] 101)=W at *;have h1:W.heap[w.heap.size]?=some (.cells zdZ 101 (0,0)):=by subst hW;exact zaG _ _
 have h2:w.grownBy W none:=by subst hW;exact zGA _ _ none
 have h3:W.heap.size=w.heap.size+1:=by subst hW;simp
 clear hW;apply wp_region_lit;refine wpList_buildTo rfl 101 _ rfl (some 4) rfl zdM (by as_aux_lemma=>kernel_rfl) ?_;refine wpList_buildTo rfl 101 _ rfl (some 5) rfl zdN (by as_aux_lemma=>kernel_rfl) ?_;refine wpList_buildTo rfl 101 _ rfl (some 6) rfl zdO (by as_aux_lemma=>kernel_rfl) ?_;refine wpList_buildTo rfl 101 _ rfl (some 7) rfl zdP (by as_aux_lemma=>kernel_rfl) ?_;refine wpList_buildTo rfl 123 _ rfl (some 8) rfl zbo (by as_aux_lemma=>kernel_rfl) ?_;refine Great.wpList_allocTo rfl (some 3) rfl (.pointer (some ⟨w.heap.size+1,0,none⟩)) (.cells zeg 123) ?_ ?_;exact zhc _ rfl _ _ h3;refine wpList_store_rowTo rfl 123 _ _ rfl rfl (w.heap.size+1) zbo ?_ ?_ 123 zeg ?_ ?_ ?_ ?_ ?_;exact Act.eval_put_same _ 3 _ (by simp[Act.size_put]);exact(Act.eval_put_ne _ 3 8 _ (by decide)).trans (Act.eval_put_same _ 8 _ (by simp[Act.size_put]));exact zes _ _ _ h3.symm
 ·as_aux_lemma=>kernel_rfl
 ·as_aux_lemma=>kernel_rfl
 ·as_aux_lemma=>kernel_rfl
 refine wpList_nil (hK _ _ ?_);have e1:(W.alloc (.cells zeg 123)).setRow (w.heap.size+1) zbo=W.alloc (.cells zbo 123):=by rw[<- h3];exact World.setRow_alloc_new _ _ _ _
 rw[e1];change Code.wp _ _ _ ⟨#[.int .i64 0,undef,.pointer (some ⟨w.heap.size,0,none⟩),.pointer (some ⟨w.heap.size+1,0,none⟩),.agg zdM,.agg zdN,.agg zdO,.agg zdP,.agg zbo,undef,undef,undef,undef,undef,undef,undef,undef,undef],[]⟩ _;clear hK;go_upto_region 4 with(fail)
 rename_i K2 hK2
 apply wp_region_lit;refine Great.wpList_readTo rfl (some 15) rfl (.int .i64 0) rfl ?_;refine Great.wpList_readTo rfl (some 16) rfl (.pointer (some ⟨w.heap.size+1,0*9,none⟩)) ?_ ?_;exact zjj _ (.tmp 3) (.tmp 15) rfl _ _ _ 0 (by decide) rfl rfl;refine wpList_load_mid rfl 101 _ rfl (w.heap.size+1) (0*9) rfl (zaK 0).toList _ ?_ underlying101 rfl (by as_aux_lemma=>kernel_rfl) ?_
 ·intro i v hv
  exact zQbz
 refine wpList_store_rowTo rfl 101 _ _ rfl rfl w.heap.size (zaK 0) rfl rfl 101 zdZ ?_ ?_ ?_ ?_ ?_;exact(zcp _ _ _ (by omega)).trans h1
 ·as_aux_lemma=>kernel_rfl
 ·as_aux_lemma=>kernel_rfl
 ·as_aux_lemma=>kernel_rfl
 refine wpList_nil (hK2 _ _ ?_);clear hK2
 have hb:((W.alloc (.cells zbo 123)).setRow w.heap.size (zaK 0)).heap[w.heap.size]?=some (.cells (zaK 0) 101 (0,0)) :=
  setRow_heap _ _ _ _ _ _ ((zcp _ _ _ (by omega)).trans h1)
 have hg:w.grownBy ((W.alloc (.cells zbo 123)).setRow w.heap.size (zaK 0)) none :=
  zhd (zaa h2 (zGA _ _ none)) (zqab _)
 exact zQal
def of_low (w:World)(k:Int)(h:k<0):Calls prog 66 #[.int .i64 k] w (zab (.agg (zaK 0)) w):=by
 go_enter func66,ntmps66;go_upto_region 1 with(fail)
 rename_i K hK
 generalize hW:w.alloc (.cells #[.string ⟨#[]⟩,.string ⟨#[]⟩,.nilFunc,.nilFunc,.nilFunc,.nilFunc,.nilFunc,.nilFunc,.nilFunc] 101)=W at *;have h1:W.heap[w.heap.size]?=some (.cells zdZ 101 (0,0)):=by subst hW;exact zaG _ _
 have h2:w.grownBy W none:=by subst hW;exact zGA _ _ none
 have h3:W.heap.size=w.heap.size+1:=by subst hW;simp
 clear hW;apply wp_region_lit;refine wpList_buildTo rfl 101 _ rfl (some 4) rfl zdM (by as_aux_lemma=>kernel_rfl) ?_;refine wpList_buildTo rfl 101 _ rfl (some 5) rfl zdN (by as_aux_lemma=>kernel_rfl) ?_;refine wpList_buildTo rfl 101 _ rfl (some 6) rfl zdO (by as_aux_lemma=>kernel_rfl) ?_;refine wpList_buildTo rfl 101 _ rfl (some 7) rfl zdP (by as_aux_lemma=>kernel_rfl) ?_;refine wpList_buildTo rfl 123 _ rfl (some 8) rfl zbo (by as_aux_lemma=>kernel_rfl) ?_;refine Great.wpList_allocTo rfl (some 3) rfl (.pointer (some ⟨w.heap.size+1,0,none⟩)) (.cells zeg 123) ?_ ?_;exact zhc _ rfl _ _ h3;refine wpList_store_rowTo rfl 123 _ _ rfl rfl (w.heap.size+1) zbo ?_ ?_ 123 zeg ?_ ?_ ?_ ?_ ?_;exact Act.eval_put_same _ 3 _ (by simp[Act.size_put]);exact(Act.eval_put_ne _ 3 8 _ (by decide)).trans (Act.eval_put_same _ 8 _ (by simp[Act.size_put]));exact zes _ _ _ h3.symm
 ·as_aux_lemma=>kernel_rfl
 ·as_aux_lemma=>kernel_rfl
 ·as_aux_lemma=>kernel_rfl
 refine wpList_nil (hK _ _ ?_);have e1:(W.alloc (.cells zeg 123)).setRow (w.heap.size+1) zbo=W.alloc (.cells zbo 123):=by rw[<- h3];exact World.setRow_alloc_new _ _ _ _
 rw[e1];change Code.wp _ _ _ ⟨#[.int .i64 k,undef,.pointer (some ⟨w.heap.size,0,none⟩),.pointer (some ⟨w.heap.size+1,0,none⟩),.agg zdM,.agg zdN,.agg zdO,.agg zdP,.agg zbo,undef,undef,undef,undef,undef,undef,undef,undef,undef],[]⟩ _;clear hK;go_upto_region 4 with(fail)
 rename_i K2 hK2
 apply wp_region_lit;refine Great.wpList_readTo rfl (some 15) rfl (.int .i64 0) rfl ?_;refine Great.wpList_readTo rfl (some 16) rfl (.pointer (some ⟨w.heap.size+1,0*9,none⟩)) ?_ ?_;exact zjj _ (.tmp 3) (.tmp 15) rfl _ _ _ 0 (by decide) rfl rfl;refine wpList_load_mid rfl 101 _ rfl (w.heap.size+1) (0*9) rfl (zaK 0).toList _ ?_ underlying101 rfl (by as_aux_lemma=>kernel_rfl) ?_
 ·intro i v hv
  exact zQbz
 refine wpList_store_rowTo rfl 101 _ _ rfl rfl w.heap.size (zaK 0) rfl rfl 101 zdZ ?_ ?_ ?_ ?_ ?_;exact(zcp _ _ _ (by omega)).trans h1
 ·as_aux_lemma=>kernel_rfl
 ·as_aux_lemma=>kernel_rfl
 ·as_aux_lemma=>kernel_rfl
 refine wpList_nil (hK2 _ _ ?_);clear hK2
 have hb:((W.alloc (.cells zbo 123)).setRow w.heap.size (zaK 0)).heap[w.heap.size]?=some (.cells (zaK 0) 101 (0,0)) :=
  setRow_heap _ _ _ _ _ _ ((zcp _ _ _ (by omega)).trans h1)
 have hg:w.grownBy ((W.alloc (.cells zbo 123)).setRow w.heap.size (zaK 0)) none :=
  zhd (zaa h2 (zGA _ _ none)) (zqab _)
 exact zQal
def zFN (w:World)(k:Int)(h:4<=k):Calls prog 66 #[.int .i64 k] w (zab (.agg (zaK 0)) w):=by
 have h2:¬ k<0:=by omega
 go_enter func66,ntmps66;go_upto_region 1 with(fail)
 rename_i K hK
 generalize hW:w.alloc (.cells #[.string ⟨#[]⟩,.string ⟨#[]⟩,.nilFunc,.nilFunc,.nilFunc,.nilFunc,.nilFunc,.nilFunc,.nilFunc] 101)=W at *;have h1:W.heap[w.heap.size]?=some (.cells zdZ 101 (0,0)):=by subst hW;exact zaG _ _
 have h2:w.grownBy W none:=by subst hW;exact zGA _ _ none
 have h3:W.heap.size=w.heap.size+1:=by subst hW;simp
 clear hW;apply wp_region_lit;refine wpList_buildTo rfl 101 _ rfl (some 4) rfl zdM (by as_aux_lemma=>kernel_rfl) ?_;refine wpList_buildTo rfl 101 _ rfl (some 5) rfl zdN (by as_aux_lemma=>kernel_rfl) ?_;refine wpList_buildTo rfl 101 _ rfl (some 6) rfl zdO (by as_aux_lemma=>kernel_rfl) ?_;refine wpList_buildTo rfl 101 _ rfl (some 7) rfl zdP (by as_aux_lemma=>kernel_rfl) ?_;refine wpList_buildTo rfl 123 _ rfl (some 8) rfl zbo (by as_aux_lemma=>kernel_rfl) ?_;refine Great.wpList_allocTo rfl (some 3) rfl (.pointer (some ⟨w.heap.size+1,0,none⟩)) (.cells zeg 123) ?_ ?_;exact zhc _ rfl _ _ h3;refine wpList_store_rowTo rfl 123 _ _ rfl rfl (w.heap.size+1) zbo ?_ ?_ 123 zeg ?_ ?_ ?_ ?_ ?_;exact Act.eval_put_same _ 3 _ (by simp[Act.size_put]);exact(Act.eval_put_ne _ 3 8 _ (by decide)).trans (Act.eval_put_same _ 8 _ (by simp[Act.size_put]));exact zes _ _ _ h3.symm
 ·as_aux_lemma=>kernel_rfl
 ·as_aux_lemma=>kernel_rfl
 ·as_aux_lemma=>kernel_rfl
 refine wpList_nil (hK _ _ ?_);have e1:(W.alloc (.cells zeg 123)).setRow (w.heap.size+1) zbo=W.alloc (.cells zbo 123):=by rw[<- h3];exact World.setRow_alloc_new _ _ _ _
 rw[e1];change Code.wp _ _ _ ⟨#[.int .i64 k,undef,.pointer (some ⟨w.heap.size,0,none⟩),.pointer (some ⟨w.heap.size+1,0,none⟩),.agg zdM,.agg zdN,.agg zdO,.agg zdP,.agg zbo,undef,undef,undef,undef,undef,undef,undef,undef,undef],[]⟩ _;clear hK;go_upto_region 4 with(fail)
 rename_i K2 hK2
 apply wp_region_lit;refine Great.wpList_readTo rfl (some 15) rfl (.int .i64 0) rfl ?_;refine Great.wpList_readTo rfl (some 16) rfl (.pointer (some ⟨w.heap.size+1,0*9,none⟩)) ?_ ?_;exact zjj _ (.tmp 3) (.tmp 15) rfl _ _ _ 0 (by decide) rfl rfl;refine wpList_load_mid rfl 101 _ rfl (w.heap.size+1) (0*9) rfl (zaK 0).toList _ ?_ underlying101 rfl (by as_aux_lemma=>kernel_rfl) ?_
 ·intro i v hv
  exact zQbz
 refine wpList_store_rowTo rfl 101 _ _ rfl rfl w.heap.size (zaK 0) rfl rfl 101 zdZ ?_ ?_ ?_ ?_ ?_;exact(zcp _ _ _ (by omega)).trans h1
 ·as_aux_lemma=>kernel_rfl
 ·as_aux_lemma=>kernel_rfl
 ·as_aux_lemma=>kernel_rfl
 refine wpList_nil (hK2 _ _ ?_);clear hK2
 have hb:((W.alloc (.cells zbo 123)).setRow w.heap.size (zaK 0)).heap[w.heap.size]?=some (.cells (zaK 0) 101 (0,0)) :=
  setRow_heap _ _ _ _ _ _ ((zcp _ _ _ (by omega)).trans h1)
 have hg:w.grownBy ((W.alloc (.cells zbo 123)).setRow w.heap.size (zaK 0)) none :=
  zhd (zaa h2 (zGA _ _ none)) (zqab _)
 exact zQal
def zpO (k:Int)(w:World):Calls prog 66 #[.int .i64 k] w (zab (zxl k) w):=by
 unfold zxl
 by_cases h1:k=1
 subst h1;exact zHa w
 by_cases h2:k=2
 subst h2;exact zHb w
 by_cases h3:k=3
 subst h3;exact zDf w
 have e:zaK k=zaK 0:=by
  unfold zaK;rw[if_neg h1,if_neg h2,if_neg h3];rfl
 rw[e]
 by_cases h0:k=0
 subst h0;exact zFM w
 by_cases hl:k<0
 exact of_low w k hl;exact zFN w k (by omega)
open Go.RowKit
open Go.Lib (nDigits decDigits)
def zHO:Ext->Bool
 | .inl false=>true
 | _=>false
def zHP:Ext->Bool
 | .inl true=>true
 | _=>false
def isNil:Ext->Bool
 | .inr x=>decide (x=0)
 | _=>false
def zpP {a c:ByteArray}{u v:Ext}(h:IsE a u)(k:IsE c v):decide (a=c)=decide (u=v):=by
 apply decide_eq_decide.2;exact⟨fun e=>by subst e;exact h.uniq k,fun e=>by subst e;exact h.same k⟩
def zoD:zhw.toList=[45,105,110,102]:=by decide +kernel
def zlk:zcU.toList=[105,110,102]:=by decide +kernel
def zAb:zcD.toList=[48]:=by decide +kernel
def zfk {a:ByteArray}{v:Ext}(h:IsE a v):(a.toList==[45,105,110,102])=zHO v:=by
 rw[<- zoD,zeY,zpP h lowE];rcases v with(_|_)|x
 rfl;exact zqcb (fun e=>by cases e);exact zqcb (fun e=>by cases e)
def zcT {a:ByteArray}{v:Ext}(h:IsE a v):(a.toList==[105,110,102])=zHP v:=by
 rw[<- zlk,zeY,zpP h topE];rcases v with(_|_)|x
 exact zqcb (fun e=>by cases e);rfl;exact zqcb (fun e=>by cases e)
def zjC {a:ByteArray}{v:Ext}(h:IsE a v):(a.toList==[48])=isNil v:=by
 rw[<- zAb,zeY,zpP h zpG];rcases v with(_|_)|x
 exact zqcb (fun e=>by cases e);exact zqcb (fun e=>by cases e);exact decide_eq_decide.2 ⟨fun e=>Sum.inr.inj e,fun e=>by rw[e]⟩
def zrP (a:ByteArray)(b1 b2:Bool)(f1:(a.toList==[45,105,110,102])=b1)(f2:(a.toList==[105,110,102])=b2)(w:World) :
  Calls prog 123 #[.string a] w fun e w'=>e=.returned (.int .i64 (if b1 then -1 else if b2 then 1 else 0))/\w=w':=by
 cases b1 <;> cases b2
 all_goals
  go_enter func123,ntmps123;exact zQaJ
def zmq (a:ByteArray)(s:Int):Prop:=∀ w,Calls prog 123 #[.string a] w fun e w'=>e=.returned (.int .i64 s)/\w=w'
def zDg {a:ByteArray}{v:Ext}(h:IsE a v):zmq a (zwY v):=fun w=>by
 have k:=zrP a _ _ (zfk h) (zcT h) w;rcases v with(_|_)|x <;> exact k
def zFO {a:ByteArray}(h1:a≠zhw)(h2:a≠zcU):zmq a 0:=fun w=>by
 have k:=zrP a false false (by rw[<- zoD,zeY];exact zqcb h1) (by rw[<- zlk,zeY];exact zqcb h2) w;exact k
def zFP (a b:ByteArray)(c:Int):Prop:=∀ w,Calls prog 128 #[.string a,.string b] w (zab (.int .i64 c) w)
def zll:zeN zcU:=zqM
def zlm:zeN zhw:=zqN
def zFQ:zcU.size<=maxLen:=by decide
def zFR:zhw.size<=maxLen:=by decide
def ztB (a:ByteArray)(w:World):Calls prog 91 #[.string a] w (zab (.bool false) w):=by
 go_enter func91,ntmps91;exact zQaR
def zHc (a:ByteArray)(k:Bool):Prop:=∀ w,Calls prog 93 #[.string a] w (zab (.bool k) w)
def zlL (a:ByteArray)(s:Int)(w:World)(SA:Hid (zmq a s))(f1:(s==0)=false)(f2:(s != 0)=true) :
  Calls prog 92 #[.string a] w (zab (.bool true) w):=by
 go_enter func92,ntmps92;go_wp2_with fail;refine(SA.out _).mono ?_;rintro e w' ⟨rfl,rfl⟩;exact zQaR
def zmr (a:ByteArray)(k:Bool)(w:World)(SA:Hid (zmq a 0))(V:Hid (zHc a k)) :
  Calls prog 92 #[.string a] w (zab (.bool k) w):=by
 go_enter func92,ntmps92;go_wp2_with fail;refine(SA.out _).mono ?_;rintro e w' ⟨rfl,rfl⟩;go_wp2_with fail;refine(V.out _).mono ?_;exact zQaI
def zdQ (F:Nat)(a:ByteArray)(k:Bool):Prop:=∀ w,Calls prog F #[.string a] w (zab (.bool k) w)
def ztC {a:ByteArray}{v:Ext}(h:IsE a v):zdQ 92 a true:=fun w=>by
 have sa:=zHd (zDg h);rcases v with(_|_)|x
 exact zlL a _ w sa rfl rfl;exact zlL a _ w sa rfl rfl;exact zmr a true w sa (zHd fun w=>zmj h w)
def zij (a:ByteArray):Prop:=∀ v,¬ IsE a v
def zij.rat {a:ByteArray}(h:zij a):zeN a:=fun x k=>h (.inr x) k
def zij.size {a:ByteArray}(h:zij a):zmq a 0:=zFO (fun e=>h (.inl false) e) (fun e=>h (.inl true) e)
def zpQ (a:ByteArray):(∃ v,IsE a v)∨zij a:=by
 by_cases h:∃ v,IsE a v
 exact .inl h;exact .inr fun v k=>h ⟨v,k⟩
def zvj {a:ByteArray}(h:zij a)(ha:a.size<=maxLen):zdQ 92 a false:=fun w =>
 zmr a false w (zHd h.size) (zHd fun w=>zih h.rat ha w)
def zrk (a:ByteArray)(b k:Bool):Prop:=∃ A B,∀ w,Calls prog 129 #[.string a] w (zab (.tuple #[.bool b,.string A,.string B,.bool k]) w)
def zik (a:ByteArray)(i b k:Bool)(w:World)(f1:(a.toList==[105,110,102])=i)(P:Hid (zrk a b k)) :
  Calls prog 99 #[.string a] w (zab (.bool (i || (k && !b))) w):=by
 obtain⟨A,B,p⟩:=P.out;clear P;have P:=zHd p;clear p;cases i <;> cases b <;> cases k
 all_goals
  go_enter func99,ntmps99;go_wp2_with fail;refine(P.out _).mono ?_;exact zQaI
def zAc {a:ByteArray}{x:Rat}(h:zaM a x):zrk a (sgn x) true:=⟨_,_,fun w=>zzy h w⟩
def zms {a:ByteArray}(h:zeN a)(ha:a.size<=maxLen):zrk a false false:=⟨_,_,fun w=>zCK h ha w⟩
def zxm (x:Rat):(!sgn x)=decide (0<=x):=by
 unfold sgn;have h:=Rat.num_nonneg (q:=x)
 by_cases k:0<=x
 ·have:=h.2 k
  simp[k]
  try omega
 have h2:¬ 0<=x.num:=fun z=>k (h.1 z);simp[k]
 try omega
def zpR {a:ByteArray}{v:Ext}(h:IsE a v):zdQ 99 a (zaD 2 v):=fun w=>by
 rcases v with(_|_)|x
 ·have:=zik a _ _ _ w (zcT h) (zHd (zms (by cases h;exact zlm) (IsE.len (v:=.inl false) h)))
  exact this
 ·have:=zik a _ _ _ w (zcT h) (zHd (zms (by cases h;exact zll) (IsE.len (v:=.inl true) h)))
  exact this
 have:=zik a _ _ _ w (zcT h) (zHd (zAc h));rw[Bool.true_and,zxm] at this;rw[show zaD 2 (.inr x)=decide (0<=x) by simp[zaD]];exact this
def zAd {a:ByteArray}(h:zij a)(ha:a.size<=maxLen):zdQ 99 a false:=fun w=>by
 have:=zik a false _ _ w (by rw[<- zlk,zeY];exact zqcb (fun e=>h (.inl true) e)) (zHd (zms h.rat ha));exact this
def zgM (a:ByteArray)(c:Int)(k:Bool)(w:World)(C:Hid (zFP a ⟨#[48]⟩ c))(hk:decide (0<c)=k) :
  Calls prog 100 #[.string a] w (zab (.bool k) w):=by
 go_enter func100,ntmps100;go_wp2_with fail;refine(C.out _).mono ?_;rintro e w1 ⟨rfl,hg⟩;have G1:=zHd hg;clear hg;go_wp2;go_ret;exact⟨by first|rfl|rw[<- hk]|simp_all,G1.out⟩
def zoE:zcD.size<=maxLen:=by decide
def zmt {a:ByteArray}{v:Ext}(h:IsE a v):zdQ 100 a (zcs 2 v):=fun w=>by
 rcases v with(_|_)|x;exact zgM a 0 false w (zHd fun w=>zmk (IsE.len (v:=.inl false) h) zoE (.inl (by cases h;exact zlm)) w) rfl;exact zgM a 0 false w (zHd fun w=>zmk (IsE.len (v:=.inl true) h) zoE (.inl (by cases h;exact zll)) w) rfl;refine zgM a _ _ w (zHd fun w=>zwR h zld w) ?_;rw[show zcs 2 (.inr x)=decide (0<x) by simp[zcs]];exact decide_eq_decide.2 (zoA x 0)
def zvk {a:ByteArray}(h:zij a)(ha:a.size<=maxLen):zdQ 100 a false:=fun w =>
 zgM a 0 false w (zHd fun w=>zmk ha zoE (.inl h.rat) w) rfl
def zpS {a:ByteArray}{v:Ext}(h:IsE a v):zdQ 93 a (zcs 1 v):=fun w=>by
 rcases v with(_|_)|x;exact zih (by cases h;exact zlm) (IsE.len (v:=.inl false) h) w;exact zih (by cases h;exact zll) (IsE.len (v:=.inl true) h) w;exact zmj h w
open Go.RowKit
open Go.Lib (nDigits decDigits)
def ztD (F:Nat)(a b:ByteArray)(V:Value):Prop:=∀ w,Calls prog F #[.string a,.string b] w (zab V w)
def okV (a:ByteArray):Value:=.tuple #[.string a,.int .i64 0]
def ziw (a b:ByteArray)(i j:Bool)(w:World)(p0:(a.toList==[105,110,102])=i)(q0:(b.toList==[105,110,102])=j)(h:(i || j)=true) :
  Calls prog 95 #[.string a,.string b] w (zab (okV zcU) w):=by
 cases i <;> cases j <;> simp only[Bool.or_self,Bool.or_true,Bool.true_or,Bool.false_eq_true] at h
 all_goals
  go_enter func95,ntmps95;exact zQbv
def zmu (a b:ByteArray)(i j:Bool)(w:World)(p0:(a.toList==[105,110,102])=false)(q0:(b.toList==[105,110,102])=false)(p1:(a.toList==[45,105,110,102])=i)(q1:(b.toList==[45,105,110,102])=j)(h:(i || j)=true) :
  Calls prog 95 #[.string a,.string b] w (zab (okV zhw) w):=by
 cases i <;> cases j <;> simp only[Bool.or_self,Bool.or_true,Bool.true_or,Bool.false_eq_true] at h
 all_goals
  go_enter func95,ntmps95;exact zQbv
def zAe (a b S:ByteArray)(E:Int)(w:World)(p0:(a.toList==[105,110,102])=false)(q0:(b.toList==[105,110,102])=false)(p1:(a.toList==[45,105,110,102])=false)(q1:(b.toList==[45,105,110,102])=false)(C:Hid (ztD 125 a b (.tuple #[.string S,.int .i64 E]))) :
  Calls prog 95 #[.string a,.string b] w (zab (.tuple #[.string S,.int .i64 E]) w):=by
 go_enter func95,ntmps95;go_wp2_with fail;refine(C.out _).mono ?_;exact zQaT
def zAf (a b:ByteArray)(i j:Bool)(w:World)(p0:(a.toList==[48])=i)(q0:(b.toList==[48])=j)(h:(i || j)=true) :
  Calls prog 102 #[.string a,.string b] w (zab (okV zcD) w):=by
 cases i <;> cases j <;> simp only[Bool.or_self,Bool.or_true,Bool.true_or,Bool.false_eq_true] at h
 all_goals
  go_enter func102,ntmps102;exact zQbv
def ztE (a b:ByteArray)(i j:Bool)(w:World)(p0:(a.toList==[48])=false)(q0:(b.toList==[48])=false)(p1:(a.toList==[105,110,102])=i)(q1:(b.toList==[105,110,102])=j)(h:(i || j)=true) :
  Calls prog 102 #[.string a,.string b] w (zab (okV zcU) w):=by
 cases i <;> cases j <;> simp only[Bool.or_self,Bool.or_true,Bool.true_or,Bool.false_eq_true] at h
 all_goals
  go_enter func102,ntmps102;exact zQbv
def zDh (a b S:ByteArray)(E:Int)(w:World)(p0:(a.toList==[48])=false)(q0:(b.toList==[48])=false)(p1:(a.toList==[105,110,102])=false)(q1:(b.toList==[105,110,102])=false)(C:Hid (ztD 130 a b (.tuple #[.string S,.int .i64 E]))) :
  Calls prog 102 #[.string a,.string b] w (zab (.tuple #[.string S,.int .i64 E]) w):=by
 go_enter func102,ntmps102;go_wp2_with fail;refine(C.out _).mono ?_;exact zQaT
end Go.Proofs.YtadgpgofcjpnjaaGreatDoor
