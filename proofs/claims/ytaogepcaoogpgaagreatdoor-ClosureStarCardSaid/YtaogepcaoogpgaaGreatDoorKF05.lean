/- Part. -/
import Derived.Test.YtaogepcaoogpgaaGreatDoorKF04
set_option linter.unusedVariables false
set_option linter.unusedSimpArgs false
set_option maxRecDepth 100000
set_option maxHeartbeats 16000000
namespace Go.Proofs.YtaogepcaoogpgaaGreatDoor
open Go.RowKit
open Go.Lib (nDigits decDigits)
theorem zas (s:ByteArray)(w:World)(hs:s.size<=maxLen) :
  Calls Tryz.prog 208 #[.string s] w fun e w'=>e=.returned (.bool (zan s))/\w=w':=by
 unfold maxLen at hs
 by_cases h0:(s.size:Int)<1
 ·rw[zhF s (by omega)]
  go_enter Tryz.func208,Tryz.ntmps208;go_wp2;go_ret;exact⟨rfl,rfl⟩
 by_cases h1:(1000:Int)<(s.size:Int)
 ·rw[zhF s (by omega)]
  go_enter Tryz.func208,Tryz.ntmps208;go_wp2;go_ret;exact⟨rfl,rfl⟩
 have hsz:0<s.size:=by omega
 by_cases hz:((s[0].toNat:Int)==48)=true/\(1:Int)<(s.size:Int)
 ·obtain⟨hz1,hz2⟩:=hz
  have HN:=zHd (znN s (by omega) (by have:=of_decide_eq_true hz1;omega));go_enter Tryz.func208,Tryz.ntmps208;go_wp2;go_ret;exact⟨by rw[HN.out];rfl,rfl⟩
 have hzz:s.size=1∨s[0].toNat≠48:=by
  by_cases e:s.size=1
  ·exact .inl e
  ·exact .inr fun e2=>hz ⟨by simp[e2],by omega⟩
 have HZ:=zHd hzz
 have key:Calls Tryz.prog 208 #[.string s] w fun e w'=>e=.returned (.bool (zan s))/\w=w':=by
  by_cases hz1:((s[0].toNat:Int)==48)=true
  ·have hz2:¬ (1:Int)<(s.size:Int):=fun h=>hz ⟨hz1,h⟩
   clear hz hzz;go_enter Tryz.func208,Tryz.ntmps208;go_wp2
   go_loop [3] (fun i=>∃ k:Nat,i=.int .i64 k/\k<=s.size/\∀ j (hj:j<s.size),j<k->zcf s[j]=true) (fun i=>s.size-(intOf i).toNat)
   case atStart=>exact⟨0,rfl,by omega,fun j hj h=>by omega⟩
   case round =>
    obtain⟨k,rfl,hk,hall⟩:=hrel;have HALL:=zHd hall;clear hall
    by_cases hlt:k<s.size
    ·by_cases hd:(s[k].toNat:Int)<48
     ·have HN:=zHd (zfE s k hlt (zgw s[k] (.inl hd)))
      go_wp2;go_ret;exact⟨by rw[HN.out];rfl,rfl⟩
     ·by_cases hd2:(57:Int)<(s[k].toNat:Int)
      ·have HN:=zHd (zfE s k hlt (zgw s[k] (.inr hd2)))
       go_wp2;go_ret;exact⟨by rw[HN.out];rfl,rfl⟩
      ·have HN:=zHd (znn s[k] (by omega) (by omega))
       go_wp2;go_round
       case rel=>exact⟨k+1,by go_num,by omega,fun j hj h=>by
        by_cases e:j=k
        ·subst e;exact HN.out
        ·exact HALL.out j hj (by omega)⟩
       case measure=>simp[intOf];omega
    ·have HN:=zHd (znm s (by omega) (by omega) (fun j hj=>HALL.out j hj (by omega)) HZ.out)
     go_wp2;go_ret;exact⟨by rw[HN.out];rfl,rfl⟩
  ·have hz3:((s[0].toNat:Int)==48)=false:=by simpa using hz1
   clear hz hzz hz1;go_enter Tryz.func208,Tryz.ntmps208;go_wp2
   go_loop [3] (fun i=>∃ k:Nat,i=.int .i64 k/\k<=s.size/\∀ j (hj:j<s.size),j<k->zcf s[j]=true) (fun i=>s.size-(intOf i).toNat)
   case atStart=>exact⟨0,rfl,by omega,fun j hj h=>by omega⟩
   case round =>
    obtain⟨k,rfl,hk,hall⟩:=hrel;have HALL:=zHd hall;clear hall
    by_cases hlt:k<s.size
    ·by_cases hd:(s[k].toNat:Int)<48
     ·have HN:=zHd (zfE s k hlt (zgw s[k] (.inl hd)))
      go_wp2;go_ret;exact⟨by rw[HN.out];rfl,rfl⟩
     ·by_cases hd2:(57:Int)<(s[k].toNat:Int)
      ·have HN:=zHd (zfE s k hlt (zgw s[k] (.inr hd2)))
       go_wp2;go_ret;exact⟨by rw[HN.out];rfl,rfl⟩
      ·have HN:=zHd (znn s[k] (by omega) (by omega))
       go_wp2;go_round
       case rel=>exact⟨k+1,by go_num,by omega,fun j hj h=>by
        by_cases e:j=k
        ·subst e;exact HN.out
        ·exact HALL.out j hj (by omega)⟩
       case measure=>simp[intOf];omega
    ·have HN:=zHd (znm s (by omega) (by omega) (fun j hj=>HALL.out j hj (by omega)) HZ.out)
     go_wp2;go_ret;exact⟨by rw[HN.out];rfl,rfl⟩
 exact key
theorem zKj (p s t:List UInt8)(x y:UInt8)(h:x<y):Lib.compareBytes (p++x::s) (p++y::t) = -1/\Lib.compareBytes (p++y::t) (p++x::s)=1:=by
 induction p with
 | nil =>
  have h':¬ y<x:=fun h2=>UInt8.lt_irrefl x (UInt8.lt_trans h h2);simp[Lib.compareBytes,h,h']
 | cons a p ih =>
  rw[List.cons_append,List.cons_append];unfold Lib.compareBytes;rw[if_neg (UInt8.lt_irrefl a),if_neg (UInt8.lt_irrefl a),if_neg (UInt8.lt_irrefl a),if_neg (UInt8.lt_irrefl a)];exact ih
theorem zuK (l:List UInt8)(k:Nat)(h:k<l.length):l=l.take k++l[k]::l.drop (k+1):=by
 rw[<- List.drop_eq_getElem_cons h,List.take_append_drop]
theorem zuL (a b:ByteArray)(na:zan a=true)(nb:zan b=true)(hs:a.size=b.size)(k:Nat)(ha:k<a.size)(hb:k<b.size)(ht:a.data.toList.take k=b.data.toList.take k)(hlt:a[k].toNat<b[k].toNat) :
  zbF (nv a) (nv b) = -1/\zbF (nv b) (nv a)=1:=by
 have la:a.data.toList.length=a.size:=by simp
 have lb:b.data.toList.length=b.size:=by simp
 have ea:=(zbW a na).1;have eb:=(zbW b nb).1;have da:a.data.toList=decDigits (nv a):=by conv=>lhs;rw[ea];simp[zah]
 have db:b.data.toList=decDigits (nv b):=by conv=>lhs;rw[eb];simp[zah]
 have hd:nDigits (nv a)=nDigits (nv b):=by
  rw[<- Lib.decDigits_length,<- Lib.decDigits_length,<- da,<- db];omega
 have h1:=zqV (nv a) (nv b) hd;have h2:=zqV (nv b) (nv a) hd.symm;rw[<- h1,<- h2,<- da,<- db,zuK a.data.toList k (by omega),zuK b.data.toList k (by omega),ht];exact zKj _ _ _ _ _ hlt
theorem zGb (a b:ByteArray)(hs:a.size=b.size)(ht:a.data.toList.take a.size=b.data.toList.take a.size):a=b:=by
 have la:a.data.toList.length=a.size:=by simp
 have lb:b.data.toList.length=b.size:=by simp
 rw[zqaf (by omega),zqaf (by omega)] at ht;exact ByteArray.ext (Array.toList_inj.1 ht)
theorem zCC (a b:ByteArray)(k:Nat)(ha:k<a.size)(hb:k<b.size)(ht:a.data.toList.take k=b.data.toList.take k)(he:a[k]=b[k]):a.data.toList.take (k+1)=b.data.toList.take (k+1):=by
 rw[List.take_succ_eq_append_getElem (by simpa using ha),List.take_succ_eq_append_getElem (by simpa using hb),ht];congr 1;congr 1
theorem size_digits (a:ByteArray)(na:zan a=true):a.size=nDigits (nv a):=by
 have ea:=(zbW a na).1;have:a.size=a.data.toList.length:=by simp
 rw[this,<- Lib.decDigits_length];congr 1
 conv=>lhs;rw[ea];simp[zah]
def zny (v:Int)(w:World)(e:Ending)(w':World):Prop:=e=.returned (.int .i64 v)/\w.grownBy w' none
theorem zgX (a b:ByteArray)(w:World)(na:zan a=true)(nb:zan b=true) :
  Calls Tryz.prog 214 #[.string a,.string b] w (zny (zbF (nv a) (nv b)) w):=by
 have za:=zbm na;have zb:=zbm nb;unfold maxLen at za zb;have sa:=size_digits a na;have sb:=size_digits b nb
 by_cases h1:(a.size:Int)<(b.size:Int)
 ·have HV:=zHd (show zbF (nv a) (nv b) = -1 by unfold zbF;rw[if_pos (zit (by omega))])
  have h2:((a.size:Int) != (b.size:Int))=true:=by simp;omega
  clear sa sb;go_enter Tryz.func214,Tryz.ntmps214;go_wp2;go_ret;exact⟨by rw[HV.out];rfl,zaf _ _⟩
 by_cases h2:(b.size:Int)<(a.size:Int)
 ·have HV:=zHd (show zbF (nv a) (nv b)=1 by
   have:=zit (m:=nv b) (n:=nv a) (by omega);unfold zbF;rw[if_neg (by omega),if_pos this])
  have h3:((a.size:Int) != (b.size:Int))=true:=by simp;omega
  clear sa sb;go_enter Tryz.func214,Tryz.ntmps214;go_wp2;go_ret;exact⟨by rw[HV.out];rfl,zaf _ _⟩
 have hs:a.size=b.size:=by omega
 have h3:((a.size:Int) != (b.size:Int))=false:=by simp;omega
 have HS:=zHd hs;have NA:=zHd na;have NB:=zHd nb;clear sa sb hs na nb h1 h2;go_enter Tryz.func214,Tryz.ntmps214;go_wp2
 go_loopw [5] (fun i wr=>∃ k:Nat,i=.int .i64 k/\k<=a.size/\a.data.toList.take k=b.data.toList.take k/\w.grownBy wr none) (fun i _=>a.size-(intOf i).toNat)
 case atStart=>exact⟨0,rfl,by omega,rfl,zaf _ _⟩
 case round =>
  obtain⟨k,rfl,hk,ht,hg⟩:=hrel;have HT:=zHd ht;have HG:=zHd hg;clear ht hg
  by_cases hlt:k<a.size
  ·have hlb:k<b.size:=by have:=HS.out;omega
   have z0:(0:Int)<=(k:Int):=by omega
   have z1:(k:Int)<(a.size:Int):=by omega
   have z2:(k:Int)<(b.size:Int):=by omega
   by_cases c1:(a[k].toNat:Int)<(b[k].toNat:Int)
   ·have HV:=zHd (zuL a b NA.out NB.out HS.out k hlt hlb HT.out (by omega)).1
    have c2:((a[k].toNat:Int) != (b[k].toNat:Int))=true:=(by simp;omega);go_wp2
    go_quiet (fail)
    go_wp2
    go_quiet (fail)
    go_wp2;go_ret;exact⟨by rw[HV.out];rfl,zaa HG.out (zaa (zcc _ _ _) (zcc _ _ _))⟩
   ·by_cases c3:(b[k].toNat:Int)<(a[k].toNat:Int)
    ·have HV:=zHd (zuL b a NB.out NA.out HS.out.symm k hlb hlt HT.out.symm (by omega)).2
     have c2:((a[k].toNat:Int) != (b[k].toNat:Int))=true:=(by simp;omega);go_wp2
     go_quiet (fail)
     go_wp2
     go_quiet (fail)
     go_wp2;go_ret;exact⟨by rw[HV.out];rfl,zaa HG.out (zaa (zcc _ _ _) (zcc _ _ _))⟩
    ·have he:a[k]=b[k]:=UInt8.toNat_inj.1 (by omega)
     have HM:=zHd (zCC a b k hlt hlb HT.out he);have c2:((a[k].toNat:Int) != (b[k].toNat:Int))=false:=(by simp;omega);clear he;go_wp2
     go_quiet (fail)
     go_wp2
     go_roundw
     case rel=>exact⟨k+1,by go_num,by omega,HM.out,zaa HG.out (zcc _ _ _)⟩
     case measure=>simp[intOf];omega
  ·have HV:=zHd (show zbF (nv a) (nv b)=0 by
    have e:=zGb a b HS.out (by rw[show a.size=k by omega];exact HT.out);rw[e];unfold zbF;rw[if_neg (by omega),if_neg (by omega)])
   go_wp2;go_ret;exact⟨by rw[HV.out];rfl,HG.out⟩
theorem zGc (a b:ByteArray)(w:World)(ha:a.size<=maxLen)(hb:b.size<=maxLen) :
  Calls Tryz.prog 176 #[.string a,.string b] w (zny (zeu a b) w):=by
 have va:=zHd (fun w=>zas a w ha);have vb:=zHd (fun w=>zas b w hb);cases na:zan a
 ·have HV:=zHd (show zeu a b=0 by unfold zeu;rw[na];rfl)
  rw[na] at va;clear ha hb;go_enter Tryz.func176,Tryz.ntmps176;go_wp2_with fail;refine(va.out _).mono ?_;rintro e w' ⟨rfl,rfl⟩;go_wp2;go_ret;exact⟨by rw[HV.out];rfl,zaf _ _⟩
 cases nb:zan b
 ·have HV:=zHd (show zeu a b=0 by unfold zeu;rw[na,nb];rfl)
  rw[na] at va;rw[nb] at vb;clear ha hb;go_enter Tryz.func176,Tryz.ntmps176;go_wp2_with fail;refine(va.out _).mono ?_;rintro e w' ⟨rfl,rfl⟩;go_wp2_with fail;refine(vb.out _).mono ?_;rintro e w' ⟨rfl,rfl⟩;go_wp2;go_ret;exact⟨by rw[HV.out];rfl,zaf _ _⟩
 have HV:=zHd (show zeu a b=zbF (nv a) (nv b) by unfold zeu;rw[na,nb];rfl);have c:=zHd (fun w=>zgX a b w na nb);rw[na] at va;rw[nb] at vb;clear ha hb;go_enter Tryz.func176,Tryz.ntmps176;go_wp2_with fail;refine(va.out _).mono ?_;rintro e w' ⟨rfl,rfl⟩;go_wp2_with fail;refine(vb.out _).mono ?_;rintro e w' ⟨rfl,rfl⟩;go_wp2_with fail;refine(c.out _).mono ?_;rintro e w1 ⟨rfl,hg⟩;have G:=zHd hg;clear hg;go_wp2;go_ret;exact⟨by rw[HV.out];rfl,G.out⟩
open Go.RowKit
open Go.Lib (nDigits decDigits)
theorem zsB:(Tryz.prog.info? 5).map (fun i=>(i.zero,i.size,i.bytes))=some (some (.int .u8 0),1,1):=by kernel_rfl
theorem zkR:(Tryz.prog.info? 3).map (fun i=>(i.zero,i.size,i.bytes))=some (some (.int .i64 0),1,8):=by kernel_rfl
theorem zuM {w:World}{base:Nat}{v:Value}{l:List UInt8}(h:w.ownsRow base 5 1 v l.length (Lib.byteCells l)) :
  (convert 149 9 v).run Tryz.prog w=.ok (.string ⟨l.toArray⟩) w:=by
 rcases h.2 with⟨hv,hn⟩|⟨g,cap,cur,hv,_⟩
 ·have:l=[]:=List.length_eq_zero_iff.1 hn
  subst this;rw[hv];have hz:∀ w:World,(convert 149 9 (.slice none 0 0)).run Tryz.prog w=.ok (.string ⟨#[]⟩) w:=fun w=>by kernel_rfl
  exact hz w
 ·rw[hv] at h ⊢
  refine run_convert_bytes_back w 149 9 5 ⟨g,0,none⟩ cap l Tryz.underlying149 Tryz.underlying5 Tryz.underlying9 (fun j hj=>?_);refine h.cells (g:=g) rfl j _ ?_;unfold Lib.byteCells;rw[zqaj,zqac hj];rfl
theorem zeb {w wr:World}(h:Below w.heap.size w wr)(o:Obj){w':World}{v:Value}(hv:∀ g,v.ownBlock=some g->w.heap.size<=g)(hg:(wr.alloc o).grownBy w' v.ownBlock):Below w.heap.size w w' :=
 (h.alloc h.size o).grown hg (by have:=h.size;simp;omega) hv
theorem zfO (w:World)(u:Value)(t:TypeId):∀ j x,[u][j]?=some x->(w.alloc (.cells #[u] t)).cell? ((⟨w.heap.size,0,none⟩:Addr).add j)=some x :=
 World.news_of_block (cs:=#[u]) (t:=t) (fr:=(0,0)) (zqce w _)
def ziW (w:World)(v:Value)(ds:List Nat):Prop :=
 (v=.slice none 0 0/\ds=[])∨∃ g cap,v=.slice (some ⟨g,0,none⟩) ds.length cap/\ds≠[]/\g<w.heap.size/\∀ k,k<ds.length->w.cell? ⟨g,k,none⟩=some (.int .i64 (ds.getD k 0:Nat))
def iv (ds:List Nat):List Value:=ds.map fun(d:Nat)=>Value.int .i64 (d:Int)
theorem addr_add (g k:Nat):(⟨g,0,none⟩:Addr).add k=⟨g,k,none⟩:=by unfold Addr.add;split <;> simp_all
theorem ziW.of_own {w:World}{base:Nat}{v:Value}{ds:List Nat}(h:w.ownsRow base 3 1 v ds.length (iv ds))(h0:ds≠[]):ziW w v ds:=by
 obtain⟨g,cap,hv,_,hlt⟩:=h.form (by have:=List.length_pos_iff.2 h0;omega);refine .inr ⟨g,cap,hv,h0,hlt,fun k hk=>?_⟩;have:=h.cells (g:=g) (by rw[hv];rfl) k (.int .i64 (ds.getD k 0:Nat)) (by simp[iv,zqaa,zqac hk]);rw[addr_add] at this;exact this
theorem ziW.below {w w':World}{v:Value}{ds:List Nat}(h:ziW w v ds)(hb:Below w.heap.size w w'):ziW w' v ds:=by
 rcases h with h|⟨g,cap,hv,h0,hg,hc⟩
 ·exact .inl h
 ·exact .inr ⟨g,cap,hv,h0,by have:=hb.size;omega,fun k hk=>(hb.cell (by exact hg)).trans (hc k hk)⟩
def chars (ds:List Nat):List UInt8:=ds.reverse.map fun d=>UInt8.ofNat (48+d)
theorem zmj:∀ (ds:List Nat),ds≠[]->(∀ d∈ds,d<10)->(ds.length=1∨ds.getD (ds.length-1) 0≠0)->chars ds=decDigits (vl 10 ds)
 | [],h,_,_=>absurd rfl h
 | [d],_,hd,_=>by
  have:=hd d (by simp);rw[zlL,Lib.decDigits_one this];simp[chars]
 | d::e::r,_,hd,ht=>by
  have ih:=zmj (e::r) (by simp) (fun x hx=>hd x (zqao _ hx)) (by
   right;rcases ht with ht|ht
   ·simp at ht
   ·simpa using ht)
  have h1:=hd d (by simp);have e1:vl 10 (d::e::r)=d+10*vl 10 (e::r):=by rw[show d::e::r=[d]++(e::r) from rfl,zdc,zlL];simp
  have hpos:vl 10 (e::r)≠0:=by
   intro e0;rw[e0,Lib.decDigits_one (by decide)] at ih;have hlen:=zqbz List.length ih;simp[chars] at hlen;subst hlen;simp at ht;rw[zlL] at e0;exact ht e0
  have e2:chars (d::e::r)=chars (e::r)++[UInt8.ofNat (48+d)]:=by simp[chars]
  rw[e2,ih,e1]
  conv=>rhs;rw[decDigits,dif_neg (by omega)]
  rw[show(d+10*vl 10 (e::r))/10=vl 10 (e::r) by omega,show(d+10*vl 10 (e::r))%10=d by omega]
theorem zpK (ds:List Nat)(j:Nat)(h:j<ds.length):chars (ds.drop (j+1))++[UInt8.ofNat (48+ds.getD j 0)]=chars (ds.drop j):=by
 rw[List.drop_eq_getElem_cons h,zqaa,zqac h];unfold chars;rw[List.reverse_cons,List.map_append];rfl
theorem zjz (d:Nat)(h:d<10):Lib.byteCells [UInt8.ofNat (48+d)]=[Value.int .u8 (48+(d:Int))]:=by
 unfold Lib.byteCells;simp;omega
theorem ziX (v:Value)(ds:List Nat)(w:World)(hv:ziW w v ds)(hd:∀ d∈ds,d<10)(hn:ds.length<=1000000) :
  Calls Tryz.prog 213 #[v] w fun e w'=>e=.returned (.string (zah (vl 10 ds)))/\Below w.heap.size w w':=by
 rcases hv with⟨rfl,rfl⟩|⟨g,cap,rfl,h0,hg,hc⟩
 ·have hz:zah (vl 10 [])=⟨#[48]⟩:=by decide +kernel
  rw[hz];clear hz hd hn;go_enter Tryz.func213,Tryz.ntmps213;go_wp2
  go_loop [3] (fun n=>n=.int .i64 0) (fun _=>0)
  case atStart=>rfl
  case round =>
   subst hrel;go_wp2
   go_loop [4,5] (fun b n=>b=.slice none 0 0/\n=.int .i64 (-1)) (fun _ _=>0)
   case atStart=>exact⟨rfl,rfl⟩
   case round =>
    obtain⟨rfl,rfl⟩:=hrel;go_wp2;go_ret;exact⟨rfl,Below.refl _ _⟩
 obtain⟨i0,hi,hz0,hz1,hz2⟩:=info_parts zsB;have HC:=zHd hc;have hpos:=List.length_pos_iff.2 h0;have HD:=zHd hd;clear hc hd h0;go_enter Tryz.func213,Tryz.ntmps213;go_wp2
 go_loop [3] (fun n=>∃ m:Nat,n=.int .i64 m/\1<=m/\m<=ds.length/\vl 10 (ds.take m)=vl 10 ds) (fun n=>(intOf n).toNat)
 case atStart=>exact⟨ds.length,rfl,by omega,zqab _,by rw[List.take_length]⟩
 case round =>
  obtain⟨m,rfl,h1,h2,hv⟩:=hrel;have HV:=zHd hv;clear hv
  by_cases hm:(1:Int)<(m:Int)
  ·obtain⟨k,hk⟩:∃ k,m=k+1:=⟨m-1,by omega⟩
   have HK:=zHd hk
   have hw:IntKind.i64.wrap ((m:Int)-1)=(k:Int):=by
    rw[show(m:Int)-1=(k:Int) by omega];exact IntWalk.i64_in _ ⟨by omega,by omega⟩
   have hcell:=HC.out k (by omega);have hk1:(0:Int)<=(k:Int):=by omega
   have hk2:(k:Int)<(ds.length:Int):=by omega
   clear hk
   by_cases hz:ds.getD k 0=0
   ·rw[hz] at hcell
    have HZ:=zHd hz;clear hz;go_wp2;go_round
    case rel =>
     have hk:=HK.out
     exact⟨k,by go_num,by omega,by omega,by
      have e:=zaH 10 ds k;rw[HZ.out,Nat.mul_zero,<- hk] at e;have:=HV.out;omega⟩
    case measure=>have hk:=HK.out;simp[intOf];omega
   ·have KEY:=zHd (show m=1∨ds.getD (m-1) 0≠0 from .inr (by rw[HK.out];exact hz))
    generalize hx:ds.getD k 0=x at *;have f1:((x:Int)==0)=false:=(by simp;omega);clear hx hz;go_wp2
    go_loopw [4,5] (fun b i wr=>∃ (j:Nat) (z:Int) (acc:List UInt8),i=.int .i64 z/\z=(j:Int)-1/\j<=m/\acc=chars ((ds.take m).drop j)/\wr.ownsRow w.heap.size 5 1 b acc.length (Lib.byteCells acc)/\Below w.heap.size w wr) (fun _ i _=>(intOf i+1).toNat)
    case atStart=>exact⟨m,_,[],rfl,by have:=HK.out;omega,zqab _,by rw[List.drop_of_length_le (by rw[zqan];omega)];rfl,World.ownsRow_nil _ _ _ _,Below.refl _ _⟩
    case round =>
     obtain⟨j,z,acc,rfl,hzj,hj,hacc,hown,hb⟩:=hrel;have hal:acc.length=m-j:=(by rw[hacc];simp[chars];omega);have HACC:=zHd hacc;clear hacc
     by_cases hj0:j=0
     ·subst hj0
      obtain rfl:z = -1:=by omega
      have HFIN:=zHd (show zah (vl 10 ds)=⟨acc.toArray⟩ by
       rw[HACC.out,List.drop_zero,zmj _ (by intro e;have h3:=zqbz List.length e;rw[zqan] at h3;simp only[List.length_nil] at h3;omega) (fun d hd=>HD.out d (zqau hd)) (by
        rw[zqan,Nat.min_eq_left (by omega)];rcases KEY.out with h|h
        ·exact .inl h
        ·right
         rw[zqaa,List.getElem?_take,if_pos (by omega),<- zqaa];exact h),HV.out];rfl)
      have hcv:=zuM hown;obtain⟨g',cap',rfl,_,_⟩:=hown.form (by omega);have hne:((acc.length:Int)==0)=false:=(by rw[beq_eq_false_iff_ne];omega);have HB:=zHd hb;clear hown hb hal hzj;go_wp2;go_ret;exact⟨by rw[HFIN.out];rfl,HB.out⟩
     ·obtain⟨q,rfl⟩:∃ q,j=q+1:=⟨j-1,by omega⟩
      obtain rfl:z=(q:Int):=by omega
      have hcell:=(hb.cell (p:=⟨g,q,none⟩) hg).trans (HC.out q (by omega));have hdq:=HD.out (ds.getD q 0) (by rw[zqaa,zqac (by omega)];exact List.getElem_mem _);have HST:=zHd (zpK (ds.take m) q (by rw[zqan];omega));have HDQ:=zHd (show(ds.take m).getD q 0=ds.getD q 0 by rw[zqaa,List.getElem?_take,if_pos (by omega),<- zqaa]);generalize ds.getD q 0=d at *;have HCC:=zHd (zjz d hdq);have hd0:(0:Int)<=(d:Int):=(by omega);have hd1:(d:Int)<10:=(by omega);have hq1:(0:Int)<=(q:Int):=(by omega);have hq2:(q:Int)<(ds.length:Int):=(by omega);have hb1:acc.length+1<=1000000:=(by omega);clear hzj hj0 hal;go_wp2_with (at_builtin;refine wpList_append_own _ rfl _ _ 149 rfl w.heap.size 5 i0 (.int .u8 0) 1 1 Tryz.underlying149 hi hz0 hz1 hz2 rfl (by decide) _ _ _ rfl (hown.alloc _) ⟨wr.heap.size,0,none⟩ 1 1 [.int .u8 (48+(d:Int))] rfl rfl ?c1 ?c2 ?c3 ?c4 ?c5 ?_)
      case c1=>exact zfO _ _ _
      case c2=>intro u hu;simp at hu;subst hu;rfl
      case c3=>unfold maxLen;omega
      case c4=>omega
      case c5=>simp;have:=hb.size;omega
      intro v' w1 hown' hgrow _;have HB:=zHd (zeb hb _ (fun g e=>(hown.lt g e).1) hgrow);have HO:=zHd hown';clear hown hown' hgrow hcell;go_wp2
      go_roundw
      case rel=>exact⟨q,(q:Int)-1,acc++[UInt8.ofNat (48+d)],by go_num,rfl,by omega,by rw[HACC.out,<- HST.out,HDQ.out],by
       rw[zqag,Lib.byteCells_append,HCC.out];exact HO.out,HB.out⟩
      case measure=>simp[intOf]
  ·have HM:=zHd (show m=1 by omega)
   have KEY:=zHd (show m=1∨ds.getD (m-1) 0≠0 from .inl HM.out)
   have hw:IntKind.i64.wrap ((m:Int)-1)=0:=by
    rw[show(m:Int)-1=0 by have:=HM.out;omega];exact IntWalk.i64_in _ ⟨by omega,by omega⟩
   go_wp2
   go_loopw [4,5] (fun b i wr=>∃ (j:Nat) (z:Int) (acc:List UInt8),i=.int .i64 z/\z=(j:Int)-1/\j<=m/\acc=chars ((ds.take m).drop j)/\wr.ownsRow w.heap.size 5 1 b acc.length (Lib.byteCells acc)/\Below w.heap.size w wr) (fun _ i _=>(intOf i+1).toNat)
   case atStart=>exact⟨m,_,[],rfl,by have:=HM.out;omega,zqab _,by rw[List.drop_of_length_le (by rw[zqan];omega)];rfl,World.ownsRow_nil _ _ _ _,Below.refl _ _⟩
   case round =>
    obtain⟨j,z,acc,rfl,hzj,hj,hacc,hown,hb⟩:=hrel;have hal:acc.length=m-j:=(by rw[hacc];simp[chars];omega);have HACC:=zHd hacc;clear hacc
    by_cases hj0:j=0
    ·subst hj0
     obtain rfl:z = -1:=by omega
     have HFIN:=zHd (show zah (vl 10 ds)=⟨acc.toArray⟩ by
      rw[HACC.out,List.drop_zero,zmj _ (by intro e;have h3:=zqbz List.length e;rw[zqan] at h3;simp only[List.length_nil] at h3;omega) (fun d hd=>HD.out d (zqau hd)) (by
       rw[zqan,Nat.min_eq_left (by omega)];rcases KEY.out with h|h
       ·exact .inl h
       ·right
        rw[zqaa,List.getElem?_take,if_pos (by omega),<- zqaa];exact h),HV.out];rfl)
     have hcv:=zuM hown;obtain⟨g',cap',rfl,_,_⟩:=hown.form (by omega);have hne:((acc.length:Int)==0)=false:=(by rw[beq_eq_false_iff_ne];omega);have HB:=zHd hb;clear hown hb hal hzj;go_wp2;go_ret;exact⟨by rw[HFIN.out];rfl,HB.out⟩
    ·obtain⟨q,rfl⟩:∃ q,j=q+1:=⟨j-1,by omega⟩
     obtain rfl:z=(q:Int):=by omega
     have hcell:=(hb.cell (p:=⟨g,q,none⟩) hg).trans (HC.out q (by omega));have hdq:=HD.out (ds.getD q 0) (by rw[zqaa,zqac (by omega)];exact List.getElem_mem _);have HST:=zHd (zpK (ds.take m) q (by rw[zqan];omega));have HDQ:=zHd (show(ds.take m).getD q 0=ds.getD q 0 by rw[zqaa,List.getElem?_take,if_pos (by omega),<- zqaa]);generalize ds.getD q 0=d at *;have HCC:=zHd (zjz d hdq);have hd0:(0:Int)<=(d:Int):=(by omega);have hd1:(d:Int)<10:=(by omega);have hq1:(0:Int)<=(q:Int):=(by omega);have hq2:(q:Int)<(ds.length:Int):=(by omega);have hb1:acc.length+1<=1000000:=(by omega);clear hzj hj0 hal;go_wp2_with (at_builtin;refine wpList_append_own _ rfl _ _ 149 rfl w.heap.size 5 i0 (.int .u8 0) 1 1 Tryz.underlying149 hi hz0 hz1 hz2 rfl (by decide) _ _ _ rfl (hown.alloc _) ⟨wr.heap.size,0,none⟩ 1 1 [.int .u8 (48+(d:Int))] rfl rfl ?c1 ?c2 ?c3 ?c4 ?c5 ?_)
     case c1=>exact zfO _ _ _
     case c2=>intro u hu;simp at hu;subst hu;rfl
     case c3=>unfold maxLen;omega
     case c4=>omega
     case c5=>simp;have:=hb.size;omega
     intro v' w1 hown' hgrow _;have HB:=zHd (zeb hb _ (fun g e=>(hown.lt g e).1) hgrow);have HO:=zHd hown';clear hown hown' hgrow hcell;go_wp2
     go_roundw
     case rel=>exact⟨q,(q:Int)-1,acc++[UInt8.ofNat (48+d)],by go_num,rfl,by omega,by rw[HACC.out,<- HST.out,HDQ.out],by
      rw[zqag,Lib.byteCells_append,HCC.out];exact HO.out,HB.out⟩
     case measure=>simp[intOf]
open Go.RowKit
open Go.Lib (nDigits decDigits)
theorem zhW (a b:List Nat):iv (a++b)=iv a++iv b:=by simp[iv]
theorem zmk (d:Nat):iv [d]=[Value.int .i64 (d:Int)]:=rfl
open Go.RowKit
open Go.Lib (nDigits decDigits)
def dgs (l:List UInt8):List Nat:=l.reverse.map fun c=>c.toNat-48
def zdw (a:ByteArray):List Nat:=dgs a.data.toList
theorem zGd (c:UInt8)(l:List UInt8):dgs (c::l)=dgs l++[c.toNat-48]:=by simp[dgs]
theorem zym (l:List UInt8):vl 10 (dgs l)=zcE l:=by
 induction h:l.length generalizing l with
 | zero=>rw[List.length_eq_zero_iff.1 h];rfl
 | succ n ih =>
  obtain⟨l',c,rfl⟩:∃ l' c,l=l'++[c]:=⟨l.dropLast,l.getLast (by intro e;rw[e] at h;simp at h),(List.dropLast_concat_getLast _).symm⟩;have:=ih l' (by simp at h;exact h);rw[zeF,<- this,show dgs (l'++[c])=[c.toNat-48]++dgs l' by simp[dgs],zdc,zlL];simp;omega
theorem zem (a:ByteArray):vl 10 (zdw a)=nv a:=zym _
theorem zen (a:ByteArray):(zdw a).length=a.size:=by simp[zdw,dgs]
theorem zey (a:ByteArray)(h:zan a=true):∀ d∈zdw a,d<10:=by
 intro d hd;unfold zdw dgs at hd;obtain⟨c,hc,rfl⟩:=zqbf.1 hd;rw[List.mem_reverse] at hc;unfold zan zlO at h;simp only[zqbb,List.all_eq_true] at h;have:=h.1.2 c hc;unfold zcf at this;simp at this;omega
theorem zGe (a:ByteArray)(j:Nat)(h:j<a.size):dgs (a.data.toList.drop (j+1))++[a[j].toNat-48]=dgs (a.data.toList.drop j):=by
 conv=>rhs;rw[List.drop_eq_getElem_cons (show j<a.data.toList.length by simpa using h),zGd]
 rfl
def zge (w:World)(v:Value)(ds:List Nat):Prop:=ziW w v ds/\ds≠[]
theorem zge.form {w:World}{v:Value}{ds:List Nat}(h:zge w v ds):∃ g cap,v=.slice (some ⟨g,0,none⟩) ds.length cap:=by
 rcases h.1 with⟨_,h0⟩|⟨g,cap,hv,_⟩
 ·exact absurd h0 h.2
 ·exact⟨g,cap,hv⟩
theorem zge.below {w w':World}{v:Value}{ds:List Nat}(h:zge w v ds)(hb:Below w.heap.size w w'):zge w' v ds:=⟨h.1.below hb,h.2⟩
theorem zda (a:ByteArray)(w:World)(na:zan a=true) :
  Calls Tryz.prog 210 #[.string a] w fun e w'=>∃ v,e=.returned v/\zge w' v (zdw a)/\Below w.heap.size w w':=by
 obtain⟨i0,hi,hz0,hz1,hz2⟩:=info_parts zkR;have hsz:=zbZ a na;have HDG:=zHd (zkk a na);clear na;have hw:IntKind.i64.wrap ((a.size:Int)-1)=(a.size:Int)-1:=IntWalk.i64_in _ ⟨by omega,by omega⟩;go_enter Tryz.func210,Tryz.ntmps210;go_wp2
 go_loopw [3,4] (fun b i wr=>∃ (j:Nat) (z:Int) (acc:List Nat),i=.int .i64 z/\z=(j:Int)-1/\j<=a.size/\acc=dgs (a.data.toList.drop j)/\wr.ownsRow w.heap.size 3 1 b acc.length (iv acc)/\Below w.heap.size w wr) (fun _ i _=>(intOf i+1).toNat)
 case atStart=>exact⟨a.size,_,[],rfl,rfl,zqab _,by rw[List.drop_of_length_le (by simp)];rfl,World.ownsRow_nil _ _ _ _,Below.refl _ _⟩
 case round =>
  obtain⟨j,z,acc,rfl,hzj,hj,hacc,hown,hb⟩:=hrel;have hal:acc.length=a.size-j:=by rw[hacc];simp[dgs]
  have HACC:=zHd hacc;clear hacc
  by_cases hj0:j=0
  ·subst hj0
   obtain rfl:z = -1:=by omega
   have hne:acc≠[]:=by intro e;rw[e] at hal;simp at hal;omega
   have HR:=zHd (show zge wr u3 acc from⟨ziW.of_own hown hne,hne⟩);have HB:=zHd hb;clear hown hb hal hne hzj;go_wp2;go_ret;refine⟨_,rfl,?_,HB.out⟩;have e:acc=zdw a:=by rw[HACC.out,List.drop_zero];rfl
   rw[<- e];exact HR.out
  ·obtain⟨q,rfl⟩:∃ q,j=q+1:=⟨j-1,by omega⟩
   obtain rfl:z=(q:Int):=by omega
   have hqa:q<a.size:=by omega
   have hdq:=HDG.out q hqa;have HST:=zHd (zGe a q hqa);have HE:=zHd (show(a[q].toNat:Int)-48=((a[q].toNat-48:Nat):Int) by omega);have hd0:(48:Int)<=(a[q].toNat:Int):=by omega
   have hd1:(a[q].toNat:Int)<=57:=by omega
   have hq1:(0:Int)<=(q:Int):=by omega
   have hq2:(q:Int)<(a.size:Int):=by omega
   have hb1:acc.length+1<=1000000:=by omega
   clear hzj hj0 hal;go_wp2_with (at_builtin;refine wpList_append_own _ rfl _ _ 51 rfl w.heap.size 3 i0 (.int .i64 0) 1 8 Tryz.underlying51 hi hz0 hz1 hz2 rfl (by decide) _ _ _ rfl (hown.alloc _) ⟨wr.heap.size,0,none⟩ 1 1 [.int .i64 ((a[q].toNat:Int)-48)] rfl rfl ?c1 ?c2 ?c3 ?c4 ?c5 ?_)
   case c1=>exact zfO _ _ _
   case c2=>intro u hu;simp at hu;subst hu;rfl
   case c3=>unfold maxLen;omega
   case c4=>omega
   case c5=>simp;have:=hb.size;omega
   intro v' w1 hown' hgrow _;have HB:=zHd (zeb hb _ (fun g e=>(hown.lt g e).1) hgrow);have HO:=zHd hown';clear hown hown' hgrow hd0 hd1;go_wp2
   go_roundw
   case rel=>exact⟨q,(q:Int)-1,acc++[a[q].toNat-48],by go_num,rfl,by omega,by rw[HACC.out,<- HST.out],by
    rw[zqag,zhW,zmk,<- HE.out];exact HO.out,HB.out⟩
   case measure=>simp[intOf]
theorem zml (v:Value)(ds:List Nat)(i:Nat)(w:World)(hv:zge w v ds)(hn:ds.length<=1000000) :
  Calls Tryz.prog 211 #[v,.int .i64 i] w fun e w'=>e=.returned (.int .i64 (ds.getD i 0:Nat))/\w=w':=by
 rcases hv.1 with⟨_,h0⟩|⟨g,cap,rfl,_,hg,hc⟩
 ·exact absurd h0 hv.2
 by_cases h:(i:Int)<(ds.length:Int)
 ·have hcell:=hc i (by omega)
  generalize ds.getD i 0=x at *;have hi0:(0:Int)<=(i:Int):=by omega
  clear hc hv;go_enter Tryz.func211,Tryz.ntmps211;go_wp2;go_ret;exact⟨rfl,rfl⟩
 ·have e:ds.getD i 0=0:=by rw[zqaa,zqas (by omega)];rfl
  rw[e];clear hc hv e;go_enter Tryz.func211,Tryz.ntmps211;go_wp2;go_ret;exact⟨rfl,rfl⟩
theorem znU (n:Nat)(w:World)(hn:nDigits n<=1000000) :
  Calls Tryz.prog 212 #[.string (zah n)] w fun e w'=>e=.returned (zdP n)/\w=w':=by
 have hs:(zah n).size=nDigits n:=by unfold zah;simp[ByteArray.size,Lib.decDigits_length]
 by_cases h:nDigits n<=1000
 ·have HV:=zHd (show zdP n=.tuple #[.string (zah n),.int .i64 0] by unfold zdP;rw[if_pos h])
  generalize zah n=S at *;have h1:¬ (1000:Int)<(S.size:Int):=by omega
  clear hs h;go_enter Tryz.func212,Tryz.ntmps212;go_wp2;go_ret2;exact⟨by rw[HV.out];rfl,rfl⟩
 ·have HV:=zHd (show zdP n=.tuple #[.string ⟨#[]⟩,.int .i64 2] by unfold zdP;rw[if_neg h])
  generalize zah n=S at *;have h1:(1000:Int)<(S.size:Int):=by omega
  clear hs h;go_enter Tryz.func212,Tryz.ntmps212;go_wp2;go_ret2;exact⟨by rw[HV.out];rfl,rfl⟩
open Go.RowKit
open Go.Lib (nDigits decDigits)
theorem zsC (l:List Nat)(h:∀ d∈l,d<10):nDigits (vl 10 l)<=l.length+1:=by
 have h1:=zbA (Nat.le_of_lt (zbM 10 l h));have h2:=Lib.nDigits_unique l.length (10 ^ l.length) (zqab _) (Nat.pow_lt_pow_right (by decide) (by omega));omega
structure zgY (xs ys:List Nat)(k c:Nat)(acc:List Nat):Prop where
 len:acc.length=k
 lt:∀ d∈acc,d<10
 carry:c<=1
 val:vl 10 acc+10 ^ k*c=vl 10 (xs.take k)+vl 10 (ys.take k)
theorem getD_lt (l:List Nat)(h:∀ d∈l,d<10)(k:Nat):l.getD k 0<10:=by
 rcases Nat.lt_or_ge k l.length with h1|h1
 ·rw[zqaa,zqac h1];exact h _ (List.getElem_mem _)
 ·rw[zqaa,zqas h1];decide
theorem zgY.step {xs ys:List Nat}{k c:Nat}{acc:List Nat}(h:zgY xs ys k c acc)(hx:∀ d∈xs,d<10)(hy:∀ d∈ys,d<10) :
  zgY xs ys (k+1) ((xs.getD k 0+ys.getD k 0+c)/10) (acc++[(xs.getD k 0+ys.getD k 0+c)%10]):=by
 have h1:=getD_lt xs hx k;have h2:=getD_lt ys hy k;have h3:=h.carry;refine⟨by rw[zqag,h.len];rfl,fun d hd=>?_,by omega,?_⟩
 ·rcases zqbo.1 hd with hd|hd
  ·exact h.lt d hd
  ·rw[zqbk.1 hd];omega
 ·have e:=h.val
  rw[zfA,h.len,zaH,zaH,zqbp];generalize xs.getD k 0=p at *;generalize ys.getD k 0=q at *;have hd:=zqbt (p+q+c) 10;generalize (p+q+c)/10=u at *;generalize (p+q+c)%10=v at *;generalize 10 ^ k=P at *;have e1:P*10*u+P*v=P*(p+q+c):=by rw[<- hd,zqbh,zqav]
  rw[zqbh,zqbh] at e1;omega
theorem zgY.fin {xs ys:List Nat}{k c:Nat}{acc:List Nat}(h:zgY xs ys k c acc)(hx:∀ d∈xs,d<10)(hy:∀ d∈ys,d<10)(h1:xs.length<k)(h2:ys.length<k):vl 10 acc=vl 10 xs+vl 10 ys:=by
 have e:=h.val;rw[zqaf (by omega),zqaf (by omega)] at e;have a1:=zbM 10 xs hx;have a2:=zbM 10 ys hy;obtain⟨k,rfl⟩:∃ j,k=j+1:=⟨k-1,by omega⟩;have b1:=zqay (n:=10) (by decide) (show xs.length<=k by omega);have b2:=zqay (n:=10) (by decide) (show ys.length<=k by omega);rw[zqbp] at e;have hc:=h.carry
 have:c=0:=by
  rcases Nat.eq_zero_or_pos c with h0|h0
  ·exact h0
  ·obtain rfl:c=1:=by omega
   omega
 subst this;omega
theorem zgY.start (xs ys:List Nat):zgY xs ys 0 0 []:=⟨rfl,fun d h=>by simp at h,by omega,by simp[vl]⟩
theorem zsD (n:Nat):∃ S E,zdP n=.tuple #[.string S,.int .i64 E]:=by
 unfold zdP;split
 ·exact⟨_,_,rfl⟩
 ·exact⟨_,_,rfl⟩
theorem zGf (a b:ByteArray)(w:World)(na:zan a=true)(nb:zan b=true) :
  Calls Tryz.prog 175 #[.string a,.string b] w (zab (zdQ a b) w):=by
 obtain⟨i0,hi,hz0,hz1,hz2⟩:=info_parts zkR;have va:=zas a w (zbm na);have vb:=zas b w (zbm nb);rw[na] at va;rw[nb] at vb;have VA:=zHd va;have VB:=zHd vb;have D1:=zHd (fun w=>zda a w na);have D2:=zHd (fun w=>zda b w nb);have HV:=zHd (show zdQ a b=zdP (vl 10 (zdw a)+vl 10 (zdw b)) by unfold zdQ;rw[na,nb,zem,zem];rfl);have hx:=zey a na;have hy:=zey b nb;have sa:=zbZ a na;have sb:=zbZ b nb;have la:=zen a;have lb:=zen b;clear va vb na nb;generalize zdw a=xs at *;generalize zdw b=ys at *;have HX:=zHd hx;have HY:=zHd hy;have lx:1<=xs.length/\xs.length<=1000:=by omega
 have ly:1<=ys.length/\ys.length<=1000:=by omega
 obtain⟨lx1,lx2⟩:=lx;obtain⟨ly1,ly2⟩:=ly;clear hx hy sa sb la lb;go_enter Tryz.func175,Tryz.ntmps175;go_wp2_with fail;refine VA.out.mono ?_;rintro e w' ⟨rfl,rfl⟩;go_wp2_with fail;refine VB.out.mono ?_;rintro e w' ⟨rfl,rfl⟩;go_wp2_with fail;refine(D1.out _).mono ?_;rintro e w1 ⟨v1,rfl,hr1,hb1⟩;obtain⟨g1,c1,rfl⟩:=hr1.form;have R1:=zHd hr1;have B1:=zHd hb1;clear hr1 hb1;go_wp2_with fail;refine(D2.out _).mono ?_;rintro e w2 ⟨v2,rfl,hr2,hb2⟩;obtain⟨g2,c2,rfl⟩:=hr2.form;have R1':=zHd (R1.out.below hb2);have R2:=zHd hr2;have B2:=zHd (B1.out.trans (hb2.mono B1.out.size));clear hr2 hb2 R1 B1 VA VB D1 D2;go_wp2
 go_loopw [8,9,10] (fun l c i wr=>∃ (k y:Nat) (acc:List Nat),i=.int .i64 k/\c=.int .i64 y/\zgY xs ys k y acc/\k<=1001/\wr.ownsRow w2.heap.size 3 1 l acc.length (iv acc)/\Below w2.heap.size w2 wr) (fun _ _ i _=>1002-(intOf i).toNat)
 case atStart=>exact⟨0,0,[],rfl,rfl,zgY.start xs ys,by omega,World.ownsRow_nil _ _ _ _,Below.refl _ _⟩
 case round =>
  obtain⟨k,y,acc,rfl,rfl,hinv,hk,hown,hb⟩:=hrel;have hal:acc.length=k:=hinv.len;have hy1:=hinv.carry;have HINV:=zHd hinv;clear hinv
  by_cases hgo:k<=xs.length∨k<=ys.length
  ·have a1:=zHd (zml _ xs k wr (R1'.out.below hb) (by omega))
   have a2:=zHd (zml _ ys k wr (R2.out.below hb) (by omega));have hp:=getD_lt xs HX.out k;have hq:=getD_lt ys HY.out k;have HN:=zHd (HINV.out.step HX.out HY.out);generalize xs.getD k 0=p at *;generalize ys.getD k 0=q at *;have HE:=zHd (show((p:Int)+q+y)%10=(((p+q+y)%10:Nat):Int) by omega);have HE2:=zHd (show((p:Int)+q+y)/10=(((p+q+y)/10:Nat):Int) by omega);have p0:(0:Int)<=(p:Int):=by omega
   have p1:(p:Int)<10:=by omega
   have q0:(0:Int)<=(q:Int):=by omega
   have q1:(q:Int)<10:=by omega
   have y0:(0:Int)<=(y:Int):=by omega
   have y1:(y:Int)<=1:=by omega
   have k1:k<=1000:=by omega
   have hb1:acc.length+1<=1000000:=by omega
   have HAL:=zHd hal;clear hal hp hq hy1;rcases Nat.lt_or_ge xs.length k with hxk|hxk
   ·have hyk:k<=ys.length:=by omega
    have f1:¬ k<=xs.length:=(by omega);clear hgo;go_wp2_with fail;refine a1.out.mono ?_;rintro e w' ⟨rfl,rfl⟩;go_wp2_with fail;refine a2.out.mono ?_;rintro e w' ⟨rfl,rfl⟩;go_wp2_with (at_builtin;refine wpList_append_own _ rfl _ _ 51 rfl w2.heap.size 3 i0 (.int .i64 0) 1 8 Tryz.underlying51 hi hz0 hz1 hz2 rfl (by decide) _ _ _ rfl (hown.alloc _) ⟨wr.heap.size,0,none⟩ 1 1 [.int .i64 (((p:Int)+q+y)%10)] rfl rfl ?c1 ?c2 ?c3 ?c4 ?c5 ?_)
    case c1=>exact zfO _ _ _
    case c2=>intro u hu;simp at hu;subst hu;rfl
    case c3=>unfold maxLen;omega
    case c4=>omega
    case c5=>simp;have:=hb.size;omega
    intro v' w3 hown' hgrow _;have HB:=zHd (zeb hb _ (fun g e=>(hown.lt g e).1) hgrow);have HO:=zHd hown';clear hown hown' hgrow hb;go_wp2
    go_roundw
    case rel=>exact⟨k+1,(p+q+y)/10,acc++[(p+q+y)%10],by go_num,zqbz (Value.int .i64) HE2.out,HN.out,by omega,by
     rw[zqag,zhW,zmk,<- HE.out];exact HO.out,HB.out⟩
    case measure=>simp[intOf];omega
   ·clear hgo
    go_wp2_with fail;refine a1.out.mono ?_;rintro e w' ⟨rfl,rfl⟩;go_wp2_with fail;refine a2.out.mono ?_;rintro e w' ⟨rfl,rfl⟩;go_wp2_with (at_builtin;refine wpList_append_own _ rfl _ _ 51 rfl w2.heap.size 3 i0 (.int .i64 0) 1 8 Tryz.underlying51 hi hz0 hz1 hz2 rfl (by decide) _ _ _ rfl (hown.alloc _) ⟨wr.heap.size,0,none⟩ 1 1 [.int .i64 (((p:Int)+q+y)%10)] rfl rfl ?c1 ?c2 ?c3 ?c4 ?c5 ?_)
    case c1=>exact zfO _ _ _
    case c2=>intro u hu;simp at hu;subst hu;rfl
    case c3=>unfold maxLen;omega
    case c4=>omega
    case c5=>simp;have:=hb.size;omega
    intro v' w3 hown' hgrow _;have HB:=zHd (zeb hb _ (fun g e=>(hown.lt g e).1) hgrow);have HO:=zHd hown';clear hown hown' hgrow hb;go_wp2
    go_roundw
    case rel=>exact⟨k+1,(p+q+y)/10,acc++[(p+q+y)%10],by go_num,zqbz (Value.int .i64) HE2.out,HN.out,by omega,by
     rw[zqag,zhW,zmk,<- HE.out];exact HO.out,HB.out⟩
    case measure=>simp[intOf];omega
  ·have e1:¬ k<=xs.length:=by omega
   have e2:¬ k<=ys.length:=by omega
   have hne:acc≠[]:=by intro e;rw[e] at hal;simp at hal;omega
   have HFIN:=zHd (HINV.out.fin HX.out HY.out (by omega) (by omega));have HT:=zHd (ziX _ acc wr (ziW.of_own hown hne) HINV.out.lt (by omega));have HL:=zHd (fun w=>znU (vl 10 acc) w (by have:=zsC acc HINV.out.lt;omega));have HB:=zHd hb;clear hown hb hne hal hgo;go_wp2_with fail;refine HT.out.mono ?_;rintro e w3 ⟨rfl,hb3⟩;have B3:=zHd hb3;clear hb3;go_wp2_with fail;refine(HL.out _).mono ?_;rintro e w' ⟨he,rfl⟩;have H1:=HFIN.out;have H2:=HV.out;rw[<- H1] at H2;rw[<- H2] at he;have BB:=zHd (B2.out.trans ((HB.out.trans (B3.out.mono HB.out.size)).mono B2.out.size));have HEND:Hid (zab (zdQ a b) w (.returned (zdQ a b)) w3):=zHd ⟨rfl,zbc BB.out⟩;clear H1 H2;rcases zsD (vl 10 xs+vl 10 ys) with⟨S,E,hS⟩;have hav:zdQ a b=.tuple #[.string S,.int .i64 E]:=by rw[HV.out,hS]
   rw[hav] at he;subst he;have HEND2:=HEND.out;rw[hav] at HEND2;have HE3:=zHd HEND2;have HAV:=zHd hav;clear HEND HEND2 hav hS;go_wp2;go_ret2;rw[HAV.out];exact HE3.out
open Go.RowKit
open Go.Lib (nDigits decDigits)
structure zfP (xs ys:List Nat)(k c:Nat)(acc:List Nat):Prop where
 len:acc.length=k
 lt:∀ d∈acc,d<10
 carry:c<=1
 val:vl 10 acc+vl 10 (ys.take k)=vl 10 (xs.take k)+10 ^ k*c
theorem zfP.start (xs ys:List Nat):zfP xs ys 0 0 []:=⟨rfl,fun d h=>by simp at h,by omega,by simp[vl]⟩
theorem zfP.step {xs ys:List Nat}{k c:Nat}{acc:List Nat}(h:zfP xs ys k c acc)(d c':Nat)(hd:d<10)(hc:c'<=1)(e:d+ys.getD k 0+c=xs.getD k 0+10*c') :
  zfP xs ys (k+1) c' (acc++[d]):=by
 refine⟨by rw[zqag,h.len];rfl,fun x hx=>?_,hc,?_⟩
 ·rcases zqbo.1 hx with hx|hx
  ·exact h.lt x hx
  ·rw[zqbk.1 hx];exact hd
 ·have v:=h.val
  rw[zfA,h.len,zaH,zaH,zqbp];generalize xs.getD k 0=p at *;generalize ys.getD k 0=q at *;generalize 10 ^ k=P at *;have e1:P*(d+q+c)=P*(p+10*c'):=by rw[e]
  rw[zqbh,zqbh,zqbh,<- zqav] at e1;omega
theorem zfP.fin {xs ys:List Nat}{c:Nat}{acc:List Nat}(h:zfP xs ys xs.length c acc)(hx:∀ d∈xs,d<10)(hle:vl 10 ys<=vl 10 xs):vl 10 acc=vl 10 xs-vl 10 ys:=by
 have e:=h.val;rw[zqaf (zqab _)] at e;have a1:=zbM 10 xs hx;have a2:=zbM 10 acc h.lt;rw[h.len] at a2;have hc:=h.carry
 have hy:vl 10 (ys.take xs.length)=vl 10 ys:=by
  rcases Nat.lt_or_ge ys.length xs.length with h1|h1
  ·rw[zqaf (by omega)]
  ·have s:=zgh 10 ys xs.length h1
   rcases Nat.eq_zero_or_pos (vl 10 (ys.drop xs.length)) with h0|h0
   ·rw[h0,Nat.mul_zero] at s;omega
   ·have:=zqbd (10 ^ xs.length) h0
    omega
 rw[hy] at e
 have:c=0:=by
  rcases Nat.eq_zero_or_pos c with h0|h0
  ·exact h0
  ·obtain rfl:c=1:=by omega
   omega
 subst this;omega
def zGg (xs ys:List Nat)(w:World)(e:Ending)(w':World):Prop :=
 ∃ v zs,e=.returned v/\zge w' v zs/\(∀ d∈zs,d<10)/\vl 10 zs=vl 10 xs-vl 10 ys/\zs.length=xs.length/\Below w.heap.size w w'
theorem zom (v1 v2:Value)(xs ys:List Nat)(w:World)(hv1:zge w v1 xs)(hv2:zge w v2 ys)(hx:∀ d∈xs,d<10)(hy:∀ d∈ys,d<10)(lx:xs.length<=1000000)(ly:ys.length<=1000000)(hle:vl 10 ys<=vl 10 xs) :
  Calls Tryz.prog 215 #[v1,v2] w (zGg xs ys w):=by
 obtain⟨i0,hi,hz0,hz1,hz2⟩:=info_parts zkR;obtain⟨g1,c1,rfl⟩:=hv1.form;obtain⟨g2,c2,rfl⟩:=hv2.form;have hpos:=List.length_pos_iff.2 hv1.2;have R1:=zHd hv1;have R2:=zHd hv2;have HX:=zHd hx;have HY:=zHd hy;have HLE:=zHd hle;clear hv1 hv2 hx hy hle;go_enter Tryz.func215,Tryz.ntmps215;go_wp2
 go_loopw [5,6,7] (fun l c i wr=>∃ (k y:Nat) (acc:List Nat),i=.int .i64 k/\c=.int .i64 y/\zfP xs ys k y acc/\k<=xs.length/\wr.ownsRow w.heap.size 3 1 l acc.length (iv acc)/\Below w.heap.size w wr) (fun _ _ i _=>xs.length-(intOf i).toNat)
 case atStart=>exact⟨0,0,[],rfl,rfl,zfP.start xs ys,by omega,World.ownsRow_nil _ _ _ _,Below.refl _ _⟩
 case round =>
  obtain⟨k,y,acc,rfl,rfl,hinv,hk,hown,hb⟩:=hrel;have hal:acc.length=k:=hinv.len;have hy1:=hinv.carry;have HINV:=zHd hinv;clear hinv
  by_cases hgo:k<xs.length
  ·have a1:=zHd (zml _ xs k wr (R1.out.below hb) lx)
   have a2:=zHd (zml _ ys k wr (R2.out.below hb) ly);have hp:=getD_lt xs HX.out k;have hq:=getD_lt ys HY.out k;have HN:=zHd (fun d c' h1 h2 h3=>HINV.out.step d c' h1 h2 h3);generalize xs.getD k 0=p at *;generalize ys.getD k 0=q at *;have p0:(0:Int)<=(p:Int):=by omega
   have p1:(p:Int)<10:=by omega
   have q0:(0:Int)<=(q:Int):=by omega
   have q1:(q:Int)<10:=by omega
   have y0:(0:Int)<=(y:Int):=by omega
   have y1:(y:Int)<=1:=by omega
   have hb1:acc.length+1<=1000001:=by omega
   by_cases hneg:(p:Int)-q-y<0
   ·have HE:=zHd (show(p:Int)-q-y+10=((p+10-q-y:Nat):Int) by omega)
    have HM:=zHd (HN.out (p+10-q-y) 1 (by omega) (by omega) (by omega));clear hal hp hq hy1;go_wp2_with fail;refine a1.out.mono ?_;rintro e w' ⟨rfl,rfl⟩;go_wp2_with fail;refine a2.out.mono ?_;rintro e w' ⟨rfl,rfl⟩;go_wp2_with (at_builtin;refine wpList_append_own _ rfl _ _ 51 rfl w.heap.size 3 i0 (.int .i64 0) 1 8 Tryz.underlying51 hi hz0 hz1 hz2 rfl (by decide) _ _ _ rfl (hown.alloc _) ⟨wr.heap.size,0,none⟩ 1 1 [.int .i64 ((p:Int)-q-y+10)] rfl rfl ?c1 ?c2 ?c3 ?c4 ?c5 ?_)
    case c1=>exact zfO _ _ _
    case c2=>intro u hu;simp at hu;subst hu;rfl
    case c3=>unfold maxLen;omega
    case c4=>omega
    case c5=>simp;have:=hb.size;omega
    intro v' w3 hown' hgrow _;have HB:=zHd (zeb hb _ (fun g e=>(hown.lt g e).1) hgrow);have HO:=zHd hown';clear hown hown' hgrow hb;go_wp2
    go_roundw
    case rel=>exact⟨k+1,1,acc++[p+10-q-y],by go_num,rfl,HM.out,by omega,by
     rw[zqag,zhW,zmk,<- HE.out];exact HO.out,HB.out⟩
    case measure=>simp[intOf];omega
   ·have HE:=zHd (show(p:Int)-q-y=((p-q-y:Nat):Int) by omega)
    have HM:=zHd (HN.out (p-q-y) 0 (by omega) (by omega) (by omega));clear hal hp hq hy1;go_wp2_with fail;refine a1.out.mono ?_;rintro e w' ⟨rfl,rfl⟩;go_wp2_with fail;refine a2.out.mono ?_;rintro e w' ⟨rfl,rfl⟩;go_wp2_with (at_builtin;refine wpList_append_own _ rfl _ _ 51 rfl w.heap.size 3 i0 (.int .i64 0) 1 8 Tryz.underlying51 hi hz0 hz1 hz2 rfl (by decide) _ _ _ rfl (hown.alloc _) ⟨wr.heap.size,0,none⟩ 1 1 [.int .i64 ((p:Int)-q-y)] rfl rfl ?c1 ?c2 ?c3 ?c4 ?c5 ?_)
    case c1=>exact zfO _ _ _
    case c2=>intro u hu;simp at hu;subst hu;rfl
    case c3=>unfold maxLen;omega
    case c4=>omega
    case c5=>simp;have:=hb.size;omega
    intro v' w3 hown' hgrow _;have HB:=zHd (zeb hb _ (fun g e=>(hown.lt g e).1) hgrow);have HO:=zHd hown';clear hown hown' hgrow hb;go_wp2
    go_roundw
    case rel=>exact⟨k+1,0,acc++[p-q-y],by go_num,rfl,HM.out,by omega,by
     rw[zqag,zhW,zmk,<- HE.out];exact HO.out,HB.out⟩
    case measure=>simp[intOf];omega
  ·obtain rfl:k=xs.length:=by omega
   have hne:acc≠[]:=by intro e;rw[e] at hal;simp at hal;omega
   have HR:=zHd (show zge wr u5 acc from⟨ziW.of_own hown hne,hne⟩);have HFIN:=zHd (HINV.out.fin HX.out HLE.out);have HAL:=zHd hal;have HB:=zHd hb;clear hown hb hne hal;go_wp2;go_ret;exact⟨_,acc,rfl,HR.out,HINV.out.lt,HFIN.out,HAL.out,HB.out⟩
open Go.RowKit
open Go.Lib (nDigits decDigits)
theorem zzB (a b:ByteArray)(w:World)(ha:a.size<=maxLen)(hb:b.size<=maxLen)(na:zan a=false) :
  Calls Tryz.prog 175 #[.string a,.string b] w (zab (zdQ a b) w):=by
 have HV:=zHd (show zdQ a b=.tuple #[.string ⟨#[]⟩,.int .i64 1] by unfold zdQ;rw[na];rfl);have va:=zas a w ha;have vb:=zas b w hb;rw[na] at va;have VA:=zHd va;have VB:=zHd vb;clear va vb ha hb na;go_enter Tryz.func175,Tryz.ntmps175;go_wp2_with fail;refine VA.out.mono ?_;rintro e w' ⟨rfl,rfl⟩;go_wp2;go_ret2;rw[HV.out];exact⟨rfl,zaf _ _⟩
theorem zzC (a b:ByteArray)(w:World)(ha:a.size<=maxLen)(hb:b.size<=maxLen)(na:zan a=true)(nb:zan b=false) :
  Calls Tryz.prog 175 #[.string a,.string b] w (zab (zdQ a b) w):=by
 have HV:=zHd (show zdQ a b=.tuple #[.string ⟨#[]⟩,.int .i64 1] by unfold zdQ;rw[na,nb];rfl);have va:=zas a w ha;have vb:=zas b w hb;rw[na] at va;rw[nb] at vb;have VA:=zHd va;have VB:=zHd vb;clear va vb ha hb na nb;go_enter Tryz.func175,Tryz.ntmps175;go_wp2_with fail;refine VA.out.mono ?_;rintro e w' ⟨rfl,rfl⟩;go_wp2_with fail;refine VB.out.mono ?_;rintro e w' ⟨rfl,rfl⟩;go_wp2;go_ret2;rw[HV.out];exact⟨rfl,zaf _ _⟩
theorem zGh (a b:ByteArray)(w:World)(ha:a.size<=maxLen)(hb:b.size<=maxLen) :
  Calls Tryz.prog 175 #[.string a,.string b] w (zab (zdQ a b) w):=by
 cases na:zan a
 ·exact zzB a b w ha hb na
 cases nb:zan b
 ·exact zzC a b w ha hb na nb
 exact zGf a b w na nb
theorem zzD (a b:ByteArray)(w:World)(ha:a.size<=maxLen)(hb:b.size<=maxLen)(na:zan a=false) :
  Calls Tryz.prog 177 #[.string a,.string b] w (zab (zds a b) w):=by
 have HV:=zHd (show zds a b=.tuple #[.string ⟨#[]⟩,.int .i64 1] by unfold zds;rw[na];rfl);have va:=zas a w ha;have vb:=zas b w hb;rw[na] at va;have VA:=zHd va;have VB:=zHd vb;clear va vb ha hb na;go_enter Tryz.func177,Tryz.ntmps177;go_wp2_with fail;refine VA.out.mono ?_;rintro e w' ⟨rfl,rfl⟩;go_wp2;go_ret2;rw[HV.out];exact⟨rfl,zaf _ _⟩
theorem zzE (a b:ByteArray)(w:World)(ha:a.size<=maxLen)(hb:b.size<=maxLen)(na:zan a=true)(nb:zan b=false) :
  Calls Tryz.prog 177 #[.string a,.string b] w (zab (zds a b) w):=by
 have HV:=zHd (show zds a b=.tuple #[.string ⟨#[]⟩,.int .i64 1] by unfold zds;rw[na,nb];rfl);have va:=zas a w ha;have vb:=zas b w hb;rw[na] at va;rw[nb] at vb;have VA:=zHd va;have VB:=zHd vb;clear va vb ha hb na nb;go_enter Tryz.func177,Tryz.ntmps177;go_wp2_with fail;refine VA.out.mono ?_;rintro e w' ⟨rfl,rfl⟩;go_wp2_with fail;refine VB.out.mono ?_;rintro e w' ⟨rfl,rfl⟩;go_wp2;go_ret2;rw[HV.out];exact⟨rfl,zaf _ _⟩
theorem zGi (a b:ByteArray)(w:World)(na:zan a=true)(nb:zan b=true) :
  Calls Tryz.prog 177 #[.string a,.string b] w (zab (zds a b) w):=by
 have va:=zas a w (zbm na);have vb:=zas b w (zbm nb);rw[na] at va;rw[nb] at vb;have VA:=zHd va;have VB:=zHd vb;have rc:=zgX a b w na nb;clear va vb
 by_cases hlt:nv a<nv b
 ·have HV:=zHd (show zds a b=.tuple #[.string ⟨#[]⟩,.int .i64 4] by rw[zIN a b na nb hlt])
  rw[show zbF (nv a) (nv b) = -1 by unfold zbF;rw[if_pos hlt]] at rc;have RC:=zHd rc;clear na nb hlt rc;go_enter Tryz.func177,Tryz.ntmps177;go_wp2_with fail;refine VA.out.mono ?_;rintro e w' ⟨rfl,rfl⟩;go_wp2_with fail;refine VB.out.mono ?_;rintro e w' ⟨rfl,rfl⟩;go_wp2_with fail;refine RC.out.mono ?_;rintro e w1 ⟨rfl,hg⟩;have G:=zHd hg;clear hg;go_wp2;go_ret2;rw[HV.out];exact⟨rfl,G.out⟩
 ·have HV:=zHd (show zds a b=.tuple #[.string (zah (nv a-nv b)),.int .i64 0] by unfold zds;rw[na,nb];simp only[Bool.and_self,if_true];rw[if_neg hlt])
  obtain⟨d,hd,hd0⟩:∃ d:Int,zbF (nv a) (nv b)=d/\¬ d<0:=⟨_,rfl,by have:=zeZ (nv a) (nv b);omega⟩;rw[hd] at rc;have RC:=zHd rc;have D1:=zHd (fun w=>zda a w na);have D2:=zHd (fun w=>zda b w nb);have hx:=zey a na;have hy:=zey b nb;have sa:=zbZ a na;have sb:=zbZ b nb;have la:=zen a;have lb:=zen b;have xa:=zem a;have xb:=zem b;have hle:vl 10 (zdw b)<=vl 10 (zdw a):=by omega
  rw[<- xa,<- xb] at HV;clear na nb rc hd xa xb hlt;generalize zdw a=xs at *;generalize zdw b=ys at *;have HX:=zHd hx;have HY:=zHd hy;have HLE:=zHd hle;have lx2:xs.length<=1000:=by omega
  have ly2:ys.length<=1000:=by omega
  clear hx hy sa sb la lb hle;go_enter Tryz.func177,Tryz.ntmps177;go_wp2_with fail;refine VA.out.mono ?_;rintro e w' ⟨rfl,rfl⟩;go_wp2_with fail;refine VB.out.mono ?_;rintro e w' ⟨rfl,rfl⟩;go_wp2_with fail;refine RC.out.mono ?_;rintro e w0 ⟨rfl,hg⟩;have G0:=zHd hg;clear hg VA VB RC;go_wp2_with fail;refine(D1.out _).mono ?_;rintro e w1 ⟨v1,rfl,hr1,hb1⟩;have R1:=zHd hr1;have B1:=zHd hb1;clear hr1 hb1;go_wp2_with fail;refine(D2.out _).mono ?_;rintro e w2 ⟨v2,rfl,hr2,hb2⟩;have R1':=zHd (R1.out.below hb2);have R2:=zHd hr2;have B2:=zHd (B1.out.trans (hb2.mono B1.out.size));clear hr2 hb2 R1 B1 D1 D2;go_wp2_with fail;refine(zom v1 v2 xs ys w2 R1'.out R2.out HX.out HY.out (by omega) (by omega) HLE.out).mono ?_;rintro e w3 ⟨v3,zs,rfl,hr3,hz,hval,hlen,hb3⟩;have B3:=zHd (B2.out.trans (hb3.mono B2.out.size));have R3:=zHd hr3;have hT:=ziX v3 zs w3 hr3.1 hz (by omega);rw[hval] at hT;have HT:=zHd hT;clear hr3 hz hval hlen hb3 hT;go_wp2_with fail;refine HT.out.mono ?_;rintro e w4 ⟨rfl,hb4⟩;have BB:=zHd (zaa G0.out (zbc (B3.out.trans (hb4.mono B3.out.size))));clear hb4;generalize zah (vl 10 xs-vl 10 ys)=S at *;go_wp2;go_ret2;rw[HV.out];exact⟨rfl,BB.out⟩
theorem zuN (a b:ByteArray)(w:World)(ha:a.size<=maxLen)(hb:b.size<=maxLen) :
  Calls Tryz.prog 177 #[.string a,.string b] w (zab (zds a b) w):=by
 cases na:zan a
 ·exact zzD a b w ha hb na
 cases nb:zan b
 ·exact zzE a b w ha hb na nb
 exact zGi a b w na nb
open Go.RowKit
def natE (k:Int)(u v:Ext):Prop:=zbT k v u<=0
theorem zGj {u v t s:Ext}(hu:zap 2 u=true)(hv:zap 2 v=true)(ht:zap 2 t=true)(hs:zap 2 s=true)(h:leE u v)(k:leE t s):leE (zde u t) (zde v s):=by
 rcases zaA v hv with rfl|⟨y,rfl,hy⟩
 ·rw[zbD];exact zcB _
 rcases zaA s hs with rfl|⟨z,rfl,hz⟩
 ·rw[zbq];exact zcB _
 rcases zaA u hu with rfl|⟨x,rfl,hx⟩
 ·exact absurd h (zcd _)
 rcases zaA t ht with rfl|⟨w,rfl,hw⟩
 ·exact absurd k (zcd _)
 rw[zbU,zbU];refine(zbH _ _).2 ?_;have h1:=(zbH _ _).1 h;have h2:=(zbH _ _).1 k;exact zqar ((Rat.add_le_add_right (c:=w)).2 h1) ((Rat.add_le_add_left (c:=y)).2 h2)
theorem zpL (a b x:Ext)(h:leE x (zco b (zci a x))):leE x (zci (zdv 1 a) b):=by
 obtain⟨h1,h2⟩:=(zhq x b (zci a x)).1 h;show leE x (zci (if zbs a (.inr 0)<0 then .inl false else .inr 0) b)
 by_cases ha:zbs a (.inr 0)<0
 ·rw[if_pos ha]
  rcases b with(_|_)|y
  ·
   show leE x (.inl false);rcases x with(_|_)|q
   ·exact zcH _
   ·exact absurd h1 zjS
   ·exact absurd h1 (zfY q)
  ·exact zcB x
  ·show leE x (.inl false)
   rcases x with(_|_)|q
   ·exact zcH _
   ·exact absurd h1 (zcd y)
   ·rcases a with(_|_)|r
    ·exact absurd h2 (zfY q)
    ·exact absurd (show(1:Int)<0 from ha) (by decide)
    ·have h3:q<=r+q:=(zbH _ _).1 h2
     have h4:r<0:=(zfo r 0).1 ha;have h5:r+q<0+q:=(Rat.add_lt_add_right (c:=q)).2 h4;rw[Rat.zero_add] at h5;exact absurd h3 (Rat.not_le.2 h5)
 ·rw[if_neg ha,zme,zmf]
  exact h1
theorem znV {r q:Rat}(hr:1<r)(hq:0<q):q<r*q:=by
 have h:=Rat.mul_lt_mul_of_pos_right hr hq
 rwa [Rat.one_mul] at h
theorem zpM (a b x:Ext)(ha:zap 2 a=true)(hb:zap 2 b=true)(hx:zap 2 x=true)(h:leE (zbN b (zaK a x)) x):leE (zaK (zdv 3 a) b) x:=by
 obtain⟨h1,h2⟩:=(zhr x b (zaK a x)).1 h;show leE (zaK (if 0<zbs a (.inr 1) then .inl true else .inr 1) b) x
 by_cases hs:0<zbs a (.inr 1)
 ·rw[if_pos hs]
  rcases zaA x hx with rfl|⟨q,rfl,hq⟩
  ·exact zcB _
  rcases zaA b hb with rfl|⟨y,rfl,hy⟩
  ·exact absurd h1 (zcd q)
  by_cases zy:y=0
  ·subst zy;rw[zaI];exact(zbH _ _).2 hq
  ·have hyq:y<=q:=(zbH _ _).1 h1
   have hy0:0<y:=by
    rcases Rat.le_iff_lt_or_eq.1 hy with h|h
    ·exact h
    ·exact absurd h.symm zy
   have hq0:0<q:=Rat.not_le.1 (fun e=>Rat.not_le.2 hy0 (zqar hyq e));have hqn:q≠0:=fun e=>by rw[e] at hq0;exact Rat.lt_irrefl hq0
   rcases zaA a ha with rfl|⟨r,rfl,hr⟩
   ·rw[zaP hqn] at h2;exact absurd h2 (zcd q)
   ·rw[zbr] at h2
    have h3:r*q<=q:=(zbH _ _).1 h2
    have h4:1<r:=by
     have hc:0<zcv r 1:=hs;have:=zmd r 1;exact(zfo 1 r).1 (by omega)
    exact absurd h3 (Rat.not_le.2 (znV h4 hq0))
 ·rw[if_neg hs,zmh _ _ (by decide +kernel) hb,zkQ b hb]
  exact h1
theorem zrj (a b x:Ext)(ha:zap 2 a=true)(hb:zap 2 b=true)(hx:zap 2 x=true)(h:leE (zde b (zaK a x)) x):leE (zaK (zdv 2 a) b) x:=by
 rcases zaA x hx with rfl|⟨q,rfl,hq⟩
 ·exact zcB _
 rcases zaA b hb with rfl|⟨y,rfl,hy⟩
 ·rw[zbD] at h;exact absurd h (zcd q)
 rcases zaA a ha with rfl|⟨r,rfl,hr⟩
 ·
  by_cases zq:q=0
  ·subst zq
   rw[zaI,zbU,Rat.add_zero] at h;have h1:y<=0:=(zbH _ _).1 h;have h2:y=0:=Rat.le_antisymm h1 hy;subst h2;rw[zaI];exact zcH _
  ·rw[zaP zq,zbq] at h;exact absurd h (zcd q)
 ·rw[zbr,zbU] at h
  have h1:y+r*q<=q:=(zbH _ _).1 h;show leE (zaK (if r<1 then .inr (1/(1-r)) else .inl true) (.inr y)) (.inr q)
  by_cases hr1:r<1
  ·rw[if_pos hr1,zbr]
   refine(zbH _ _).2 ?_;have h0:0<1-r:=(Rat.lt_iff_sub_pos r 1).1 hr1
   have h2:y<=q*(1-r):=by
    rw[Rat.sub_eq_add_neg,Rat.mul_add,Rat.mul_one,Rat.mul_neg,Rat.mul_comm q r];have h3:=(Rat.add_le_add_right (c := -(r*q))).2 h1
    rwa [Rat.add_assoc,Rat.add_neg_cancel,Rat.add_zero] at h3
   have h4:=zqai h2 (znT hr1)
   have h5:1/(1-r)*(q*(1-r))=q:=by
    rw[Rat.mul_comm q,<- Rat.mul_assoc,Rat.div_mul_cancel (fun e=>by rw[e] at h0;exact Rat.lt_irrefl h0),Rat.one_mul]
   rwa [h5] at h4
  ·rw[if_neg hr1]
   have h2:1<=r:=Rat.not_lt.1 hr1
   have h3:q<=r*q:=by
    have:=Rat.mul_le_mul_of_nonneg_right h2 hq
    rwa [Rat.one_mul] at this
   have h4:y<=0:=by
    have h5:y+q<=y+r*q:=(Rat.add_le_add_left (c:=y)).2 h3;have h6:=zqar h5 h1;have h7:=(Rat.add_le_add_right (c := -q)).2 h6
    rwa [Rat.add_assoc,Rat.add_neg_cancel,Rat.add_zero] at h7
   have h8:y=0:=Rat.le_antisymm h4 hy;subst h8;rw[zaI];exact(zbH _ _).2 hq
def El (k:Int):Type := { v:Ext // zap k v=true }
def srE (k:Int)(hk:zad k):Sr (El k) where
 add u v:=⟨zcP k u.1 v.1,zFX hk u.2 v.2⟩
 mul u v:=⟨zbt k u.1 v.1,zCx hk u.2 v.2⟩
 zero:=⟨zhI k,zCy hk⟩
 one:=⟨zhV k,zFY hk⟩
 star u:=⟨zdv k u.1,zGa hk u.1 u.2⟩
 le u v:=natE k u.1 v.1
 add_comm u v:=Subtype.ext (zCz hk u.2 v.2)
 add_assoc u v t:=Subtype.ext (zzx hk u.2 v.2 t.2)
 add_zero u:=Subtype.ext (zCA hk u.2)
 mul_comm u v:=Subtype.ext (zgW hk u.2 v.2)
 mul_assoc u v t:=Subtype.ext (zwY hk u.2 v.2 t.2)
 mul_add u v t:=Subtype.ext (zzy hk u.2 v.2 t.2)
 mul_one u:=Subtype.ext (zCB hk u.2)
 mul_zero u:=Subtype.ext (zzz hk u.1)
 star_law u:=Subtype.ext (star_law hk u.1 u.2)
 le_refl u:=by show zbT k u.1 u.1<=0;rw[(znS k u.1 u.1).2 rfl];exact Int.le_refl 0
 le_trans u v t h j:=zuI k t.1 v.1 u.1 j h
 le_anti u v h j:=Subtype.ext ((znS k u.1 v.1).1 (by
  have h1:zbT k v.1 u.1<=0:=h;have h2:zbT k u.1 v.1<=0:=j;have:=zwZ k u.1 v.1;omega))
 add_mono u v t s h j:=by
  rcases hk with rfl|rfl|rfl
  ·have h1:leE v.1 u.1:=h
   have h2:leE s.1 t.1:=j;show leE (zco v.1 s.1) (zco u.1 t.1);refine(zhq _ _ _).2 ⟨?_,?_⟩
   ·exact zeI ((zhq _ _ _).1 (zcH (zco v.1 s.1))).1 h1
   ·exact zeI ((zhq _ _ _).1 (zcH (zco v.1 s.1))).2 h2
  ·exact zGj u.2 v.2 t.2 s.2 h j
  ·have h1:leE u.1 v.1:=h
   have h2:leE t.1 s.1:=j;show leE (zbN u.1 t.1) (zbN v.1 s.1);refine(zhr _ _ _).2 ⟨?_,?_⟩
   ·exact zeI h1 ((zhr _ _ _).1 (zcH (zbN v.1 s.1))).1
   ·exact zeI h2 ((zhr _ _ _).1 (zcH (zbN v.1 s.1))).2
 mul_mono u v t h:=by
  have h2:=zuJ hk v.2 u.2 t.2 h;show zbT k (zbt k t.1 v.1) (zbt k t.1 u.1)<=0;rw[zgW hk t.2 v.2,zgW hk t.2 u.2];exact h2
 zero_le u:=by
  rcases hk with rfl|rfl|rfl
  ·exact zcB _
  ·rcases zaA u.1 u.2 with e|⟨x,e,hx⟩
   ·show leE (.inr 0) u.1;rw[e];exact zcB _
   ·show leE (.inr 0) u.1;rw[e];exact(zbH _ _).2 hx
  ·have hu:=u.2
   rw[<- zcA] at hu;rcases zaA u.1 hu with e|⟨x,e,hx⟩
   ·show leE (.inr 0) u.1;rw[e];exact zcB _
   ·show leE (.inr 0) u.1;rw[e];exact(zbH _ _).2 hx
 star_least a b x h:=by
  rcases hk with rfl|rfl|rfl
  ·exact zpL a.1 b.1 x.1 h
  ·exact zrj a.1 b.1 x.1 a.2 b.2 x.2 h
  ·have h1:=a.2;have h2:=b.2;have h3:=x.2
   rw[<- zcA] at h1 h2 h3;exact zpM a.1 b.1 x.1 h1 h2 h3 h
def rs:Nat->(Nat->Rat)->Rat
 | 0,_=>0
 | n+1,f=>rs n f+f n
theorem zbg {f g:Nat->Rat}:∀ {n:Nat},(∀ m,m<n->f m=g m)->rs n f=rs n g
 | 0,_=>rfl
 | n+1,h=>by unfold rs;rw[zbg (fun m hm=>h m (by omega)),h n (by omega)]
theorem zgZ (f g:Nat->Rat):∀ n,rs n (fun m=>f m+g m)=rs n f+rs n g
 | 0=>(Rat.add_zero 0).symm
 | n+1=>by unfold rs;rw[zgZ f g n];grind
theorem zdJ (c:Rat)(f:Nat->Rat):∀ n,rs n (fun m=>c*f m)=c*rs n f
 | 0=>by simp[rs]
 | n+1=>by unfold rs;rw[zdJ c f n];grind
theorem ziI {f:Nat->Rat}:∀ {n:Nat},(∀ m,m<n->f m=0)->rs n f=0
 | 0,_=>rfl
 | n+1,h=>by unfold rs;rw[ziI (fun m hm=>h m (by omega)),h n (by omega)];grind
theorem zyn (f:Nat->Nat->Rat)(n:Nat):∀ k,rs n (fun i=>rs k (fun j=>f i j))=rs k (fun j=>rs n (fun i=>f i j))
 | 0=>ziI (fun _ _=>rfl)
 | k+1=>by
  show rs n (fun i=>rs k (fun j=>f i j)+f i k)=rs k (fun j=>rs n (fun i=>f i j))+rs n (fun i=>f i k);rw[zgZ,zyn f n k]
theorem zjA {f g:Nat->Rat}:∀ {n:Nat},(∀ m,m<n->f m<=g m)->rs n f<=rs n g
 | 0,_=>Rat.le_refl
 | n+1,h=>by
  have h1:=zjA (n:=n) (fun m hm=>h m (by omega));have h2:=h n (by omega);unfold rs;grind
def sk (c x:Nat):Nat:=if x<c then x else x+1
theorem zKU (c x:Nat):sk c x≠c:=by unfold sk;split <;> omega
theorem zIc {c x n:Nat}(h:x<n):sk c x<n+1:=by unfold sk;split <;> omega
theorem zId (f:Nat->Rat){c:Nat}:∀ {n:Nat},c<=n->rs n (fun x=>f (sk c x))=rs (n+1) (fun b=>if b=c then 0 else f b)
 | 0,h=>by
  have:c=0:=by omega
  subst this;exact(Rat.add_zero 0).symm
 | n+1,h=>by
  by_cases e:c=n+1
  ·subst e
   show rs (n+1) (fun x=>f (sk (n+1) x))=rs (n+1) (fun b=>if b=n+1 then 0 else f b)+(if n+1=n+1 then 0 else f (n+1));rw[if_pos rfl,Rat.add_zero];refine zbg (fun m hm=>?_);rw[if_neg (by omega)];unfold sk;rw[if_pos hm]
  ·have ih:=zId f (c:=c) (n:=n) (by omega)
   show rs n (fun x=>f (sk c x))+f (sk c n)=rs (n+1) (fun b=>if b=c then 0 else f b)+(if n+1=c then 0 else f (n+1));rw[ih,if_neg (fun h=>e h.symm)];have:sk c n=n+1:=by unfold sk;rw[if_neg (by omega)]
   rw[this]
def sg7 (c:Nat):Rat:=if c%2=0 then 1 else -1
theorem zuO (c:Nat):sg7 (c+1) = -sg7 c:=by unfold sg7;split <;> split <;> (try omega) <;> grind
def dt:Nat->(Nat->Nat->Rat)->Rat
 | 0,_=>1
 | k+1,V=>rs (k+1) (fun c=>sg7 c*V 0 c*dt k (fun i x=>V (i+1) (sk c x)))
theorem zbE:∀ {k:Nat} {V W:Nat->Nat->Rat},(∀ i x,i<k->x<k->V i x=W i x)->dt k V=dt k W
 | 0,_,_,_=>rfl
 | k+1,V,W,h=>by
  unfold dt;refine zbg (fun c hc=>?_);rw[h 0 c (by omega) hc,zbE (fun i x hi hx=>h (i+1) (sk c x) (by omega) (zIc hx))]
def up (V:Nat->Nat->Rat)(r:Nat)(u:Nat->Rat)(i x:Nat):Rat:=if i=r then u x else V i x
theorem zgE:∀ {k:Nat} (V:Nat->Nat->Rat) {r:Nat} (u w:Nat->Rat) (s t:Rat),r<k->dt k (up V r (fun x=>s*u x+t*w x))=s*dt k (up V r u)+t*dt k (up V r w)
 | k+1,V,r,u,w,s,t,h=>by
  unfold dt;rw[<- zdJ,<- zdJ,<- zgZ];refine zbg (fun c hc=>?_)
  by_cases e:r=0
  ·subst e
   have e1:∀ z:Nat->Rat,dt k (fun i x=>up V 0 z (i+1) (sk c x))=dt k (fun i x=>V (i+1) (sk c x)):=fun z=>zbE (fun i x _ _=>by unfold up;rw[if_neg (by omega)]);rw[e1,e1,e1];simp only[up,if_true];grind
  ·obtain⟨r',rfl⟩:∃ r',r=r'+1:=⟨r-1,by omega⟩
   have e1:∀ z:Nat->Rat,dt k (fun i x=>up V (r'+1) z (i+1) (sk c x))=dt k (up (fun i x=>V (i+1) (sk c x)) r' (fun x=>z (sk c x))):=fun z=>zbE (fun i x _ _=>by
    unfold up
    by_cases e2:i=r'
    ·rw[if_pos (by omega),if_pos e2]
    ·rw[if_neg (by omega),if_neg e2])
   rw[e1,e1,e1,zgE (fun i x=>V (i+1) (sk c x)) (fun x=>u (sk c x)) (fun x=>w (sk c x)) s t (by omega)];have e3:∀ z:Nat->Rat,up V (r'+1) z 0 c=V 0 c:=fun z=>by unfold up;rw[if_neg (by omega)]
   rw[e3,e3,e3];grind
theorem zKV {a b x:Nat}(h:a<b):sk a (sk (b-1) x)=sk b (sk a x):=by
 unfold sk
 by_cases h1:x<a
 ·rw[if_pos h1,if_pos (show x<b-1 by omega),if_pos h1,if_pos (by omega)]
 ·rw[if_neg h1]
  by_cases h2:x<b-1
  ·rw[if_pos h2,if_neg h1,if_pos (by omega)]
  ·rw[if_neg h2,if_neg (by omega),if_neg (by omega)]
def d2 (k:Nat)(V:Nat->Nat->Rat)(a b:Nat):Rat:=dt k (fun i x=>V (i+2) (if a<b then sk a (sk (b-1) x) else sk b (sk (a-1) x)))
def s2 (a b:Nat):Rat:=if a=b then 0 else if a<b then sg7 a*sg7 (b-1) else sg7 a*sg7 b
theorem zIY (a b:Nat):s2 b a = -s2 a b:=by
 unfold s2
 by_cases e:a=b
 ·subst e;rw[if_pos rfl];grind
 ·rw[if_neg e,if_neg (Ne.symm e)]
  by_cases h:a<b
  ·rw[if_pos h,if_neg (by omega)]
   obtain⟨c,rfl⟩:∃ c,b=c+1:=⟨b-1,by omega⟩;rw[zuO,Nat.add_sub_cancel];grind
  ·rw[if_neg h,if_pos (by omega)]
   obtain⟨c,rfl⟩:∃ c,a=c+1:=⟨a-1,by omega⟩;rw[zuO,Nat.add_sub_cancel];grind
theorem zIZ (k:Nat)(V:Nat->Nat->Rat){a b:Nat}(h:a≠b):d2 k V a b=d2 k V b a:=by
 unfold d2
 by_cases h1:a<b
 ·simp only[h1,show ¬ b<a by omega,if_true,if_false]
 ·simp only[h1,show b<a by omega,if_true,if_false]
theorem zCD (k:Nat)(V:Nat->Nat->Rat):dt (k+2) V=rs (k+2) (fun a=>rs (k+2) (fun b=>s2 a b*V 0 a*V 1 b*d2 k V a b)):=by
 show rs (k+2) (fun a=>sg7 a*V 0 a*dt (k+1) (fun i x=>V (i+1) (sk a x)))=_;refine zbg (fun a ha=>?_);have h:=zId (fun b=>s2 a b*V 0 a*V 1 b*d2 k V a b) (c:=a) (n:=k+1) (by omega)
 have h0:rs (k+2) (fun b=>if b=a then 0 else s2 a b*V 0 a*V 1 b*d2 k V a b)=rs (k+2) (fun b=>s2 a b*V 0 a*V 1 b*d2 k V a b):=by
  refine zbg (fun b _=>?_)
  by_cases e:b=a
  ·subst e;rw[if_pos rfl];unfold s2;rw[if_pos rfl];grind
  ·rw[if_neg e]
 rw[<- h0];refine Eq.trans ?_ h;show sg7 a*V 0 a*rs (k+1) (fun c=>sg7 c*V 1 (sk a c)*dt k (fun i x=>V (i+2) (sk a (sk c x))))=_;rw[<- zdJ];refine zbg (fun c hc=>?_);unfold s2 d2;rw[if_neg (Ne.symm (zKU a c))]
 by_cases h1:c<a
 ·have e:sk a c=c:=by unfold sk;rw[if_pos h1]
  have n1:¬ a<c:=by omega
  rw[e];simp only[n1,if_false];have e2:dt k (fun i x=>V (i+2) (sk a (sk c x)))=dt k (fun i x=>V (i+2) (sk c (sk (a-1) x))):=zbE (fun i x _ _=>by rw[zKV h1]);rw[e2];grind
 ·have e:sk a c=c+1:=by unfold sk;rw[if_neg h1]
  have n1:a<c+1:=by omega
  rw[e];simp only[n1,if_true,Nat.add_sub_cancel];grind
theorem zGk (k:Nat)(V W:Nat->Nat->Rat)(h0:∀ x,W 0 x=V 1 x)(h1:∀ x,W 1 x=V 0 x)(h:∀ i x,W (i+2) x=V (i+2) x):dt (k+2) W = -dt (k+2) V:=by
 rw[zCD,zCD,zyn]
 have e:(-(rs (k+2) (fun a=>rs (k+2) (fun b=>s2 a b*V 0 a*V 1 b*d2 k V a b))))=rs (k+2) (fun a=>rs (k+2) (fun b => -(s2 a b*V 0 a*V 1 b*d2 k V a b))):=by
  have h3:=zdJ (-1) (fun a=>rs (k+2) (fun b=>s2 a b*V 0 a*V 1 b*d2 k V a b)) (k+2)
  have h4:∀ a,(-1:Rat)*rs (k+2) (fun b=>s2 a b*V 0 a*V 1 b*d2 k V a b)=rs (k+2) (fun b => -(s2 a b*V 0 a*V 1 b*d2 k V a b)):=fun a=>by
   rw[<- zdJ];exact zbg (fun b _=>by grind)
  rw[zbg (fun a _=>h4 a)] at h3;grind
 rw[e];refine zbg (fun a _=>zbg (fun b _=>?_));rw[h0,h1,zIY]
 by_cases e:a=b
 ·subst e;have:s2 a a=0:=by unfold s2;rw[if_pos rfl]
  rw[this];grind
 ·have e2:d2 k W b a=d2 k V a b:=by
   rw[zIZ k V e];unfold d2;exact zbE (fun i x _ _=>h i _)
  rw[e2];grind
theorem zrk:∀ (k:Nat) (V W:Nat->Nat->Rat) {r:Nat},r+1<k->(∀ x,W r x=V (r+1) x)->(∀ x,W (r+1) x=V r x)->(∀ i x,i≠r->i≠r+1->W i x=V i x)->dt k W = -dt k V
 | k+1,V,W,0,hr,h0,h1,h=>by
  obtain⟨k',rfl⟩:∃ k',k=k'+1:=⟨k-1,by omega⟩;exact zGk k' V W h0 h1 (fun i x=>h (i+2) x (by omega) (by omega))
 | k+1,V,W,r+1,hr,h0,h1,h=>by
  unfold dt
  have e : -(rs (k+1) (fun c=>sg7 c*V 0 c*dt k (fun i x=>V (i+1) (sk c x))))=rs (k+1) (fun c => -(sg7 c*V 0 c*dt k (fun i x=>V (i+1) (sk c x)))):=by
   have h3:=zdJ (-1) (fun c=>sg7 c*V 0 c*dt k (fun i x=>V (i+1) (sk c x))) (k+1);rw[zbg (g:=fun c => -(sg7 c*V 0 c*dt k (fun i x=>V (i+1) (sk c x)))) (fun c _=>by grind)] at h3;grind
  rw[e];refine zbg (fun c hc=>?_);rw[h 0 c (by omega) (by omega),zrk k (fun i x=>V (i+1) (sk c x)) (fun i x=>W (i+1) (sk c x)) (r:=r) (by omega) (fun x=>h0 _) (fun x=>h1 _) (fun i x hi hi2=>h (i+1) _ (by omega) (by omega))];grind
theorem ziY:∀ (d k:Nat) (V:Nat->Nat->Rat) {r:Nat},r+d+1<k->(∀ x,V r x=V (r+d+1) x)->dt k V=0
 | 0,k,V,r,hr,h=>by
  have h1:=zrk k V V (r:=r) hr h (fun x=>(h x).symm) (fun _ _ _ _=>rfl);grind
 | d+1,k,V,r,hr,h=>by
  have h1:=zrk k V (fun i x=>if i=r+d+1 then V (r+d+2) x else if i=r+d+2 then V (r+d+1) x else V i x) (r:=r+d+1) (by omega) (fun x=>by rw[if_pos rfl]) (fun x=>by rw[if_neg (by omega),if_pos rfl]) (fun i x hi hi2=>by rw[if_neg hi,if_neg hi2])
  have h2:=ziY d k (fun i x=>if i=r+d+1 then V (r+d+2) x else if i=r+d+2 then V (r+d+1) x else V i x) (r:=r) (by omega) (fun x=>by
   rw[if_neg (by omega),if_neg (by omega),if_pos rfl];exact h x)
  grind
theorem zGl {k:Nat}(V:Nat->Nat->Rat){r s:Nat}(t:Rat)(hr:r<k)(hs:s<r):dt k (up V r (fun x=>V r x+t*V s x))=dt k V:=by
 have h:=zgE V (V r) (V s) 1 t hr;have e1:dt k (up V r (V r))=dt k V:=zbE (fun i x _ _=>by unfold up;split;rename_i e;rw[e];rfl)
 have e2:dt k (up V r (V s))=0:=by
  obtain⟨d,rfl⟩:∃ d,r=s+d+1:=⟨r-s-1,by omega⟩;exact ziY d k _ (r:=s) hr (fun x=>by unfold up;rw[if_neg (by omega),if_pos rfl])
 rw[e1,e2] at h;rw[zbE (W:=up V r (fun x=>1*V r x+t*V s x)) (fun i x _ _=>by unfold up;split;grind;rfl),h];grind
theorem zCE {k:Nat}(V:Nat->Nat->Rat)(x:Nat->Rat)(e:Nat->Rat)(h:∀ c,c<k+1->e c=rs (k+1) (fun i=>x i*V i c)):dt (k+1) (up V 0 e)=x 0*dt (k+1) V:=by
 have step:∀ n,n<=k+1->dt (k+1) (up V 0 (fun c=>rs n (fun i=>x i*V i c)))=if n=0 then 0 else x 0*dt (k+1) V:=fun n=>by
  induction n with
  | zero =>
   intro _;rw[if_pos rfl];have h2:=zgE V (k:=k+1) (r:=0) (fun _=>0) (fun _=>0) 0 0 (by omega);rw[zbE (W:=up V 0 (fun x=>(0:Rat)*0+0*0)) (fun i x _ _=>by unfold up;split;exact(show(0:Rat)=0*0+0*0 by grind);rfl),h2];grind
  | succ n ih =>
   intro hn;rw[if_neg (Nat.succ_ne_zero n)];have h2:=zgE V (k:=k+1) (r:=0) (fun c=>rs n (fun i=>x i*V i c)) (V n) 1 (x n) (by omega);rw[zbE (W:=up V 0 (fun c=>1*rs n (fun i=>x i*V i c)+x n*V n c)) (fun i c _ _=>by unfold up;split;exact(show rs n (fun i=>x i*V i c)+x n*V n c=1*rs n (fun i=>x i*V i c)+x n*V n c by grind);rfl),h2,ih (by omega)]
   by_cases e:n=0
   ·subst e
    rw[if_pos rfl];have e1:dt (k+1) (up V 0 (V 0))=dt (k+1) V:=zbE (fun i x _ _=>by unfold up;split;rename_i e;rw[e];rfl);rw[e1];grind
   ·rw[if_neg e]
    have e2:dt (k+1) (up V 0 (V n))=0:=by
     obtain⟨d,rfl⟩:∃ d,n=0+d+1:=⟨n-1,by omega⟩;exact ziY d (k+1) _ (r:=0) (by omega) (fun x=>by unfold up;rw[if_pos rfl,if_neg (by omega)])
    rw[e2];grind
 have h1:=step (k+1) (zqab _);rw[if_neg (by omega)] at h1;rw[<- h1];exact zbE (fun i c _ hc=>by unfold up;split;exact h c hc;rfl)
theorem zrl:∀ {k:Nat} (V:Nat->Nat->Rat) {x:Nat},x<k->(∀ i,V i x=0)->dt k V=0
 | k+1,V,x,hx,h=>by
  unfold dt;refine ziI (fun c hc=>?_)
  by_cases e:c=x
  ·subst e;rw[h 0];grind
  ·have:dt k (fun i y=>V (i+1) (sk c y))=0:=by
    by_cases hcx:c<x
    ·refine zrl _ (x:=x-1) (by omega) (fun i=>?_)
     have:sk c (x-1)=x:=by unfold sk;rw[if_neg (by omega)];omega
     rw[this];exact h _
    ·refine zrl _ (x:=x) (by omega) (fun i=>?_)
     have:sk c x=x:=by unfold sk;rw[if_pos (by omega)]
     rw[this];exact h _
   rw[this];grind
def isI (x:Rat):Prop:=∃ z:Int,x=z
theorem zkl {x y:Rat}(hx:isI x)(hy:isI y):isI (x+y):=by obtain⟨a,rfl⟩:=hx;obtain⟨b,rfl⟩:=hy;exact⟨a+b,by rw[Rat.intCast_add]⟩
theorem zcL {x y:Rat}(hx:isI x)(hy:isI y):isI (x*y):=by obtain⟨a,rfl⟩:=hx;obtain⟨b,rfl⟩:=hy;exact⟨a*b,by rw[Rat.intCast_mul]⟩
theorem zCF {f:Nat->Rat}:∀ {n:Nat},(∀ m,m<n->isI (f m))->isI (rs n f)
 | 0,_=>⟨0,rfl⟩
 | n+1,h=>zkl (zCF (fun m hm=>h m (by omega))) (h n (by omega))
theorem zJa (c:Nat):isI (sg7 c):=by unfold sg7;split;exact⟨1,rfl⟩;exact⟨-1,rfl⟩
theorem zmm:∀ {k:Nat} {V:Nat->Nat->Rat},(∀ i x,i<k->x<k->isI (V i x))->isI (dt k V)
 | 0,_,_=>⟨1,rfl⟩
 | k+1,V,h=>zCF (fun c hc=>zcL (zcL (zJa c) (h 0 c (by omega) hc)) (zmm (fun i x hi hx=>h (i+1) _ (by omega) (zIc hx))))
def ab (x:Rat):Rat:=if 0<=x then x else -x
theorem zcC (x:Rat):0<=ab x:=by unfold ab;split <;> grind
theorem zzF {x y:Rat}(h1:x<=y)(h2 : -x<=y):ab x<=y:=by unfold ab;split <;> grind
theorem zzG (x:Rat):x<=ab x:=by unfold ab;split <;> grind
theorem zmn (x:Rat) : -x<=ab x:=by unfold ab;split <;> grind
theorem zgf {x:Rat}(h:0<=x):ab x=x:=by unfold ab;rw[if_pos h]
theorem zCG (x y:Rat):ab (x+y)<=ab x+ab y:=by
 have:=zzG x;have:=zzG y;have:=zmn x;have:=zmn y;refine zzF ?_ ?_ <;> grind
theorem zkm (x y:Rat):ab (x*y)=ab x*ab y:=by
 unfold ab
 by_cases hx:0<=x <;> by_cases hy:0<=y
 ·rw[if_pos hx,if_pos hy,if_pos (Rat.mul_nonneg hx hy)]
 ·rw[if_pos hx,if_neg hy]
  have h:=Rat.mul_nonneg hx (show 0 <= -y by grind);split <;> grind
 ·rw[if_neg hx,if_pos hy]
  have h:=Rat.mul_nonneg (show 0 <= -x by grind) hy;split <;> grind
 ·rw[if_neg hx,if_neg hy]
  have h:=Rat.mul_nonneg (show 0 <= -x by grind) (show 0 <= -y by grind);split <;> grind
theorem zKk (c:Nat):ab (sg7 c)=1:=by unfold ab sg7;split <;> split <;> grind
theorem zIe (f:Nat->Rat):∀ n,ab (rs n f)<=rs n (fun m=>ab (f m))
 | 0=>by unfold ab rs;simp
 | n+1=>by
  have h1:=zIe f n;have h2:=zCG (rs n f) (f n);unfold rs;grind
theorem zdD {f:Nat->Rat}:∀ {n:Nat},(∀ m,m<n->0<=f m)->0<=rs n f
 | 0,_=>Rat.le_refl
 | n+1,h=>by
  have h1:=zdD (n:=n) (fun m hm=>h m (by omega));have h2:=h n (by omega);unfold rs;grind
def rp:Nat->(Nat->Rat)->Rat
 | 0,_=>1
 | n+1,f=>rp n f*f n
theorem ziZ {f g:Nat->Rat}:∀ {n:Nat},(∀ m,m<n->f m=g m)->rp n f=rp n g
 | 0,_=>rfl
 | n+1,h=>by unfold rp;rw[ziZ (fun m hm=>h m (by omega)),h n (by omega)]
theorem zsE {f:Nat->Rat}:∀ {n:Nat},(∀ m,m<n->0<=f m)->0<=rp n f
 | 0,_=>by unfold rp;grind
 | n+1,h=>Rat.mul_nonneg (zsE (fun m hm=>h m (by omega))) (h n (by omega))
theorem zjB {f g:Nat->Rat}:∀ {n:Nat},(∀ m,m<n->0<=f m)->(∀ m,m<n->f m<=g m)->rp n f<=rp n g
 | 0,_,_=>Rat.le_refl
 | n+1,h0,h=>by
  have h1:=zjB (n:=n) (fun m hm=>h0 m (by omega)) (fun m hm=>h m (by omega));have h2:=h n (by omega);have h3:=zsE (n:=n) (fun m hm=>h0 m (by omega));have h4:=h0 n (by omega);have h5:=Rat.mul_le_mul_of_nonneg_right h1 h4;have h6:=zqai h2 (zqar h3 h1);unfold rp;exact zqar h5 h6
theorem zIf {s:Nat->Rat}{c n:Nat}(h:c<=n):rp (n+1) (fun x=>s (sk c x))=rp n (fun x=>s (sk c x))*s (n+1):=by
 show rp n (fun x=>s (sk c x))*s (sk c n)=_;have:sk c n=n+1:=by unfold sk;rw[if_neg (by omega)]
 rw[this]
theorem zsF {a s:Nat->Rat}(ha:∀ x,0<=a x)(hs:∀ x,0<=s x):∀ n,rs (n+1) (fun c=>a c*rp n (fun x=>s (sk c x)))<=rp (n+1) (fun x=>a x+s x)
 | 0=>by
  have:=hs 0;show 0+a 0*1<=1*(a 0+s 0);grind
 | n+1=>by
  have ih:=zsF ha hs n
  have e1:rs (n+1) (fun c=>a c*rp (n+1) (fun x=>s (sk c x)))=s (n+1)*rs (n+1) (fun c=>a c*rp n (fun x=>s (sk c x))):=by
   rw[<- zdJ];refine zbg (fun c hc=>?_);rw[zIf (by omega)];grind
  have e2:rp (n+1) (fun x=>s (sk (n+1) x))=rp (n+1) s:=ziZ (fun m hm=>by unfold sk;rw[if_pos hm]);show rs (n+1) (fun c=>a c*rp (n+1) (fun x=>s (sk c x)))+a (n+1)*rp (n+1) (fun x=>s (sk (n+1) x))<=rp (n+1) (fun x=>a x+s x)*(a (n+1)+s (n+1));rw[e1,e2];have h1:=zqai ih (hs (n+1));have h2:=zjB (f:=s) (g:=fun x=>a x+s x) (n:=n+1) (fun m _=>hs m) (fun m _=>by have:=ha m;grind);have h3:=zqai h2 (ha (n+1));grind
theorem zja:∀ (k:Nat) (V:Nat->Nat->Rat),ab (dt k V)<=rp k (fun x=>rs k (fun i=>ab (V i x)))
 | 0,V=>by unfold ab dt rp;grind
 | k+1,V=>by
  have h1:=zIe (fun c=>sg7 c*V 0 c*dt k (fun i x=>V (i+1) (sk c x))) (k+1)
  have h2:rs (k+1) (fun c=>ab (sg7 c*V 0 c*dt k (fun i x=>V (i+1) (sk c x))))<=rs (k+1) (fun c=>ab (V 0 c)*rp k (fun x=>rs k (fun i=>ab (V (i+1) (sk c x))))):=by
   refine zjA (fun c hc=>?_);rw[zkm,zkm,zKk,Rat.one_mul];exact zqai (zja k (fun i x=>V (i+1) (sk c x))) (zcC _)
  have h3:=zsF (a:=fun x=>ab (V 0 x)) (s:=fun x=>rs k (fun i=>ab (V (i+1) x))) (fun x=>zcC _) (fun x=>zdD (fun m _=>zcC _)) k;refine zqar h1 (zqar h2 (zqar h3 ?_));refine zjB (fun m _=>?_) (fun m _=>?_)
  ·have:=zcC (V 0 m);have:=zdD (f:=fun i=>ab (V (i+1) m)) (n:=k) (fun m _=>zcC _);grind
  ·have e:∀ n,rs (n+1) (fun i=>ab (V i m))=ab (V 0 m)+rs n (fun i=>ab (V (i+1) m)):=fun n=>by
    induction n with
    | zero=>show 0+ab (V 0 m)=ab (V 0 m)+0;grind
    | succ n ih =>
     show rs (n+1) (fun i=>ab (V i m))+ab (V (n+1) m)=ab (V 0 m)+(rs n (fun i=>ab (V (i+1) m))+ab (V (n+1) m));rw[ih];grind
   rw[e];exact Rat.le_refl
theorem zsG (k:Nat)(V:Nat->Nat->Rat)(t:Nat->Rat):∀ r,r<=k->dt (k+1) (fun i x=>if 0<i/\i<=r then V i x+t i*V 0 x else V i x)=dt (k+1) V
 | 0,_=>zbE (fun i x _ _=>by rw[if_neg (by omega)])
 | r+1,h=>by
  have ih:=zsG k V t r (by omega);have h2:=zGl (k:=k+1) (fun i x=>if 0<i/\i<=r then V i x+t i*V 0 x else V i x) (r:=r+1) (s:=0) (t (r+1)) (by omega) (by omega);rw[ih] at h2;rw[<- h2];refine zbE (fun i x _ _=>?_);unfold up
  by_cases e:i=r+1
  ·subst e
   rw[if_pos rfl];dsimp only;rw[if_pos (show 0<r+1/\r+1<=r+1 by omega),if_neg (show ¬ (0<r+1/\r+1<=r) by omega),if_neg (show ¬ (0<0/\0<=r) by omega)]
  ·rw[if_neg e]
   dsimp only
   by_cases e2:0<i/\i<=r
   ·rw[if_pos (show 0<i/\i<=r+1 by omega),if_pos e2]
   ·rw[if_neg (show ¬ (0<i/\i<=r+1) by omega),if_neg e2]
def zon (a:Nat->Nat->Rat)(x y:Nat):Rat:=a (x+1) (y+1)+a (x+1) 0*a 0 (y+1)/(1-a 0 0)
def idV (a:Nat->Nat->Rat)(y x:Nat):Rat:=(if x=y then 1 else 0)-a x y
theorem zGm (k:Nat)(a:Nat->Nat->Rat)(h:1-a 0 0≠0):dt (k+1) (idV a)=(1-a 0 0)*dt k (idV (zon a)):=by
 rw[<- zsG k (idV a) (fun y=>a 0 y/(1-a 0 0)) k (zqab k)]
 have hz:∀ y,0<y->idV a y 0+a 0 y/(1-a 0 0)*idV a 0 0=0:=fun y hy=>by
  unfold idV;rw[if_neg (by omega),if_pos rfl,Rat.div_mul_cancel h];grind
 have e:∀ n,rs (n+1) (fun c=>sg7 c*(if 0<0/\0<=k then idV a 0 c+a 0 0/(1-a 0 0)*idV a 0 c else idV a 0 c)*dt k (fun i x=>if 0<i+1/\i+1<=k then idV a (i+1) (sk c x)+a 0 (i+1)/(1-a 0 0)*idV a 0 (sk c x) else idV a (i+1) (sk c x)))=(1-a 0 0)*dt k (idV (zon a))∨k<n:=fun n=>by
  induction n with
  | zero =>
   left;show 0+sg7 0*(if 0<0/\0<=k then idV a 0 0+a 0 0/(1-a 0 0)*idV a 0 0 else idV a 0 0)*dt k (fun i x=>if 0<i+1/\i+1<=k then idV a (i+1) (sk 0 x)+a 0 (i+1)/(1-a 0 0)*idV a 0 (sk 0 x) else idV a (i+1) (sk 0 x))=_;rw[if_neg (by omega)];have e0:sg7 0=1:=rfl;have e1:idV a 0 0=1-a 0 0:=by unfold idV;rw[if_pos rfl]
   have e2:dt k (fun i x=>if 0<i+1/\i+1<=k then idV a (i+1) (sk 0 x)+a 0 (i+1)/(1-a 0 0)*idV a 0 (sk 0 x) else idV a (i+1) (sk 0 x))=dt k (idV (zon a)):=by
    refine zbE (fun i x hi hx=>?_);rw[if_pos (by omega)];have:sk 0 x=x+1:=by unfold sk;rw[if_neg (by omega)]
    rw[this];unfold idV zon;rw[if_neg (show ¬ x+1=0 by omega)]
    by_cases e:x=i
    ·rw[if_pos e,if_pos (by omega)]
     rw[Rat.div_def,Rat.div_def];grind
    ·rw[if_neg e,if_neg (by omega)]
     rw[Rat.div_def,Rat.div_def];grind
   rw[e0,e1,e2];grind
  | succ n ih =>
   rcases ih with ih|ih
   ·by_cases hn:k<n+1
    ·exact .inr hn
    ·left
     have h0:dt k (fun i x=>if 0<i+1/\i+1<=k then idV a (i+1) (sk (n+1) x)+a 0 (i+1)/(1-a 0 0)*idV a 0 (sk (n+1) x) else idV a (i+1) (sk (n+1) x))=0:=by
      rw[zbE (W:=fun i x=>idV a (i+1) (sk (n+1) x)+a 0 (i+1)/(1-a 0 0)*idV a 0 (sk (n+1) x)) (fun i x hi hx=>by rw[if_pos (by omega)])];refine zrl _ (x:=0) (by omega) (fun i=>?_);have:sk (n+1) 0=0:=by unfold sk;rw[if_pos (by omega)]
      rw[this];exact hz (i+1) (by omega)
     unfold rs;rw[ih];dsimp only;rw[h0];grind
   ·exact .inr (by omega)
 rcases e k with h1|h1
 ·exact h1
 ·omega
open Go.RowKit
theorem zKW:zad 2:=.inr (.inl rfl)
def S2:Sr (El 2):=srE 2 zKW
def zat (v:El 2):Prop:=∃ x,v.1=.inr x
def val (v:El 2):Rat:=match v.1 with
 | .inr x=>x
 | _=>0
theorem El2.cases (v:El 2):v.1=.inl true∨∃ x,v.1=.inr x/\0<=x:=by
 rcases zaA v.1 v.2 with h|⟨x,h,hx⟩
 ·exact .inl h
 ·exact .inr ⟨x,h,hx⟩
theorem zcY {v:El 2}:¬ zat v↔v.1=.inl true:=by
 constructor
 ·intro h
  rcases El2.cases v with h2|⟨x,h2,_⟩
  ·exact h2
  ·exact absurd ⟨x,h2⟩ h
 ·rintro h ⟨x,h2⟩
  rw[h] at h2;cases h2
theorem zjb {v:El 2}{x:Rat}(h:v.1=.inr x):val v=x:=by unfold val;rw[h]
theorem zdF {v:El 2}(h:zat v):v.1=.inr (val v):=by obtain⟨x,hx⟩:=h;rw[zjb hx];exact hx
theorem zcj (v:El 2):0<=val v:=by
 rcases El2.cases v with h|⟨x,h,hx⟩
 ·unfold val;rw[h];exact Rat.le_refl
 ·rw[zjb h];exact hx
theorem zjc:zat S2.zero:=⟨0,rfl⟩
theorem zeo:val S2.zero=0:=rfl
theorem zyo {v:El 2}(hf:zat v)(h:v≠S2.zero):val v≠0:=fun e=>h (Subtype.ext (by rw[zdF hf,e];rfl))
theorem ziJ {u v:El 2}:zat (S2.add u v)↔zat u/\zat v:=by
 constructor
 ·intro h
  refine⟨?_,?_⟩
  ·refine Classical.byContradiction (fun hn=>zcY.2 ?_ h)
   show zde u.1 v.1=_;rw[zcY.1 hn,zbD]
  ·refine Classical.byContradiction (fun hn=>zcY.2 ?_ h)
   show zde u.1 v.1=_;rw[zcY.1 hn,zbq]
 ·rintro ⟨⟨x,hx⟩,y,hy⟩
  exact⟨x+y,by show zde u.1 v.1=_;rw[hx,hy,zbU]⟩
theorem ziK {u v:El 2}(hu:zat u)(hv:zat v):val (S2.add u v)=val u+val v:=zjb (by show zde u.1 v.1=_;rw[zdF hu,zdF hv,zbU])
theorem zgF {u v:El 2}(hu:zat u)(hv:zat v):zat (S2.mul u v):=⟨val u*val v,by show zaK u.1 v.1=_;rw[zdF hu,zdF hv,zbr]⟩
theorem ziL {u v:El 2}(hu:zat u)(hv:zat v):val (S2.mul u v)=val u*val v:=zjb (by show zaK u.1 v.1=_;rw[zdF hu,zdF hv,zbr])
theorem zrm {u v:El 2}(hu:u≠S2.zero)(hv:v.1=.inl true):(S2.mul u v).1=.inl true:=by
 show zaK u.1 v.1=_;rw[hv];rcases El2.cases u with h|⟨x,h,hx⟩
 ·rw[h,zbC]
 ·rw[h,zaT (fun e=>hu (Subtype.ext (by rw[h,e];rfl)))]
theorem zfQ {u v:El 2}(h:zat (S2.mul u v))(hu:u≠S2.zero):zat v:=Classical.byContradiction (fun hn=>zcY.2 (zrm hu (zcY.1 hn)) h)
theorem zhJ {u v:El 2}(h:zat (S2.mul u v))(hv:v≠S2.zero):zat u:=zfQ (S2.mul_comm u v▸h) hv
theorem zkn (u v:El 2)(hu:u≠S2.zero)(hv:v≠S2.zero):S2.mul u v≠S2.zero:=by
 intro e
 by_cases hf:zat v
 ·by_cases hg:zat u
  ·have h:=zqbz val e
   rw[ziL hg hf,zeo] at h;rcases Rat.mul_eq_zero.1 h with h|h
   ·exact zyo hg hu h
   ·exact zyo hf hv h
  ·have h:=zrm hv (zcY.1 hg)
   rw[S2.mul_comm,e] at h;cases h
 ·have h:=zrm hu (zcY.1 hf)
  rw[e] at h;cases h
theorem zpN {u v:El 2}(h:S2.le u v)(hv:zat v):zat u:=by
 refine Classical.byContradiction (fun hn=>?_);have h1:leE u.1 v.1:=h;rw[zcY.1 hn,zdF hv] at h1;exact zcd _ h1
theorem zko {f:Nat->El 2}:∀ {n:Nat},zat (sm S2 n f)↔∀ m,m<n->zat (f m)
 | 0=>⟨fun _ m hm=>by omega,fun _=>zjc⟩
 | n+1=>by
  show zat (S2.add (sm S2 n f) (f n))↔_;rw[ziJ,zko];constructor
  ·rintro ⟨h1,h2⟩ m hm
   by_cases e:m=n
   ·rw[e];exact h2
   ·exact h1 m (by omega)
  ·intro h
   exact⟨fun m hm=>h m (by omega),h n (by omega)⟩
theorem zuP {f:Nat->El 2}:∀ {n:Nat},(∀ m,m<n->zat (f m))->val (sm S2 n f)=rs n (fun m=>val (f m))
 | 0,_=>rfl
 | n+1,h=>by
  show val (S2.add (sm S2 n f) (f n))=_;rw[ziK (zko.2 (fun m hm=>h m (by omega))) (h n (by omega)),zuP (fun m hm=>h m (by omega))];rfl
theorem zuQ {u:El 2}(h:zat (S2.mul (S2.star u) u)):zat u/\val u<1/\zat (S2.star u)/\val (S2.star u)=1/(1-val u):=by
 have key:∀ x:Rat,u.1=.inr x->x<1->zat u/\val u<1/\zat (S2.star u)/\val (S2.star u)=1/(1-val u):=fun x hx h1=>by
  have e:(S2.star u).1=.inr (1/(1-x)):=by
   show zdv 2 u.1=_;rw[hx];show(if x<1 then Sum.inr (1/(1-x)) else .inl true)=_;rw[if_pos h1]
  rw[zjb hx,zjb e];exact⟨⟨x,hx⟩,h1,⟨_,e⟩,rfl⟩
 by_cases hz:u=S2.zero
 ·exact key 0 (by rw[hz];rfl) (by decide +kernel)
 ·have hs:zat (S2.star u):=zhJ h hz
  have hsn:S2.star u≠S2.zero:=fun e=>by
   have h1:=S2.star_law u;rw[e] at h1;have h2:=S2.zero_left h1;have h3:=zqbz val h2;rw[zeo] at h3;have:val S2.one=1:=rfl;rw[this] at h3
   revert h3;decide +kernel
  have hu:zat u:=zfQ h hsn;refine key (val u) (zdF hu) (Classical.byContradiction (fun hn=>zcY.2 ?_ hs));show zdv 2 u.1=_;rw[zdF hu];show(if val u<1 then Sum.inr (1/(1-val u)) else .inl true)=_;rw[if_neg hn]
theorem zzH:∀ (r:Nat) (a:Nat->Nat->El 2),(∀ t x y,t<=r->x<r->y<r->zat (el S2 a t x y))->dt r (idV (fun x y=>val (a x y)))≠0
 | 0,a,_=>by show(1:Rat)≠0;decide +kernel
 | r+1,a,h=>by
  have h1:zat (S2.mul (S2.star (el S2 a 0 0 0)) (el S2 a 0 0 0)):=by
   have:=h 1 0 0 (by omega) (by omega) (by omega)
   rwa [zlQ] at this
  obtain⟨hu,hlt,hsf,hsv⟩:=zuQ h1;have hlt2:val (a 0 0)<1:=hlt;have hne:1-val (a 0 0)≠0:=fun e=>by grind
  rw[zGm r (fun x y=>val (a x y)) hne]
  have ih:=zzH r (fun x y=>el S2 a 1 (x+1) (y+1)) (fun t x y ht hx hy=>by
   rw[zgj];exact h (t+1) (x+1) (y+1) (by omega) (by omega) (by omega))
  have e:dt r (idV (zon (fun x y=>val (a x y))))=dt r (idV (fun x y=>val (el S2 a 1 (x+1) (y+1)))):=by
   refine zbE (fun i x hi hx=>?_);unfold idV;congr 1;show zon (fun x y=>val (a x y)) x i=val (S2.add (a (x+1) (i+1)) (S2.mul (S2.mul (a (x+1) 0) (S2.star (a 0 0))) (a 0 (i+1))));have f1:zat (a (x+1) (i+1)):=h 0 (x+1) (i+1) (by omega) (by omega) (by omega);have f2:zat (a (x+1) 0):=h 0 (x+1) 0 (by omega) (by omega) (by omega);have f3:zat (a 0 (i+1)):=h 0 0 (i+1) (by omega) (by omega) (by omega);have hsf2:zat (S2.star (a 0 0)):=hsf;have hsv2:val (S2.star (a 0 0))=1/(1-val (a 0 0)):=hsv;rw[ziK f1 (zgF (zgF f2 hsf2) f3),ziL (zgF f2 hsf2) f3,ziL f2 hsf2,hsv2];unfold zon;rw[Rat.div_def,Rat.div_def];grind
  rw[e];intro h0;rcases Rat.mul_eq_zero.1 h0 with h0|h0
  ·exact hne h0
  ·exact ih h0
open Go.RowKit
variable {α:Type}
theorem zuR (S:Sr α)(f:Nat->α):∀ n,sm S (n+1) f=S.add (f 0) (sm S n (fun m=>f (m+1)))
 | 0=>by show S.add S.zero (f 0)=S.add (f 0) S.zero;rw[S.add_comm]
 | n+1=>by
  show S.add (sm S (n+1) f) (f (n+1))=S.add (f 0) (S.add (sm S n (fun m=>f (m+1))) (f (n+1)));rw[zuR S f n,S.add_assoc]
theorem zkS (f:Nat->Rat):∀ n,rs (n+1) f=f 0+rs n (fun m=>f (m+1))
 | 0=>by show 0+f 0=f 0+0;grind
 | n+1=>by
  show rs (n+1) f+f (n+1)=f 0+(rs n (fun m=>f (m+1))+f (n+1));rw[zkS f n];grind
theorem zuS (f:Nat->Rat):∀ n,rp (n+1) f=f 0*rp n (fun m=>f (m+1))
 | 0=>by show 1*f 0=f 0*1;grind
 | n+1=>by
  show rp (n+1) f*f (n+1)=f 0*(rp n (fun m=>f (m+1))*f (n+1));rw[zuS f n];grind
theorem znz (f:Nat->Rat):∀ {n c:Nat},c<n->rs n (fun y=>f y*(if c=y then 1 else 0))=f c
 | n+1,c,h=>by
  show rs n (fun y=>f y*(if c=y then 1 else 0))+f n*(if c=n then 1 else 0)=_
  by_cases e:c=n
  ·subst e
   rw[if_pos rfl,ziI (fun m hm=>by rw[if_neg (by omega)];grind)];grind
  ·rw[if_neg e,znz f (by omega)];grind
theorem zyp (f:Nat->Rat)(p:Nat->Bool):∀ k,rs ((List.range k).filter p).length (fun x=>f (((List.range k).filter p).getD x 0))=rs k (fun m=>if p m=true then f m else 0)
 | 0=>rfl
 | k+1=>by
  have ih:=zyp f p k;show _=rs k (fun m=>if p m=true then f m else 0)+(if p k=true then f k else 0);rw[<- ih,List.range_succ,List.filter_append]
  by_cases hk:p k=true
  ·rw[if_pos hk]
   have e1:[k].filter p=[k]:=by simp[hk]
   rw[e1,zqag,zqbq];show rs ((List.range k).filter p).length (fun x=>f ((((List.range k).filter p)++[k]).getD x 0))+f ((((List.range k).filter p)++[k]).getD ((List.range k).filter p).length 0)=_
   have e2:(((List.range k).filter p)++[k]).getD ((List.range k).filter p).length 0=k:=by
    rw[zqaa,zqaq (zqab _),zqbr];rfl
   rw[e2];congr 1;refine zbg (fun m hm=>?_);rw[zqaa,zqaa,zqal hm]
  ·rw[if_neg hk]
   have e1:[k].filter p=[]:=by simp[hk]
   rw[e1,List.append_nil];grind
theorem zyq (f:Nat->Rat)(p:Nat->Bool):∀ k,rp ((List.range k).filter p).length (fun x=>f (((List.range k).filter p).getD x 0))=rp k (fun m=>if p m=true then f m else 1)
 | 0=>rfl
 | k+1=>by
  have ih:=zyq f p k;show _=rp k (fun m=>if p m=true then f m else 1)*(if p k=true then f k else 1);rw[<- ih,List.range_succ,List.filter_append]
  by_cases hk:p k=true
  ·rw[if_pos hk]
   have e1:[k].filter p=[k]:=by simp[hk]
   rw[e1,zqag,zqbq];show rp ((List.range k).filter p).length (fun x=>f ((((List.range k).filter p)++[k]).getD x 0))*f ((((List.range k).filter p)++[k]).getD ((List.range k).filter p).length 0)=_
   have e2:(((List.range k).filter p)++[k]).getD ((List.range k).filter p).length 0=k:=by
    rw[zqaa,zqaq (zqab _),zqbr];rfl
   rw[e2];congr 1;refine ziZ (fun m hm=>?_);rw[zqaa,zqaa,zqal hm]
  ·rw[if_neg hk]
   have e1:[k].filter p=[]:=by simp[hk]
   rw[e1,List.append_nil];grind
theorem zGn {p:Nat->Bool}{k x:Nat}(h:x<((List.range k).filter p).length):((List.range k).filter p).getD x 0<k/\p (((List.range k).filter p).getD x 0)=true:=by
 rw[zqaa,zqac h];have:=List.mem_filter.1 (List.getElem_mem h);exact⟨List.mem_range.1 this.1,this.2⟩
theorem zjC {f:Nat->Rat}:∀ {n:Nat},(∀ m,m<n->1<=f m)->1<=rp n f
 | 0,_=>by unfold rp;grind
 | n+1,h=>by
  have h1:=zjC (n:=n) (fun m hm=>h m (by omega));have h2:=h n (by omega);have h3:=zqai h2 (show 0<=rp n f by grind);unfold rp;grind
theorem zyr {f:Nat->Rat}{n:Nat}:∀ d,(∀ m,m<n+d->1<=f m)->rp n f<=rp (n+d) f
 | 0,_=>Rat.le_refl
 | d+1,h=>by
  have h1:=zyr (f:=f) (n:=n) d (fun m hm=>h m (by omega));have h2:=h (n+d) (by omega);have h3:=zjC (n:=n+d) (fun m hm=>h m (by omega));have h4:=zqai h2 (show 0<=rp (n+d) f by grind);show rp n f<=rp (n+d) f*f (n+d);grind
theorem zCH (D:Nat->Rat):∀ {n c:Nat},c<=n->rp (n+1) D=D c*rp n (fun x=>D (sk c x))
 | 0,c,h=>by
  have:c=0:=by omega
  subst this;show 1*D 0=D 0*1;grind
 | n+1,c,h=>by
  by_cases e:c=n+1
  ·subst e
   rw[ziZ (f:=fun x=>D (sk (n+1) x)) (g:=D) (fun m hm=>by unfold sk;rw[if_pos hm])];show rp (n+1) D*D (n+1)=_;grind
  ·have ih:=zCH D (c:=c) (n:=n) (by omega)
   rw[zIf (by omega)];show rp (n+1) D*D (n+1)=_;rw[ih];grind
theorem zoo:∀ (k:Nat) (D:Nat->Rat) (V:Nat->Nat->Rat),dt k (fun i x=>D x*V i x)=rp k D*dt k V
 | 0,D,V=>by show(1:Rat)=1*1;grind
 | k+1,D,V=>by
  show rs (k+1) (fun c=>sg7 c*(D c*V 0 c)*dt k (fun i x=>D (sk c x)*V (i+1) (sk c x)))=rp (k+1) D*rs (k+1) (fun c=>sg7 c*V 0 c*dt k (fun i x=>V (i+1) (sk c x)));rw[<- zdJ];refine zbg (fun c hc=>?_);rw[zoo k (fun x=>D (sk c x)) (fun i x=>V (i+1) (sk c x)),zCH D (c:=c) (n:=k) (by omega)];grind
theorem zhs {A:Nat->Nat->El 2}{k i j:Nat}(h:zat (el S2 A k i j)):zat (A i j)/\∀ m,m<k->zat (S2.mul (A i m) (el S2 A k m j)):=by
 rw[zcp S2 A k i j] at h;have h2:=ziJ.1 h;exact⟨h2.1,zko.1 h2.2⟩
theorem zkT {A:Nat->Nat->El 2}{k i j m:Nat}(hr:Rch S2 A k i m)(hm:m<k)(h:zat (el S2 A k i j)):zat (el S2 A k m j):=by
 induction hr with
 | one h1=>exact zfQ ((zhs h).2 _ hm) h1
 | more hl h1 _ ih=>exact ih hm (zfQ ((zhs h).2 _ hl) h1)
theorem zkU {A:Nat->Nat->El 2}{k x j v:Nat}(hv:v<k)(hn:el S2 A k v j≠S2.zero)(h:zat (el S2 A k x j)):zat (el S2 A k x v):=by
 have h1:Rch S2 (fun a b=>A b a) k j v:=zgQ S2 _ k j v (by rw[zfC];exact hn);have h2:=zkT (A:=fun a b=>A b a) (j:=x) h1 hv (by rw[zfC];exact h)
 rwa [zfC] at h2
open Classical in
noncomputable def onB (A:Nat->Nat->El 2)(k i j m:Nat):Bool:=decide (el S2 A k i m≠S2.zero/\el S2 A k m j≠S2.zero)
theorem zys {A:Nat->Nat->El 2}{k i j m:Nat}:onB A k i j m=true↔el S2 A k i m≠S2.zero/\el S2 A k m j≠S2.zero:=by unfold onB;simp
noncomputable def onL (A:Nat->Nat->El 2)(k i j:Nat):List Nat:=(List.range k).filter (onB A k i j)
noncomputable def nd (A:Nat->Nat->El 2)(k i j c:Nat):Nat:=if c=0 then i else (onL A k i j).getD (c-1) 0
noncomputable def onA (A:Nat->Nat->El 2)(k i j x y:Nat):El 2:=if y=0 then S2.zero else A (nd A k i j x) (nd A k i j y)
theorem zkp (A:Nat->Nat->El 2)(k i j c:Nat):nd A k i j (c+1)=(onL A k i j).getD c 0:=by unfold nd;rw[if_neg (by omega),Nat.add_sub_cancel]
theorem zpO {A:Nat->Nat->El 2}{k i j c:Nat}(h:c<(onL A k i j).length):nd A k i j (c+1)<k/\el S2 A k i (nd A k i j (c+1))≠S2.zero/\el S2 A k (nd A k i j (c+1)) j≠S2.zero:=by
 rw[zkp];have:=zGn h;exact⟨this.1,zys.1 this.2⟩
section
variable {A:Nat->Nat->El 2} {k i j:Nat}
theorem zkq (h:zat (el S2 A k i j)){c:Nat}(hc:c<(onL A k i j).length+1):zat (el S2 A k (nd A k i j c) j):=by
 cases c with
 | zero=>exact h
 | succ c =>
  obtain⟨h1,h2,_⟩:=zpO (show c<(onL A k i j).length by omega);exact zkT (zgQ S2 A k i _ h2) h1 h
theorem zuT (h:zat (el S2 A k i j)){c y:Nat}(hc:c<(onL A k i j).length+1)(hy:y<(onL A k i j).length):zat (A (nd A k i j c) (nd A k i j (y+1))):=by
 obtain⟨h1,_,h3⟩:=zpO hy;exact zhJ ((zhs (zkq h hc)).2 _ h1) h3
theorem zGo (h:zat (el S2 A k i j)){c m:Nat}(hc:c<(onL A k i j).length+1)(hm:m<k)(hp:¬ onB A k i j m=true):S2.mul (A (nd A k i j c) m) (el S2 A k m j)=S2.zero:=by
 refine Classical.byContradiction (fun hn=>hp (zys.2 ?_));have h1:A (nd A k i j c) m≠S2.zero:=fun e=>hn (by rw[e,S2.zero_mul]);have h2:el S2 A k m j≠S2.zero:=fun e=>hn (by rw[e,S2.mul_zero]);refine⟨?_,h2⟩;cases c with
 | zero=>exact zki S2 zkn A (.one h1)
 | succ c =>
  obtain⟨g1,g2,_⟩:=zpO (show c<(onL A k i j).length by omega);exact zki S2 zkn A ((zgQ S2 A k i _ g2).trans g1 (.one h1))
theorem zKl (h:zat (el S2 A k i j)){c:Nat}(hc:c<(onL A k i j).length+1) :
  sm S2 (onL A k i j).length (fun y=>S2.mul (A (nd A k i j c) (nd A k i j (y+1))) (el S2 A k (nd A k i j (y+1)) j))=sm S2 k (fun m=>S2.mul (A (nd A k i j c) m) (el S2 A k m j)):=by
 have e:=zqP S2 (fun m=>S2.mul (A (nd A k i j c) m) (el S2 A k m j)) (onB A k i j) k;rw[zar S2 (g:=fun x=>S2.mul (A (nd A k i j c) ((onL A k i j).getD x 0)) (el S2 A k ((onL A k i j).getD x 0) j)) (fun y _=>by rw[zkp])];refine e.trans (zar S2 (fun m hm=>?_))
 by_cases hp:onB A k i j m=true
 ·rw[if_pos hp]
 ·rw[if_neg hp];exact(zGo h hc hm hp).symm
theorem zKm (h:zat (el S2 A k i j)){t x y:Nat}(ht:t<=(onL A k i j).length+1)(hx:x<(onL A k i j).length+1)(hy:y<(onL A k i j).length+1):zat (el S2 (onA A k i j) t x y):=by
 have hfull:zat (el S2 (onA A k i j) ((onL A k i j).length+1) x y):=by
  cases y with
  | zero =>
   rw[zgi];refine ziJ.2 ⟨zjc,zko.2 (fun m _=>?_)⟩;have:onA A k i j m 0=S2.zero:=by unfold onA;rw[if_pos rfl]
   rw[this,S2.mul_zero];exact zjc
  | succ y =>
   obtain⟨g1,g2,g3⟩:=zpO (show y<(onL A k i j).length by omega);have hX:zat (el S2 A k (nd A k i j x) (nd A k i j (y+1))):=zkU g1 g3 (zkq h hx);refine zpN ?_ hX;have hl:=zhl S2 (onA A k i j) (fun x=>onA A k i j x (y+1)) (fun x=>el S2 A k (nd A k i j x) (nd A k i j (y+1))) (n:=(onL A k i j).length+1) (fun x hx=>?_) ((onL A k i j).length+1) (zqab _) x hx
   ·rw[zgi]
    rw[zar S2 (g:=fun m=>S2.mul (el S2 (onA A k i j) ((onL A k i j).length+1) x m) (onA A k i j m (y+1))) (fun m hm=>by rw[if_pos hm])] at hl;exact hl
   ·have e0:onA A k i j x (y+1)=A (nd A k i j x) (nd A k i j (y+1)):=by unfold onA;rw[if_neg (by omega)]
    rw[e0,zcp S2 A k (nd A k i j x) (nd A k i j (y+1))];refine S2.add_mono _ _ _ _ (S2.le_refl _) ?_;rw[zuR]
    have e1:S2.mul (onA A k i j x 0) (el S2 A k (nd A k i j 0) (nd A k i j (y+1)))=S2.zero:=by
     have:onA A k i j x 0=S2.zero:=by unfold onA;rw[if_pos rfl]
     rw[this,S2.zero_mul]
    rw[e1,S2.zero_add];have e2:=zqP S2 (fun m=>S2.mul (A (nd A k i j x) m) (el S2 A k m (nd A k i j (y+1)))) (onB A k i j) k
    have e3:sm S2 (onL A k i j).length (fun m=>S2.mul (onA A k i j x (m+1)) (el S2 A k (nd A k i j (m+1)) (nd A k i j (y+1))))=sm S2 ((List.range k).filter (onB A k i j)).length (fun z=>S2.mul (A (nd A k i j x) (((List.range k).filter (onB A k i j)).getD z 0)) (el S2 A k (((List.range k).filter (onB A k i j)).getD z 0) (nd A k i j (y+1)))):=by
     refine zar S2 (fun m _=>?_);have:onA A k i j x (m+1)=A (nd A k i j x) (nd A k i j (m+1)):=by unfold onA;rw[if_neg (by omega)]
     rw[this,zkp A k i j m];rfl
    rw[e3,e2];refine ziF S2 (fun m _=>?_)
    by_cases hp:onB A k i j m=true
    ·rw[if_pos hp];exact S2.le_refl _
    ·rw[if_neg hp];exact S2.zero_le _
 have hg:=zqQ S2 (onA A k i j) x y ((onL A k i j).length+1-t) t;rw[show t+((onL A k i j).length+1-t)=(onL A k i j).length+1 by omega] at hg;exact zpN hg hfull
theorem zKX (h:zat (el S2 A k i j)){c:Nat}(hc:c<(onL A k i j).length+1) :
  val (A (nd A k i j c) j)=rs ((onL A k i j).length+1) (fun y=>val (el S2 A k (nd A k i j y) j)*idV (fun x y=>val (onA A k i j x y)) y c):=by
 have hB:=zkq h hc;have hr:=zhs hB;have e1:=zqbz val (zcp S2 A k (nd A k i j c) j);rw[ziK hr.1 (zko.2 hr.2),<- zKl h hc,zuP (fun m hm=>zgF (zuT h hc hm) (zkq h (by omega)))] at e1;rw[zbg (g:=fun m=>val (A (nd A k i j c) (nd A k i j (m+1)))*val (el S2 A k (nd A k i j (m+1)) j)) (fun m hm=>ziL (zuT h hc hm) (zkq h (by omega)))] at e1
 have e2:rs ((onL A k i j).length+1) (fun y=>val (el S2 A k (nd A k i j y) j)*idV (fun x y=>val (onA A k i j x y)) y c)=rs ((onL A k i j).length+1) (fun y=>val (el S2 A k (nd A k i j y) j)*(if c=y then 1 else 0))+rs ((onL A k i j).length+1) (fun y=>(-1)*(val (onA A k i j c y)*val (el S2 A k (nd A k i j y) j))):=by
  rw[<- zgZ];refine zbg (fun y _=>?_);unfold idV;grind
 rw[e2,znz (fun y=>val (el S2 A k (nd A k i j y) j)) hc,zdJ,zkS];have e3:val (onA A k i j c 0)=0:=by unfold onA;rw[if_pos rfl];exact zeo
 have e4:rs (onL A k i j).length (fun m=>val (onA A k i j c (m+1))*val (el S2 A k (nd A k i j (m+1)) j))=rs (onL A k i j).length (fun m=>val (A (nd A k i j c) (nd A k i j (m+1)))*val (el S2 A k (nd A k i j (m+1)) j)):=by
  refine zbg (fun m _=>?_);have:onA A k i j c (m+1)=A (nd A k i j c) (nd A k i j (m+1)):=by unfold onA;rw[if_neg (by omega)]
  rw[this]
 rw[e3,e4,e1];grind
end
end Go.Proofs.YtaogepcaoogpgaaGreatDoor
