/- WE06 -/
import Derived.Test.YtaogepcaoogpgaaGreatDoorKE06
set_option linter.unusedVariables false
set_option linter.unusedSimpArgs false
set_option maxRecDepth 100000
set_option maxHeartbeats 16000000
namespace Go.Proofs.YtaogepcaoogpgaaGreatDoor
open Go.RowKit
open Go.Lib (nDigits decDigits)
theorem zan (s:ByteArray)(w:World)(hs:s.size≤maxLen) :
  Calls Tryz.prog 208 #[.string s] w fun e w'=>e = .returned (.bool (numB s))∧w=w':=by
 unfold maxLen at hs
 by_cases h0:(s.size:Int)<1
 ·rw[zfN s (by omega)]
  go_enter Tryz.func208,Tryz.ntmps208;go_wp2;go_ret;exact⟨rfl,rfl⟩
 by_cases h1:(1000:Int)<(s.size:Int)
 ·rw[zfN s (by omega)]
  go_enter Tryz.func208,Tryz.ntmps208;go_wp2;go_ret;exact⟨rfl,rfl⟩
 have hsz:0<s.size:=by omega
 by_cases hz:((s[0].toNat:Int) == 48)=true∧(1:Int)<(s.size:Int)
 ·obtain⟨hz1,hz2⟩:=hz
  have HN:=zHd (zlB s (by omega) (by have:=of_decide_eq_true hz1;omega));go_enter Tryz.func208,Tryz.ntmps208;go_wp2;go_ret;exact⟨by rw[HN.out];rfl,rfl⟩
 have hzz:s.size=1∨s[0].toNat≠48:=by
  by_cases e:s.size=1
  ·exact .inl e
  ·exact .inr fun e2=>hz ⟨by simp[e2],by omega⟩
 have HZ:=zHd hzz
 have key:Calls Tryz.prog 208 #[.string s] w fun e w'=>e = .returned (.bool (numB s))∧w=w':=by
  by_cases hz1:((s[0].toNat:Int) == 48)=true
  ·have hz2:¬ (1:Int)<(s.size:Int):=fun h=>hz ⟨hz1,h⟩
   clear hz hzz;go_enter Tryz.func208,Tryz.ntmps208;go_wp2
   go_loop [3] (fun i=>∃ k:Nat,i = .int .i64 k∧k≤s.size∧∀ j (hj:j<s.size),j<k→isDg s[j]=true) (fun i=>s.size - (intOf i).toNat)
   case atStart=>exact⟨0,rfl,by omega,fun j hj h=>by omega⟩
   case round =>
    obtain⟨k,rfl,hk,hall⟩:=hrel;have HALL:=zHd hall;clear hall
    by_cases hlt:k<s.size
    ·by_cases hd:(s[k].toNat:Int)<48
     ·have HN:=zHd (zee s k hlt (zgG s[k] (.inl hd)))
      go_wp2;go_ret;exact⟨by rw[HN.out];rfl,rfl⟩
     ·by_cases hd2:(57:Int)<(s[k].toNat:Int)
      ·have HN:=zHd (zee s k hlt (zgG s[k] (.inr hd2)))
       go_wp2;go_ret;exact⟨by rw[HN.out];rfl,rfl⟩
      ·have HN:=zHd (zop s[k] (by omega) (by omega))
       go_wp2
       go_round
       case rel=>exact⟨k+1,by go_num,by omega,fun j hj h=>by
        by_cases e:j=k
        ·subst e;exact HN.out
        ·exact HALL.out j hj (by omega)⟩
       case measure=>simp[intOf];omega
    ·have HN:=zHd (zkY s (by omega) (by omega) (fun j hj=>HALL.out j hj (by omega)) HZ.out)
     go_wp2;go_ret;exact⟨by rw[HN.out];rfl,rfl⟩
  ·have hz3:((s[0].toNat:Int) == 48)=false:=by simpa using hz1
   clear hz hzz hz1;go_enter Tryz.func208,Tryz.ntmps208;go_wp2
   go_loop [3] (fun i=>∃ k:Nat,i = .int .i64 k∧k≤s.size∧∀ j (hj:j<s.size),j<k→isDg s[j]=true) (fun i=>s.size - (intOf i).toNat)
   case atStart=>exact⟨0,rfl,by omega,fun j hj h=>by omega⟩
   case round =>
    obtain⟨k,rfl,hk,hall⟩:=hrel;have HALL:=zHd hall;clear hall
    by_cases hlt:k<s.size
    ·by_cases hd:(s[k].toNat:Int)<48
     ·have HN:=zHd (zee s k hlt (zgG s[k] (.inl hd)))
      go_wp2;go_ret;exact⟨by rw[HN.out];rfl,rfl⟩
     ·by_cases hd2:(57:Int)<(s[k].toNat:Int)
      ·have HN:=zHd (zee s k hlt (zgG s[k] (.inr hd2)))
       go_wp2;go_ret;exact⟨by rw[HN.out];rfl,rfl⟩
      ·have HN:=zHd (zop s[k] (by omega) (by omega))
       go_wp2
       go_round
       case rel=>exact⟨k+1,by go_num,by omega,fun j hj h=>by
        by_cases e:j=k
        ·subst e;exact HN.out
        ·exact HALL.out j hj (by omega)⟩
       case measure=>simp[intOf];omega
    ·have HN:=zHd (zkY s (by omega) (by omega) (fun j hj=>HALL.out j hj (by omega)) HZ.out)
     go_wp2;go_ret;exact⟨by rw[HN.out];rfl,rfl⟩
 exact key
theorem zGn (p s t:List UInt8)(x y:UInt8)(h:x<y):Lib.compareBytes (p++x::s) (p++y::t) = -1∧Lib.compareBytes (p++y::t) (p++x::s)=1:=by
 induction p with
 | nil =>
  have h':¬ y<x:=fun h2=>UInt8.lt_irrefl x (UInt8.lt_trans h h2);simp[Lib.compareBytes,h,h']
 | cons a p ih =>
  rw[List.cons_append,List.cons_append];unfold Lib.compareBytes;rw[if_neg (UInt8.lt_irrefl a),if_neg (UInt8.lt_irrefl a),if_neg (UInt8.lt_irrefl a),if_neg (UInt8.lt_irrefl a)];exact ih
theorem zsc (l:List UInt8)(k:Nat)(h:k<l.length):l=l.take k++l[k]::l.drop (k+1):=by
 rw[← List.drop_eq_getElem_cons h,List.take_append_drop]
theorem zsd (a b:ByteArray)(na:numB a=true)(nb:numB b=true)(hs:a.size=b.size)(k:Nat)(ha:k<a.size)(hb:k<b.size)(ht:a.data.toList.take k=b.data.toList.take k)(hlt:a[k].toNat<b[k].toNat) :
  cmpN (nv a) (nv b) = -1∧cmpN (nv b) (nv a)=1:=by
 have la:a.data.toList.length=a.size:=by simp
 have lb:b.data.toList.length=b.size:=by simp
 have ea:=(zbG a na).1;have eb:=(zbG b nb).1;have da:a.data.toList=decDigits (nv a):=by conv=>lhs;rw[ea];simp[decS]
 have db:b.data.toList=decDigits (nv b):=by conv=>lhs;rw[eb];simp[decS]
 have hd:nDigits (nv a)=nDigits (nv b):=by
  rw[← Lib.decDigits_length,← Lib.decDigits_length,← da,← db];omega
 have h1:=zoq (nv a) (nv b) hd;have h2:=zoq (nv b) (nv a) hd.symm;rw[← h1,← h2,← da,← db,zsc a.data.toList k (by omega),zsc b.data.toList k (by omega),ht];exact zGn _ _ _ _ _ hlt
theorem zCJ (a b:ByteArray)(hs:a.size=b.size)(ht:a.data.toList.take a.size=b.data.toList.take a.size):a=b:=by
 have la:a.data.toList.length=a.size:=by simp
 have lb:b.data.toList.length=b.size:=by simp
 rw[List.take_of_length_le (by omega),List.take_of_length_le (by omega)] at ht;exact ByteArray.ext (Array.toList_inj.1 ht)
theorem zzA (a b:ByteArray)(k:Nat)(ha:k<a.size)(hb:k<b.size)(ht:a.data.toList.take k=b.data.toList.take k)(he:a[k]=b[k]):a.data.toList.take (k+1)=b.data.toList.take (k+1):=by
 rw[List.take_succ_eq_append_getElem (by simpa using ha),List.take_succ_eq_append_getElem (by simpa using hb),ht]
 congr 1
 congr 1
theorem size_digits (a:ByteArray)(na:numB a=true):a.size=nDigits (nv a):=by
 have ea:=(zbG a na).1;have:a.size=a.data.toList.length:=by simp
 rw[this,← Lib.decDigits_length]
 congr 1
 conv=>lhs;rw[ea];simp[decS]
def zli (v:Int)(w:World)(e:Ending)(w':World):Prop:=e = .returned (.int .i64 v)∧w.grownBy w' none
theorem zfk (a b:ByteArray)(w:World)(na:numB a=true)(nb:numB b=true) :
  Calls Tryz.prog 214 #[.string a,.string b] w (zli (cmpN (nv a) (nv b)) w):=by
 have za:=zaS na;have zb:=zaS nb;unfold maxLen at za zb;have sa:=size_digits a na;have sb:=size_digits b nb
 by_cases h1:(a.size:Int)<(b.size:Int)
 ·have HV:=zHd (show cmpN (nv a) (nv b) = -1 by unfold cmpN;rw[if_pos (zgs (by omega))])
  have h2:((a.size:Int) != (b.size:Int))=true:=by simp;omega
  clear sa sb;go_enter Tryz.func214,Tryz.ntmps214;go_wp2;go_ret;exact⟨by rw[HV.out];rfl,zag _ _⟩
 by_cases h2:(b.size:Int)<(a.size:Int)
 ·have HV:=zHd (show cmpN (nv a) (nv b)=1 by
   have:=zgs (m:=nv b) (n:=nv a) (by omega);unfold cmpN;rw[if_neg (by omega),if_pos this])
  have h3:((a.size:Int) != (b.size:Int))=true:=by simp;omega
  clear sa sb;go_enter Tryz.func214,Tryz.ntmps214;go_wp2;go_ret;exact⟨by rw[HV.out];rfl,zag _ _⟩
 have hs:a.size=b.size:=by omega
 have h3:((a.size:Int) != (b.size:Int))=false:=by simp;omega
 have HS:=zHd hs;have NA:=zHd na;have NB:=zHd nb;clear sa sb hs na nb h1 h2;go_enter Tryz.func214,Tryz.ntmps214;go_wp2
 go_loopw [5] (fun i wr=>∃ k:Nat,i = .int .i64 k∧k≤a.size∧a.data.toList.take k=b.data.toList.take k∧w.grownBy wr none) (fun i _=>a.size - (intOf i).toNat)
 case atStart=>exact⟨0,rfl,by omega,rfl,zag _ _⟩
 case round =>
  obtain⟨k,rfl,hk,ht,hg⟩:=hrel;have HT:=zHd ht;have HG:=zHd hg;clear ht hg
  by_cases hlt:k<a.size
  ·have hlb:k<b.size:=by have:=HS.out;omega
   have z0:(0:Int)≤(k:Int):=by omega
   have z1:(k:Int)<(a.size:Int):=by omega
   have z2:(k:Int)<(b.size:Int):=by omega
   by_cases c1:(a[k].toNat:Int)<(b[k].toNat:Int)
   ·have HV:=zHd (zsd a b NA.out NB.out HS.out k hlt hlb HT.out (by omega)).1
    have c2:((a[k].toNat:Int) != (b[k].toNat:Int))=true:=by simp;omega
    go_wp2
    go_quiet (fail)
    go_wp2
    go_quiet (fail)
    go_wp2;go_ret;exact⟨by rw[HV.out];rfl,zaa HG.out (zaa (zbv _ _ _) (zbv _ _ _))⟩
   ·by_cases c3:(b[k].toNat:Int)<(a[k].toNat:Int)
    ·have HV:=zHd (zsd b a NB.out NA.out HS.out.symm k hlb hlt HT.out.symm (by omega)).2
     have c2:((a[k].toNat:Int) != (b[k].toNat:Int))=true:=by simp;omega
     go_wp2
     go_quiet (fail)
     go_wp2
     go_quiet (fail)
     go_wp2;go_ret;exact⟨by rw[HV.out];rfl,zaa HG.out (zaa (zbv _ _ _) (zbv _ _ _))⟩
    ·have he:a[k]=b[k]:=UInt8.toNat_inj.1 (by omega)
     have HM:=zHd (zzA a b k hlt hlb HT.out he);have c2:((a[k].toNat:Int) != (b[k].toNat:Int))=false:=by simp;omega
     clear he;go_wp2
     go_quiet (fail)
     go_wp2
     go_roundw
     case rel=>exact⟨k+1,by go_num,by omega,HM.out,zaa HG.out (zbv _ _ _)⟩
     case measure=>simp[intOf];omega
  ·have HV:=zHd (show cmpN (nv a) (nv b)=0 by
    have e:=zCJ a b HS.out (by rw[show a.size=k by omega];exact HT.out);rw[e];unfold cmpN;rw[if_neg (by omega),if_neg (by omega)])
   go_wp2;go_ret;exact⟨by rw[HV.out];rfl,HG.out⟩
theorem zCK (a b:ByteArray)(w:World)(ha:a.size≤maxLen)(hb:b.size≤maxLen) :
  Calls Tryz.prog 176 #[.string a,.string b] w (zli (cmpV a b) w):=by
 have va:=zHd (fun w=>zan a w ha);have vb:=zHd (fun w=>zan b w hb);cases na:numB a
 ·have HV:=zHd (show cmpV a b=0 by unfold cmpV;rw[na];rfl)
  rw[na] at va;clear ha hb;go_enter Tryz.func176,Tryz.ntmps176;go_wp2_with fail;refine(va.out _).mono ?_;rintro e w' ⟨rfl,rfl⟩;go_wp2;go_ret;exact⟨by rw[HV.out];rfl,zag _ _⟩
 cases nb:numB b
 ·have HV:=zHd (show cmpV a b=0 by unfold cmpV;rw[na,nb];rfl)
  rw[na] at va;rw[nb] at vb;clear ha hb;go_enter Tryz.func176,Tryz.ntmps176;go_wp2_with fail;refine(va.out _).mono ?_;rintro e w' ⟨rfl,rfl⟩;go_wp2_with fail;refine(vb.out _).mono ?_;rintro e w' ⟨rfl,rfl⟩;go_wp2;go_ret;exact⟨by rw[HV.out];rfl,zag _ _⟩
 have HV:=zHd (show cmpV a b=cmpN (nv a) (nv b) by unfold cmpV;rw[na,nb];rfl);have c:=zHd (fun w=>zfk a b w na nb);rw[na] at va;rw[nb] at vb;clear ha hb;go_enter Tryz.func176,Tryz.ntmps176;go_wp2_with fail;refine(va.out _).mono ?_;rintro e w' ⟨rfl,rfl⟩;go_wp2_with fail;refine(vb.out _).mono ?_;rintro e w' ⟨rfl,rfl⟩;go_wp2_with fail;refine(c.out _).mono ?_;rintro e w1 ⟨rfl,hg⟩;have G:=zHd hg;clear hg;go_wp2;go_ret;exact⟨by rw[HV.out];rfl,G.out⟩
open Go.RowKit
open Go.Lib (nDigits decDigits)
theorem zpQ:(Tryz.prog.info? 5).map (fun i=>(i.zero,i.size,i.bytes))=some (some (.int .u8 0),1,1):=by kernel_rfl
theorem ziN:(Tryz.prog.info? 3).map (fun i=>(i.zero,i.size,i.bytes))=some (some (.int .i64 0),1,8):=by kernel_rfl
theorem zse {w:World}{base:Nat}{v:Value}{l:List UInt8}(h:w.ownsRow base 5 1 v l.length (Lib.byteCells l)) :
  (convert 149 9 v).run Tryz.prog w = .ok (.string ⟨l.toArray⟩) w:=by
 rcases h.2 with⟨hv,hn⟩|⟨g,cap,cur,hv,_⟩
 ·have:l=[]:=List.length_eq_zero_iff.1 hn
  subst this;rw[hv];have hz:∀ w:World,(convert 149 9 (.slice none 0 0)).run Tryz.prog w = .ok (.string ⟨#[]⟩) w:=fun w=>by kernel_rfl
  exact hz w
 ·rw[hv] at h ⊢
  refine run_convert_bytes_back w 149 9 5 ⟨g,0,none⟩ cap l Tryz.underlying149 Tryz.underlying5 Tryz.underlying9 (fun j hj => ?_);refine h.cells (g:=g) rfl j _ ?_;unfold Lib.byteCells;rw[List.getElem?_map,List.getElem?_eq_getElem hj];rfl
theorem zcQ {w wr:World}(h:Below w.heap.size w wr)(o:Obj){w':World}{v:Value}(hv:∀ g,v.ownBlock=some g→w.heap.size≤g)(hg:(wr.alloc o).grownBy w' v.ownBlock):Below w.heap.size w w' :=
 (h.alloc h.size o).grown hg (by have:=h.size;simp;omega) hv
theorem zen (w:World)(u:Value)(t:TypeId):∀ j x,[u][j]? = some x→(w.alloc (.cells #[u] t)).cell? ((⟨w.heap.size,0,none⟩:Addr).add j)=some x :=
 World.news_of_block (cs:=#[u]) (t:=t) (fr:=(0,0)) (heap_alloc_new w _)
def Digs (w:World)(v:Value)(ds:List Nat):Prop :=
 (v = .slice none 0 0∧ds=[])∨∃ g cap,v = .slice (some ⟨g,0,none⟩) ds.length cap∧ds≠[]∧g<w.heap.size∧∀ k,k<ds.length→w.cell? ⟨g,k,none⟩=some (.int .i64 (ds.getD k 0:Nat))
def iv (ds:List Nat):List Value:=ds.map fun(d:Nat)=>Value.int .i64 (d:Int)
theorem addr_add (g k:Nat):(⟨g,0,none⟩:Addr).add k=⟨g,k,none⟩:=by unfold Addr.add;split <;> simp_all
theorem Digs.of_own {w:World}{base:Nat}{v:Value}{ds:List Nat}(h:w.ownsRow base 3 1 v ds.length (iv ds))(h0:ds≠[]):Digs w v ds:=by
 obtain⟨g,cap,hv,_,hlt⟩:=h.form (by have:=List.length_pos_iff.2 h0;omega);refine .inr ⟨g,cap,hv,h0,hlt,fun k hk => ?_⟩;have:=h.cells (g:=g) (by rw[hv];rfl) k (.int .i64 (ds.getD k 0:Nat)) (by simp[iv,List.getD_eq_getElem?_getD,List.getElem?_eq_getElem hk]);rw[addr_add] at this;exact this
theorem Digs.below {w w':World}{v:Value}{ds:List Nat}(h:Digs w v ds)(hb:Below w.heap.size w w'):Digs w' v ds:=by
 rcases h with h|⟨g,cap,hv,h0,hg,hc⟩
 ·exact .inl h
 ·exact .inr ⟨g,cap,hv,h0,by have:=hb.size;omega,fun k hk=>(hb.cell (by exact hg)).trans (hc k hk)⟩
def chars (ds:List Nat):List UInt8:=ds.reverse.map fun d=>UInt8.ofNat (48+d)
theorem zka:∀ (ds:List Nat),ds≠[]→(∀ d∈ds,d<10)→(ds.length=1∨ds.getD (ds.length - 1) 0≠0)→chars ds=decDigits (vl 10 ds)
 | [],h,_,_=>absurd rfl h
 | [d],_,hd,_=>by
  have:=hd d (by simp);rw[zjD,Lib.decDigits_one this];simp[chars]
 | d::e::r,_,hd,ht=>by
  have ih:=zka (e::r) (by simp) (fun x hx=>hd x (List.mem_cons_of_mem _ hx)) (by
   right
   rcases ht with ht|ht
   ·simp at ht
   ·simpa using ht)
  have h1:=hd d (by simp);have e1:vl 10 (d::e::r)=d+10 * vl 10 (e::r):=by rw[show d::e::r=[d]++(e::r) from rfl,zcj,zjD];simp
  have hpos:vl 10 (e::r)≠0:=by
   intro e0;rw[e0,Lib.decDigits_one (by decide)] at ih;have hlen:=congrArg List.length ih;simp[chars] at hlen;subst hlen;simp at ht;rw[zjD] at e0;exact ht e0
  have e2:chars (d::e::r)=chars (e::r)++[UInt8.ofNat (48+d)]:=by simp[chars]
  rw[e2,ih,e1]
  conv=>rhs;rw[decDigits,dif_neg (by omega)]
  rw[show(d+10 * vl 10 (e::r)) / 10=vl 10 (e::r) by omega,show(d+10 * vl 10 (e::r)) % 10=d by omega]
theorem znk (ds:List Nat)(j:Nat)(h:j<ds.length):chars (ds.drop (j+1))++[UInt8.ofNat (48+ds.getD j 0)]=chars (ds.drop j):=by
 rw[List.drop_eq_getElem_cons h,List.getD_eq_getElem?_getD,List.getElem?_eq_getElem h];unfold chars;rw[List.reverse_cons,List.map_append]
 rfl
theorem zhz (d:Nat)(h:d<10):Lib.byteCells [UInt8.ofNat (48+d)]=[Value.int .u8 (48+(d:Int))]:=by
 unfold Lib.byteCells;simp
 omega
theorem zgY (v:Value)(ds:List Nat)(w:World)(hv:Digs w v ds)(hd:∀ d∈ds,d<10)(hn:ds.length≤1000000) :
  Calls Tryz.prog 213 #[v] w fun e w'=>e = .returned (.string (decS (vl 10 ds)))∧Below w.heap.size w w':=by
 rcases hv with⟨rfl,rfl⟩|⟨g,cap,rfl,h0,hg,hc⟩
 ·have hz:decS (vl 10 [])=⟨#[48]⟩:=by decide +kernel
  rw[hz];clear hz hd hn;go_enter Tryz.func213,Tryz.ntmps213;go_wp2
  go_loop [3] (fun n=>n = .int .i64 0) (fun _=>0)
  case atStart=>rfl
  case round =>
   subst hrel;go_wp2
   go_loop [4,5] (fun b n=>b = .slice none 0 0∧n = .int .i64 (-1)) (fun _ _=>0)
   case atStart=>exact⟨rfl,rfl⟩
   case round =>
    obtain⟨rfl,rfl⟩:=hrel;go_wp2;go_ret;exact⟨rfl,Below.refl _ _⟩
 obtain⟨i0,hi,hz0,hz1,hz2⟩:=info_parts zpQ;have HC:=zHd hc;have hpos:=List.length_pos_iff.2 h0;have HD:=zHd hd;clear hc hd h0;go_enter Tryz.func213,Tryz.ntmps213;go_wp2
 go_loop [3] (fun n=>∃ m:Nat,n = .int .i64 m∧1≤m∧m≤ds.length∧vl 10 (ds.take m)=vl 10 ds) (fun n=>(intOf n).toNat)
 case atStart=>exact⟨ds.length,rfl,by omega,Nat.le_refl _,by rw[List.take_length]⟩
 case round =>
  obtain⟨m,rfl,h1,h2,hv⟩:=hrel;have HV:=zHd hv;clear hv
  by_cases hm:(1:Int)<(m:Int)
  ·obtain⟨k,hk⟩:∃ k,m=k+1:=⟨m - 1,by omega⟩
   have HK:=zHd hk
   have hw:IntKind.i64.wrap ((m:Int) - 1)=(k:Int):=by
    rw[show(m:Int) - 1=(k:Int) by omega];exact IntWalk.i64_in _ ⟨by omega,by omega⟩
   have hcell:=HC.out k (by omega);have hk1:(0:Int)≤(k:Int):=by omega
   have hk2:(k:Int)<(ds.length:Int):=by omega
   clear hk
   by_cases hz:ds.getD k 0=0
   ·rw[hz] at hcell
    have HZ:=zHd hz;clear hz;go_wp2
    go_round
    case rel =>
     have hk:=HK.out
     exact⟨k,by go_num,by omega,by omega,by
      have e:=zaw 10 ds k;rw[HZ.out,Nat.mul_zero,← hk] at e;have:=HV.out
      omega⟩
    case measure=>have hk:=HK.out;simp[intOf];omega
   ·have KEY:=zHd (show m=1∨ds.getD (m - 1) 0≠0 from .inr (by rw[HK.out];exact hz))
    generalize hx:ds.getD k 0=x at *;have f1:((x:Int) == 0)=false:=by simp;omega
    clear hx hz;go_wp2
    go_loopw [4,5] (fun b i wr=>∃ (j:Nat) (z:Int) (acc:List UInt8),i = .int .i64 z∧z=(j:Int) - 1∧j≤m∧acc=chars ((ds.take m).drop j)∧wr.ownsRow w.heap.size 5 1 b acc.length (Lib.byteCells acc)∧Below w.heap.size w wr) (fun _ i _=>(intOf i+1).toNat)
    case atStart=>exact⟨m,_,[],rfl,by have:=HK.out;omega,Nat.le_refl _,by rw[List.drop_of_length_le (by rw[List.length_take];omega)];rfl,World.ownsRow_nil _ _ _ _,Below.refl _ _⟩
    case round =>
     obtain⟨j,z,acc,rfl,hzj,hj,hacc,hown,hb⟩:=hrel;have hal:acc.length=m - j:=by rw[hacc];simp[chars];omega
     have HACC:=zHd hacc;clear hacc
     by_cases hj0:j=0
     ·subst hj0
      obtain rfl:z = -1:=by omega
      have HFIN:=zHd (show decS (vl 10 ds)=⟨acc.toArray⟩ by
       rw[HACC.out,List.drop_zero,zka _ (by intro e;have h3:=congrArg List.length e;rw[List.length_take] at h3;simp only[List.length_nil] at h3;omega) (fun d hd=>HD.out d (List.mem_of_mem_take hd)) (by
        rw[List.length_take,Nat.min_eq_left (by omega)];rcases KEY.out with h|h
        ·exact .inl h
        ·right
         rw[List.getD_eq_getElem?_getD,List.getElem?_take,if_pos (by omega),← List.getD_eq_getElem?_getD];exact h),HV.out];rfl)
      have hcv:=zse hown;obtain⟨g',cap',rfl,_,_⟩:=hown.form (by omega);have hne:((acc.length:Int) == 0)=false:=by rw[beq_eq_false_iff_ne];omega
      have HB:=zHd hb;clear hown hb hal hzj;go_wp2;go_ret;exact⟨by rw[HFIN.out];rfl,HB.out⟩
     ·obtain⟨q,rfl⟩:∃ q,j=q+1:=⟨j - 1,by omega⟩
      obtain rfl:z=(q:Int):=by omega
      have hcell:=(hb.cell (p:=⟨g,q,none⟩) hg).trans (HC.out q (by omega));have hdq:=HD.out (ds.getD q 0) (by rw[List.getD_eq_getElem?_getD,List.getElem?_eq_getElem (by omega)];exact List.getElem_mem _);have HST:=zHd (znk (ds.take m) q (by rw[List.length_take];omega));have HDQ:=zHd (show(ds.take m).getD q 0=ds.getD q 0 by rw[List.getD_eq_getElem?_getD,List.getElem?_take,if_pos (by omega),← List.getD_eq_getElem?_getD]);generalize ds.getD q 0=d at *;have HCC:=zHd (zhz d hdq);have hd0:(0:Int)≤(d:Int):=by omega
      have hd1:(d:Int)<10:=by omega
      have hq1:(0:Int)≤(q:Int):=by omega
      have hq2:(q:Int)<(ds.length:Int):=by omega
      have hb1:acc.length+1≤1000000:=by omega
      clear hzj hj0 hal;go_wp2_with (at_builtin;refine wpList_append_own _ rfl _ _ 149 rfl w.heap.size 5 i0 (.int .u8 0) 1 1 Tryz.underlying149 hi hz0 hz1 hz2 rfl (by decide) _ _ _ rfl (hown.alloc _) ⟨wr.heap.size,0,none⟩ 1 1 [.int .u8 (48+(d:Int))] rfl rfl ?c1 ?c2 ?c3 ?c4 ?c5 ?_)
      case c1=>exact zen _ _ _
      case c2=>intro u hu;simp at hu;subst hu;rfl
      case c3=>unfold maxLen;omega
      case c4=>omega
      case c5=>simp;have:=hb.size;omega
      intro v' w1 hown' hgrow _;have HB:=zHd (zcQ hb _ (fun g e=>(hown.lt g e).1) hgrow);have HO:=zHd hown';clear hown hown' hgrow hcell;go_wp2
      go_roundw
      case rel=>exact⟨q,(q:Int) - 1,acc++[UInt8.ofNat (48+d)],by go_num,rfl,by omega,by rw[HACC.out,← HST.out,HDQ.out],by
       rw[List.length_append,Lib.byteCells_append,HCC.out];exact HO.out,HB.out⟩
      case measure=>simp[intOf]
  ·have HM:=zHd (show m=1 by omega)
   have KEY:=zHd (show m=1∨ds.getD (m - 1) 0≠0 from .inl HM.out)
   have hw:IntKind.i64.wrap ((m:Int) - 1)=0:=by
    rw[show(m:Int) - 1=0 by have:=HM.out;omega];exact IntWalk.i64_in _ ⟨by omega,by omega⟩
   go_wp2
   go_loopw [4,5] (fun b i wr=>∃ (j:Nat) (z:Int) (acc:List UInt8),i = .int .i64 z∧z=(j:Int) - 1∧j≤m∧acc=chars ((ds.take m).drop j)∧wr.ownsRow w.heap.size 5 1 b acc.length (Lib.byteCells acc)∧Below w.heap.size w wr) (fun _ i _=>(intOf i+1).toNat)
   case atStart=>exact⟨m,_,[],rfl,by have:=HM.out;omega,Nat.le_refl _,by rw[List.drop_of_length_le (by rw[List.length_take];omega)];rfl,World.ownsRow_nil _ _ _ _,Below.refl _ _⟩
   case round =>
    obtain⟨j,z,acc,rfl,hzj,hj,hacc,hown,hb⟩:=hrel;have hal:acc.length=m - j:=by rw[hacc];simp[chars];omega
    have HACC:=zHd hacc;clear hacc
    by_cases hj0:j=0
    ·subst hj0
     obtain rfl:z = -1:=by omega
     have HFIN:=zHd (show decS (vl 10 ds)=⟨acc.toArray⟩ by
      rw[HACC.out,List.drop_zero,zka _ (by intro e;have h3:=congrArg List.length e;rw[List.length_take] at h3;simp only[List.length_nil] at h3;omega) (fun d hd=>HD.out d (List.mem_of_mem_take hd)) (by
       rw[List.length_take,Nat.min_eq_left (by omega)];rcases KEY.out with h|h
       ·exact .inl h
       ·right
        rw[List.getD_eq_getElem?_getD,List.getElem?_take,if_pos (by omega),← List.getD_eq_getElem?_getD];exact h),HV.out];rfl)
     have hcv:=zse hown;obtain⟨g',cap',rfl,_,_⟩:=hown.form (by omega);have hne:((acc.length:Int) == 0)=false:=by rw[beq_eq_false_iff_ne];omega
     have HB:=zHd hb;clear hown hb hal hzj;go_wp2;go_ret;exact⟨by rw[HFIN.out];rfl,HB.out⟩
    ·obtain⟨q,rfl⟩:∃ q,j=q+1:=⟨j - 1,by omega⟩
     obtain rfl:z=(q:Int):=by omega
     have hcell:=(hb.cell (p:=⟨g,q,none⟩) hg).trans (HC.out q (by omega));have hdq:=HD.out (ds.getD q 0) (by rw[List.getD_eq_getElem?_getD,List.getElem?_eq_getElem (by omega)];exact List.getElem_mem _);have HST:=zHd (znk (ds.take m) q (by rw[List.length_take];omega));have HDQ:=zHd (show(ds.take m).getD q 0=ds.getD q 0 by rw[List.getD_eq_getElem?_getD,List.getElem?_take,if_pos (by omega),← List.getD_eq_getElem?_getD]);generalize ds.getD q 0=d at *;have HCC:=zHd (zhz d hdq);have hd0:(0:Int)≤(d:Int):=by omega
     have hd1:(d:Int)<10:=by omega
     have hq1:(0:Int)≤(q:Int):=by omega
     have hq2:(q:Int)<(ds.length:Int):=by omega
     have hb1:acc.length+1≤1000000:=by omega
     clear hzj hj0 hal;go_wp2_with (at_builtin;refine wpList_append_own _ rfl _ _ 149 rfl w.heap.size 5 i0 (.int .u8 0) 1 1 Tryz.underlying149 hi hz0 hz1 hz2 rfl (by decide) _ _ _ rfl (hown.alloc _) ⟨wr.heap.size,0,none⟩ 1 1 [.int .u8 (48+(d:Int))] rfl rfl ?c1 ?c2 ?c3 ?c4 ?c5 ?_)
     case c1=>exact zen _ _ _
     case c2=>intro u hu;simp at hu;subst hu;rfl
     case c3=>unfold maxLen;omega
     case c4=>omega
     case c5=>simp;have:=hb.size;omega
     intro v' w1 hown' hgrow _;have HB:=zHd (zcQ hb _ (fun g e=>(hown.lt g e).1) hgrow);have HO:=zHd hown';clear hown hown' hgrow hcell;go_wp2
     go_roundw
     case rel=>exact⟨q,(q:Int) - 1,acc++[UInt8.ofNat (48+d)],by go_num,rfl,by omega,by rw[HACC.out,← HST.out,HDQ.out],by
      rw[List.length_append,Lib.byteCells_append,HCC.out];exact HO.out,HB.out⟩
     case measure=>simp[intOf]
open Go.RowKit
open Go.Lib (nDigits decDigits)
theorem zgf (a b:List Nat):iv (a++b)=iv a++iv b:=by simp[iv]
theorem zkb (d:Nat):iv [d]=[Value.int .i64 (d:Int)]:=rfl
open Go.RowKit
open Go.Lib (nDigits decDigits)
def dgs (l:List UInt8):List Nat:=l.reverse.map fun c=>c.toNat - 48
def dg10 (a:ByteArray):List Nat:=dgs a.data.toList
theorem zCL (c:UInt8)(l:List UInt8):dgs (c::l)=dgs l++[c.toNat - 48]:=by simp[dgs]
theorem zvx (l:List UInt8):vl 10 (dgs l)=dval l:=by
 induction h:l.length generalizing l with
 | zero=>rw[List.length_eq_zero_iff.1 h];rfl
 | succ n ih =>
  obtain⟨l',c,rfl⟩:∃ l' c,l=l'++[c]:=⟨l.dropLast,l.getLast (by intro e;rw[e] at h;simp at h),(List.dropLast_concat_getLast _).symm⟩;have:=ih l' (by simp at h;exact h);rw[zdn,← this,show dgs (l'++[c])=[c.toNat - 48]++dgs l' by simp[dgs],zcj,zjD];simp
  omega
theorem zcX (a:ByteArray):vl 10 (dg10 a)=nv a:=zvx _
theorem zcY (a:ByteArray):(dg10 a).length=a.size:=by simp[dg10,dgs]
theorem zdg (a:ByteArray)(h:numB a=true):∀ d∈dg10 a,d<10:=by
 intro d hd;unfold dg10 dgs at hd;obtain⟨c,hc,rfl⟩:=List.mem_map.1 hd;rw[List.mem_reverse] at hc;unfold numB numL at h;simp only[Bool.and_eq_true,List.all_eq_true] at h;have:=h.1.2 c hc;unfold isDg at this;simp at this
 omega
theorem zCM (a:ByteArray)(j:Nat)(h:j<a.size):dgs (a.data.toList.drop (j+1))++[a[j].toNat - 48]=dgs (a.data.toList.drop j):=by
 conv=>rhs;rw[List.drop_eq_getElem_cons (show j<a.data.toList.length by simpa using h),zCL]
 rfl
def zeF (w:World)(v:Value)(ds:List Nat):Prop:=Digs w v ds∧ds≠[]
theorem zeF.form {w:World}{v:Value}{ds:List Nat}(h:zeF w v ds):∃ g cap,v = .slice (some ⟨g,0,none⟩) ds.length cap:=by
 rcases h.1 with⟨_,h0⟩|⟨g,cap,hv,_⟩
 ·exact absurd h0 h.2
 ·exact⟨g,cap,hv⟩
theorem zeF.below {w w':World}{v:Value}{ds:List Nat}(h:zeF w v ds)(hb:Below w.heap.size w w'):zeF w' v ds:=⟨h.1.below hb,h.2⟩
theorem zch (a:ByteArray)(w:World)(na:numB a=true) :
  Calls Tryz.prog 210 #[.string a] w fun e w'=>∃ v,e = .returned v∧zeF w' v (dg10 a)∧Below w.heap.size w w':=by
 obtain⟨i0,hi,hz0,hz1,hz2⟩:=info_parts ziN;have hsz:=zbs a na;have HDG:=zHd (zig a na);clear na;have hw:IntKind.i64.wrap ((a.size:Int) - 1)=(a.size:Int) - 1:=IntWalk.i64_in _ ⟨by omega,by omega⟩;go_enter Tryz.func210,Tryz.ntmps210;go_wp2
 go_loopw [3,4] (fun b i wr=>∃ (j:Nat) (z:Int) (acc:List Nat),i = .int .i64 z∧z=(j:Int) - 1∧j≤a.size∧acc=dgs (a.data.toList.drop j)∧wr.ownsRow w.heap.size 3 1 b acc.length (iv acc)∧Below w.heap.size w wr) (fun _ i _=>(intOf i+1).toNat)
 case atStart=>exact⟨a.size,_,[],rfl,rfl,Nat.le_refl _,by rw[List.drop_of_length_le (by simp)];rfl,World.ownsRow_nil _ _ _ _,Below.refl _ _⟩
 case round =>
  obtain⟨j,z,acc,rfl,hzj,hj,hacc,hown,hb⟩:=hrel;have hal:acc.length=a.size - j:=by rw[hacc];simp[dgs]
  have HACC:=zHd hacc;clear hacc
  by_cases hj0:j=0
  ·subst hj0
   obtain rfl:z = -1:=by omega
   have hne:acc≠[]:=by intro e;rw[e] at hal;simp at hal;omega
   have HR:=zHd (show zeF wr u3 acc from⟨Digs.of_own hown hne,hne⟩);have HB:=zHd hb;clear hown hb hal hne hzj;go_wp2;go_ret;refine⟨_,rfl,?_,HB.out⟩;have e:acc=dg10 a:=by rw[HACC.out,List.drop_zero];rfl
   rw[← e];exact HR.out
  ·obtain⟨q,rfl⟩:∃ q,j=q+1:=⟨j - 1,by omega⟩
   obtain rfl:z=(q:Int):=by omega
   have hqa:q<a.size:=by omega
   have hdq:=HDG.out q hqa;have HST:=zHd (zCM a q hqa);have HE:=zHd (show(a[q].toNat:Int) - 48=((a[q].toNat - 48:Nat):Int) by omega);have hd0:(48:Int)≤(a[q].toNat:Int):=by omega
   have hd1:(a[q].toNat:Int)≤57:=by omega
   have hq1:(0:Int)≤(q:Int):=by omega
   have hq2:(q:Int)<(a.size:Int):=by omega
   have hb1:acc.length+1≤1000000:=by omega
   clear hzj hj0 hal;go_wp2_with (at_builtin;refine wpList_append_own _ rfl _ _ 51 rfl w.heap.size 3 i0 (.int .i64 0) 1 8 Tryz.underlying51 hi hz0 hz1 hz2 rfl (by decide) _ _ _ rfl (hown.alloc _) ⟨wr.heap.size,0,none⟩ 1 1 [.int .i64 ((a[q].toNat:Int) - 48)] rfl rfl ?c1 ?c2 ?c3 ?c4 ?c5 ?_)
   case c1=>exact zen _ _ _
   case c2=>intro u hu;simp at hu;subst hu;rfl
   case c3=>unfold maxLen;omega
   case c4=>omega
   case c5=>simp;have:=hb.size;omega
   intro v' w1 hown' hgrow _;have HB:=zHd (zcQ hb _ (fun g e=>(hown.lt g e).1) hgrow);have HO:=zHd hown';clear hown hown' hgrow hd0 hd1;go_wp2
   go_roundw
   case rel=>exact⟨q,(q:Int) - 1,acc++[a[q].toNat - 48],by go_num,rfl,by omega,by rw[HACC.out,← HST.out],by
    rw[List.length_append,zgf,zkb,← HE.out];exact HO.out,HB.out⟩
   case measure=>simp[intOf]
theorem zkc (v:Value)(ds:List Nat)(i:Nat)(w:World)(hv:zeF w v ds)(hn:ds.length≤1000000) :
  Calls Tryz.prog 211 #[v,.int .i64 i] w fun e w'=>e = .returned (.int .i64 (ds.getD i 0:Nat))∧w=w':=by
 rcases hv.1 with⟨_,h0⟩|⟨g,cap,rfl,_,hg,hc⟩
 ·exact absurd h0 hv.2
 by_cases h:(i:Int)<(ds.length:Int)
 ·have hcell:=hc i (by omega)
  generalize ds.getD i 0=x at *;have hi0:(0:Int)≤(i:Int):=by omega
  clear hc hv;go_enter Tryz.func211,Tryz.ntmps211;go_wp2;go_ret;exact⟨rfl,rfl⟩
 ·have e:ds.getD i 0=0:=by rw[List.getD_eq_getElem?_getD,List.getElem?_eq_none (by omega)];rfl
  rw[e];clear hc hv e;go_enter Tryz.func211,Tryz.ntmps211;go_wp2;go_ret;exact⟨rfl,rfl⟩
theorem zlI (n:Nat)(w:World)(hn:nDigits n≤1000000) :
  Calls Tryz.prog 212 #[.string (decS n)] w fun e w'=>e = .returned (limV n)∧w=w':=by
 have hs:(decS n).size=nDigits n:=by unfold decS;simp[ByteArray.size,Lib.decDigits_length]
 by_cases h:nDigits n≤1000
 ·have HV:=zHd (show limV n = .tuple #[.string (decS n),.int .i64 0] by unfold limV;rw[if_pos h])
  generalize decS n=S at *;have h1:¬ (1000:Int)<(S.size:Int):=by omega
  clear hs h;go_enter Tryz.func212,Tryz.ntmps212;go_wp2
  go_ret2
  exact⟨by rw[HV.out];rfl,rfl⟩
 ·have HV:=zHd (show limV n = .tuple #[.string ⟨#[]⟩,.int .i64 2] by unfold limV;rw[if_neg h])
  generalize decS n=S at *;have h1:(1000:Int)<(S.size:Int):=by omega
  clear hs h;go_enter Tryz.func212,Tryz.ntmps212;go_wp2
  go_ret2
  exact⟨by rw[HV.out];rfl,rfl⟩
open Go.RowKit
open Go.Lib (nDigits decDigits)
theorem zpR (l:List Nat)(h:∀ d∈l,d<10):nDigits (vl 10 l)≤l.length+1:=by
 have h1:=zbH (Nat.le_of_lt (zbm 10 l h));have h2:=Lib.nDigits_unique l.length (10 ^ l.length) (Nat.le_refl _) (Nat.pow_lt_pow_right (by decide) (by omega))
 omega
structure zfl (xs ys:List Nat)(k c:Nat)(acc:List Nat):Prop where
 len:acc.length=k
 lt:∀ d∈acc,d<10
 carry:c≤1
 val:vl 10 acc+10 ^ k * c=vl 10 (xs.take k)+vl 10 (ys.take k)
theorem getD_lt (l:List Nat)(h:∀ d∈l,d<10)(k:Nat):l.getD k 0<10:=by
 rcases Nat.lt_or_ge k l.length with h1|h1
 ·rw[List.getD_eq_getElem?_getD,List.getElem?_eq_getElem h1];exact h _ (List.getElem_mem _)
 ·rw[List.getD_eq_getElem?_getD,List.getElem?_eq_none h1];decide
theorem zfl.step {xs ys:List Nat}{k c:Nat}{acc:List Nat}(h:zfl xs ys k c acc)(hx:∀ d∈xs,d<10)(hy:∀ d∈ys,d<10) :
  zfl xs ys (k+1) ((xs.getD k 0+ys.getD k 0+c) / 10) (acc++[(xs.getD k 0+ys.getD k 0+c) % 10]):=by
 have h1:=getD_lt xs hx k;have h2:=getD_lt ys hy k;have h3:=h.carry;refine⟨by rw[List.length_append,h.len];rfl,fun d hd => ?_,by omega,?_⟩
 ·rcases List.mem_append.1 hd with hd|hd
  ·exact h.lt d hd
  ·rw[List.mem_singleton.1 hd];omega
 ·have e:=h.val
  rw[zea,h.len,zaw,zaw,Nat.pow_succ];generalize xs.getD k 0=p at *;generalize ys.getD k 0=q at *;have hd:=Nat.div_add_mod (p+q+c) 10;generalize (p+q+c) / 10=u at *;generalize (p+q+c) % 10=v at *;generalize 10 ^ k=P at *;have e1:P * 10 * u+P * v=P * (p+q+c):=by rw[← hd,Nat.mul_add,Nat.mul_assoc]
  rw[Nat.mul_add,Nat.mul_add] at e1
  omega
theorem zfl.fin {xs ys:List Nat}{k c:Nat}{acc:List Nat}(h:zfl xs ys k c acc)(hx:∀ d∈xs,d<10)(hy:∀ d∈ys,d<10)(h1:xs.length<k)(h2:ys.length<k):vl 10 acc=vl 10 xs+vl 10 ys:=by
 have e:=h.val;rw[List.take_of_length_le (by omega),List.take_of_length_le (by omega)] at e;have a1:=zbm 10 xs hx;have a2:=zbm 10 ys hy;obtain⟨k,rfl⟩:∃ j,k=j+1:=⟨k - 1,by omega⟩;have b1:=Nat.pow_le_pow_right (n:=10) (by decide) (show xs.length≤k by omega);have b2:=Nat.pow_le_pow_right (n:=10) (by decide) (show ys.length≤k by omega);rw[Nat.pow_succ] at e;have hc:=h.carry
 have:c=0:=by
  rcases Nat.eq_zero_or_pos c with h0|h0
  ·exact h0
  ·obtain rfl:c=1:=by omega
   omega
 subst this
 omega
theorem zfl.start (xs ys:List Nat):zfl xs ys 0 0 []:=⟨rfl,fun d h=>by simp at h,by omega,by simp[vl]⟩
theorem zpS (n:Nat):∃ S E,limV n = .tuple #[.string S,.int .i64 E]:=by
 unfold limV
 split
 ·exact⟨_,_,rfl⟩
 ·exact⟨_,_,rfl⟩
theorem zCN (a b:ByteArray)(w:World)(na:numB a=true)(nb:numB b=true) :
  Calls Tryz.prog 175 #[.string a,.string b] w (zab (addV a b) w):=by
 obtain⟨i0,hi,hz0,hz1,hz2⟩:=info_parts ziN;have va:=zan a w (zaS na);have vb:=zan b w (zaS nb);rw[na] at va;rw[nb] at vb;have VA:=zHd va;have VB:=zHd vb;have D1:=zHd (fun w=>zch a w na);have D2:=zHd (fun w=>zch b w nb);have HV:=zHd (show addV a b=limV (vl 10 (dg10 a)+vl 10 (dg10 b)) by unfold addV;rw[na,nb,zcX,zcX];rfl);have hx:=zdg a na;have hy:=zdg b nb;have sa:=zbs a na;have sb:=zbs b nb;have la:=zcY a;have lb:=zcY b;clear va vb na nb;generalize dg10 a=xs at *;generalize dg10 b=ys at *;have HX:=zHd hx;have HY:=zHd hy;have lx:1≤xs.length∧xs.length≤1000:=by omega
 have ly:1≤ys.length∧ys.length≤1000:=by omega
 obtain⟨lx1,lx2⟩:=lx;obtain⟨ly1,ly2⟩:=ly;clear hx hy sa sb la lb;go_enter Tryz.func175,Tryz.ntmps175;go_wp2_with fail;refine VA.out.mono ?_;rintro e w' ⟨rfl,rfl⟩;go_wp2_with fail;refine VB.out.mono ?_;rintro e w' ⟨rfl,rfl⟩;go_wp2_with fail;refine(D1.out _).mono ?_;rintro e w1 ⟨v1,rfl,hr1,hb1⟩;obtain⟨g1,c1,rfl⟩:=hr1.form;have R1:=zHd hr1;have B1:=zHd hb1;clear hr1 hb1;go_wp2_with fail;refine(D2.out _).mono ?_;rintro e w2 ⟨v2,rfl,hr2,hb2⟩;obtain⟨g2,c2,rfl⟩:=hr2.form;have R1':=zHd (R1.out.below hb2);have R2:=zHd hr2;have B2:=zHd (B1.out.trans (hb2.mono B1.out.size));clear hr2 hb2 R1 B1 VA VB D1 D2;go_wp2
 go_loopw [8,9,10] (fun l c i wr=>∃ (k y:Nat) (acc:List Nat),i = .int .i64 k∧c = .int .i64 y∧zfl xs ys k y acc∧k≤1001∧wr.ownsRow w2.heap.size 3 1 l acc.length (iv acc)∧Below w2.heap.size w2 wr) (fun _ _ i _=>1002 - (intOf i).toNat)
 case atStart=>exact⟨0,0,[],rfl,rfl,zfl.start xs ys,by omega,World.ownsRow_nil _ _ _ _,Below.refl _ _⟩
 case round =>
  obtain⟨k,y,acc,rfl,rfl,hinv,hk,hown,hb⟩:=hrel;have hal:acc.length=k:=hinv.len;have hy1:=hinv.carry;have HINV:=zHd hinv;clear hinv
  by_cases hgo:k≤xs.length∨k≤ys.length
  ·have a1:=zHd (zkc _ xs k wr (R1'.out.below hb) (by omega))
   have a2:=zHd (zkc _ ys k wr (R2.out.below hb) (by omega));have hp:=getD_lt xs HX.out k;have hq:=getD_lt ys HY.out k;have HN:=zHd (HINV.out.step HX.out HY.out);generalize xs.getD k 0=p at *;generalize ys.getD k 0=q at *;have HE:=zHd (show((p:Int)+q+y) % 10=(((p+q+y) % 10:Nat):Int) by omega);have HE2:=zHd (show((p:Int)+q+y) / 10=(((p+q+y) / 10:Nat):Int) by omega);have p0:(0:Int)≤(p:Int):=by omega
   have p1:(p:Int)<10:=by omega
   have q0:(0:Int)≤(q:Int):=by omega
   have q1:(q:Int)<10:=by omega
   have y0:(0:Int)≤(y:Int):=by omega
   have y1:(y:Int)≤1:=by omega
   have k1:k≤1000:=by omega
   have hb1:acc.length+1≤1000000:=by omega
   have HAL:=zHd hal;clear hal hp hq hy1;rcases Nat.lt_or_ge xs.length k with hxk|hxk
   ·have hyk:k≤ys.length:=by omega
    have f1:¬ k≤xs.length:=by omega
    clear hgo;go_wp2_with fail;refine a1.out.mono ?_;rintro e w' ⟨rfl,rfl⟩;go_wp2_with fail;refine a2.out.mono ?_;rintro e w' ⟨rfl,rfl⟩;go_wp2_with (at_builtin;refine wpList_append_own _ rfl _ _ 51 rfl w2.heap.size 3 i0 (.int .i64 0) 1 8 Tryz.underlying51 hi hz0 hz1 hz2 rfl (by decide) _ _ _ rfl (hown.alloc _) ⟨wr.heap.size,0,none⟩ 1 1 [.int .i64 (((p:Int)+q+y) % 10)] rfl rfl ?c1 ?c2 ?c3 ?c4 ?c5 ?_)
    case c1=>exact zen _ _ _
    case c2=>intro u hu;simp at hu;subst hu;rfl
    case c3=>unfold maxLen;omega
    case c4=>omega
    case c5=>simp;have:=hb.size;omega
    intro v' w3 hown' hgrow _;have HB:=zHd (zcQ hb _ (fun g e=>(hown.lt g e).1) hgrow);have HO:=zHd hown';clear hown hown' hgrow hb;go_wp2
    go_roundw
    case rel=>exact⟨k+1,(p+q+y) / 10,acc++[(p+q+y) % 10],by go_num,congrArg (Value.int .i64) HE2.out,HN.out,by omega,by
     rw[List.length_append,zgf,zkb,← HE.out];exact HO.out,HB.out⟩
    case measure=>simp[intOf];omega
   ·clear hgo
    go_wp2_with fail;refine a1.out.mono ?_;rintro e w' ⟨rfl,rfl⟩;go_wp2_with fail;refine a2.out.mono ?_;rintro e w' ⟨rfl,rfl⟩;go_wp2_with (at_builtin;refine wpList_append_own _ rfl _ _ 51 rfl w2.heap.size 3 i0 (.int .i64 0) 1 8 Tryz.underlying51 hi hz0 hz1 hz2 rfl (by decide) _ _ _ rfl (hown.alloc _) ⟨wr.heap.size,0,none⟩ 1 1 [.int .i64 (((p:Int)+q+y) % 10)] rfl rfl ?c1 ?c2 ?c3 ?c4 ?c5 ?_)
    case c1=>exact zen _ _ _
    case c2=>intro u hu;simp at hu;subst hu;rfl
    case c3=>unfold maxLen;omega
    case c4=>omega
    case c5=>simp;have:=hb.size;omega
    intro v' w3 hown' hgrow _;have HB:=zHd (zcQ hb _ (fun g e=>(hown.lt g e).1) hgrow);have HO:=zHd hown';clear hown hown' hgrow hb;go_wp2
    go_roundw
    case rel=>exact⟨k+1,(p+q+y) / 10,acc++[(p+q+y) % 10],by go_num,congrArg (Value.int .i64) HE2.out,HN.out,by omega,by
     rw[List.length_append,zgf,zkb,← HE.out];exact HO.out,HB.out⟩
    case measure=>simp[intOf];omega
  ·have e1:¬ k≤xs.length:=by omega
   have e2:¬ k≤ys.length:=by omega
   have hne:acc≠[]:=by intro e;rw[e] at hal;simp at hal;omega
   have HFIN:=zHd (HINV.out.fin HX.out HY.out (by omega) (by omega));have HT:=zHd (zgY _ acc wr (Digs.of_own hown hne) HINV.out.lt (by omega));have HL:=zHd (fun w=>zlI (vl 10 acc) w (by have:=zpR acc HINV.out.lt;omega));have HB:=zHd hb;clear hown hb hne hal hgo;go_wp2_with fail;refine HT.out.mono ?_;rintro e w3 ⟨rfl,hb3⟩;have B3:=zHd hb3;clear hb3;go_wp2_with fail;refine(HL.out _).mono ?_;rintro e w' ⟨he,rfl⟩;have H1:=HFIN.out;have H2:=HV.out;rw[← H1] at H2;rw[← H2] at he;have BB:=zHd (B2.out.trans ((HB.out.trans (B3.out.mono HB.out.size)).mono B2.out.size));have HEND:Hid (zab (addV a b) w (.returned (addV a b)) w3):=zHd ⟨rfl,zaI BB.out⟩;clear H1 H2;rcases zpS (vl 10 xs+vl 10 ys) with⟨S,E,hS⟩
   have hav:addV a b = .tuple #[.string S,.int .i64 E]:=by rw[HV.out,hS]
   rw[hav] at he;subst he;have HEND2:=HEND.out;rw[hav] at HEND2;have HE3:=zHd HEND2;have HAV:=zHd hav;clear HEND HEND2 hav hS;go_wp2
   go_ret2
   rw[HAV.out];exact HE3.out
open Go.RowKit
open Go.Lib (nDigits decDigits)
structure zeo (xs ys:List Nat)(k c:Nat)(acc:List Nat):Prop where
 len:acc.length=k
 lt:∀ d∈acc,d<10
 carry:c≤1
 val:vl 10 acc+vl 10 (ys.take k)=vl 10 (xs.take k)+10 ^ k * c
theorem zeo.start (xs ys:List Nat):zeo xs ys 0 0 []:=⟨rfl,fun d h=>by simp at h,by omega,by simp[vl]⟩
theorem zeo.step {xs ys:List Nat}{k c:Nat}{acc:List Nat}(h:zeo xs ys k c acc)(d c':Nat)(hd:d<10)(hc:c'≤1)(e:d+ys.getD k 0+c=xs.getD k 0+10 * c') :
  zeo xs ys (k+1) c' (acc++[d]):=by
 refine⟨by rw[List.length_append,h.len];rfl,fun x hx => ?_,hc,?_⟩
 ·rcases List.mem_append.1 hx with hx|hx
  ·exact h.lt x hx
  ·rw[List.mem_singleton.1 hx];exact hd
 ·have v:=h.val
  rw[zea,h.len,zaw,zaw,Nat.pow_succ];generalize xs.getD k 0=p at *;generalize ys.getD k 0=q at *;generalize 10 ^ k=P at *;have e1:P * (d+q+c)=P * (p+10 * c'):=by rw[e]
  rw[Nat.mul_add,Nat.mul_add,Nat.mul_add,← Nat.mul_assoc] at e1
  omega
theorem zeo.fin {xs ys:List Nat}{c:Nat}{acc:List Nat}(h:zeo xs ys xs.length c acc)(hx:∀ d∈xs,d<10)(hle:vl 10 ys≤vl 10 xs):vl 10 acc=vl 10 xs - vl 10 ys:=by
 have e:=h.val;rw[List.take_of_length_le (Nat.le_refl _)] at e;have a1:=zbm 10 xs hx;have a2:=zbm 10 acc h.lt;rw[h.len] at a2;have hc:=h.carry
 have hy:vl 10 (ys.take xs.length)=vl 10 ys:=by
  rcases Nat.lt_or_ge ys.length xs.length with h1|h1
  ·rw[List.take_of_length_le (by omega)]
  ·have s:=zeI 10 ys xs.length h1
   rcases Nat.eq_zero_or_pos (vl 10 (ys.drop xs.length)) with h0|h0
   ·rw[h0,Nat.mul_zero] at s;omega
   ·have:=Nat.mul_le_mul_left (10 ^ xs.length) h0
    omega
 rw[hy] at e
 have:c=0:=by
  rcases Nat.eq_zero_or_pos c with h0|h0
  ·exact h0
  ·obtain rfl:c=1:=by omega
   omega
 subst this
 omega
def zCO (xs ys:List Nat)(w:World)(e:Ending)(w':World):Prop :=
 ∃ v zs,e = .returned v∧zeF w' v zs∧(∀ d∈zs,d<10)∧vl 10 zs=vl 10 xs - vl 10 ys∧zs.length=xs.length∧Below w.heap.size w w'
theorem zmb (v1 v2:Value)(xs ys:List Nat)(w:World)(hv1:zeF w v1 xs)(hv2:zeF w v2 ys)(hx:∀ d∈xs,d<10)(hy:∀ d∈ys,d<10)(lx:xs.length≤1000000)(ly:ys.length≤1000000)(hle:vl 10 ys≤vl 10 xs) :
  Calls Tryz.prog 215 #[v1,v2] w (zCO xs ys w):=by
 obtain⟨i0,hi,hz0,hz1,hz2⟩:=info_parts ziN;obtain⟨g1,c1,rfl⟩:=hv1.form;obtain⟨g2,c2,rfl⟩:=hv2.form;have hpos:=List.length_pos_iff.2 hv1.2;have R1:=zHd hv1;have R2:=zHd hv2;have HX:=zHd hx;have HY:=zHd hy;have HLE:=zHd hle;clear hv1 hv2 hx hy hle;go_enter Tryz.func215,Tryz.ntmps215;go_wp2
 go_loopw [5,6,7] (fun l c i wr=>∃ (k y:Nat) (acc:List Nat),i = .int .i64 k∧c = .int .i64 y∧zeo xs ys k y acc∧k≤xs.length∧wr.ownsRow w.heap.size 3 1 l acc.length (iv acc)∧Below w.heap.size w wr) (fun _ _ i _=>xs.length - (intOf i).toNat)
 case atStart=>exact⟨0,0,[],rfl,rfl,zeo.start xs ys,by omega,World.ownsRow_nil _ _ _ _,Below.refl _ _⟩
 case round =>
  obtain⟨k,y,acc,rfl,rfl,hinv,hk,hown,hb⟩:=hrel;have hal:acc.length=k:=hinv.len;have hy1:=hinv.carry;have HINV:=zHd hinv;clear hinv
  by_cases hgo:k<xs.length
  ·have a1:=zHd (zkc _ xs k wr (R1.out.below hb) lx)
   have a2:=zHd (zkc _ ys k wr (R2.out.below hb) ly);have hp:=getD_lt xs HX.out k;have hq:=getD_lt ys HY.out k;have HN:=zHd (fun d c' h1 h2 h3=>HINV.out.step d c' h1 h2 h3);generalize xs.getD k 0=p at *;generalize ys.getD k 0=q at *;have p0:(0:Int)≤(p:Int):=by omega
   have p1:(p:Int)<10:=by omega
   have q0:(0:Int)≤(q:Int):=by omega
   have q1:(q:Int)<10:=by omega
   have y0:(0:Int)≤(y:Int):=by omega
   have y1:(y:Int)≤1:=by omega
   have hb1:acc.length+1≤1000001:=by omega
   by_cases hneg:(p:Int) - q - y<0
   ·have HE:=zHd (show(p:Int) - q - y+10=((p+10 - q - y:Nat):Int) by omega)
    have HM:=zHd (HN.out (p+10 - q - y) 1 (by omega) (by omega) (by omega));clear hal hp hq hy1;go_wp2_with fail;refine a1.out.mono ?_;rintro e w' ⟨rfl,rfl⟩;go_wp2_with fail;refine a2.out.mono ?_;rintro e w' ⟨rfl,rfl⟩;go_wp2_with (at_builtin;refine wpList_append_own _ rfl _ _ 51 rfl w.heap.size 3 i0 (.int .i64 0) 1 8 Tryz.underlying51 hi hz0 hz1 hz2 rfl (by decide) _ _ _ rfl (hown.alloc _) ⟨wr.heap.size,0,none⟩ 1 1 [.int .i64 ((p:Int) - q - y+10)] rfl rfl ?c1 ?c2 ?c3 ?c4 ?c5 ?_)
    case c1=>exact zen _ _ _
    case c2=>intro u hu;simp at hu;subst hu;rfl
    case c3=>unfold maxLen;omega
    case c4=>omega
    case c5=>simp;have:=hb.size;omega
    intro v' w3 hown' hgrow _;have HB:=zHd (zcQ hb _ (fun g e=>(hown.lt g e).1) hgrow);have HO:=zHd hown';clear hown hown' hgrow hb;go_wp2
    go_roundw
    case rel=>exact⟨k+1,1,acc++[p+10 - q - y],by go_num,rfl,HM.out,by omega,by
     rw[List.length_append,zgf,zkb,← HE.out];exact HO.out,HB.out⟩
    case measure=>simp[intOf];omega
   ·have HE:=zHd (show(p:Int) - q - y=((p - q - y:Nat):Int) by omega)
    have HM:=zHd (HN.out (p - q - y) 0 (by omega) (by omega) (by omega));clear hal hp hq hy1;go_wp2_with fail;refine a1.out.mono ?_;rintro e w' ⟨rfl,rfl⟩;go_wp2_with fail;refine a2.out.mono ?_;rintro e w' ⟨rfl,rfl⟩;go_wp2_with (at_builtin;refine wpList_append_own _ rfl _ _ 51 rfl w.heap.size 3 i0 (.int .i64 0) 1 8 Tryz.underlying51 hi hz0 hz1 hz2 rfl (by decide) _ _ _ rfl (hown.alloc _) ⟨wr.heap.size,0,none⟩ 1 1 [.int .i64 ((p:Int) - q - y)] rfl rfl ?c1 ?c2 ?c3 ?c4 ?c5 ?_)
    case c1=>exact zen _ _ _
    case c2=>intro u hu;simp at hu;subst hu;rfl
    case c3=>unfold maxLen;omega
    case c4=>omega
    case c5=>simp;have:=hb.size;omega
    intro v' w3 hown' hgrow _;have HB:=zHd (zcQ hb _ (fun g e=>(hown.lt g e).1) hgrow);have HO:=zHd hown';clear hown hown' hgrow hb;go_wp2
    go_roundw
    case rel=>exact⟨k+1,0,acc++[p - q - y],by go_num,rfl,HM.out,by omega,by
     rw[List.length_append,zgf,zkb,← HE.out];exact HO.out,HB.out⟩
    case measure=>simp[intOf];omega
  ·obtain rfl:k=xs.length:=by omega
   have hne:acc≠[]:=by intro e;rw[e] at hal;simp at hal;omega
   have HR:=zHd (show zeF wr u5 acc from⟨Digs.of_own hown hne,hne⟩);have HFIN:=zHd (HINV.out.fin HX.out HLE.out);have HAL:=zHd hal;have HB:=zHd hb;clear hown hb hne hal;go_wp2;go_ret;exact⟨_,acc,rfl,HR.out,HINV.out.lt,HFIN.out,HAL.out,HB.out⟩
open Go.RowKit
open Go.Lib (nDigits decDigits)
theorem zwM (a b:ByteArray)(w:World)(ha:a.size≤maxLen)(hb:b.size≤maxLen)(na:numB a=false) :
  Calls Tryz.prog 175 #[.string a,.string b] w (zab (addV a b) w):=by
 have HV:=zHd (show addV a b = .tuple #[.string ⟨#[]⟩,.int .i64 1] by unfold addV;rw[na];rfl);have va:=zan a w ha;have vb:=zan b w hb;rw[na] at va;have VA:=zHd va;have VB:=zHd vb;clear va vb ha hb na;go_enter Tryz.func175,Tryz.ntmps175;go_wp2_with fail;refine VA.out.mono ?_;rintro e w' ⟨rfl,rfl⟩;go_wp2
 go_ret2
 rw[HV.out];exact⟨rfl,zag _ _⟩
theorem zwN (a b:ByteArray)(w:World)(ha:a.size≤maxLen)(hb:b.size≤maxLen)(na:numB a=true)(nb:numB b=false) :
  Calls Tryz.prog 175 #[.string a,.string b] w (zab (addV a b) w):=by
 have HV:=zHd (show addV a b = .tuple #[.string ⟨#[]⟩,.int .i64 1] by unfold addV;rw[na,nb];rfl);have va:=zan a w ha;have vb:=zan b w hb;rw[na] at va;rw[nb] at vb;have VA:=zHd va;have VB:=zHd vb;clear va vb ha hb na nb;go_enter Tryz.func175,Tryz.ntmps175;go_wp2_with fail;refine VA.out.mono ?_;rintro e w' ⟨rfl,rfl⟩;go_wp2_with fail;refine VB.out.mono ?_;rintro e w' ⟨rfl,rfl⟩;go_wp2
 go_ret2
 rw[HV.out];exact⟨rfl,zag _ _⟩
theorem zCP (a b:ByteArray)(w:World)(ha:a.size≤maxLen)(hb:b.size≤maxLen) :
  Calls Tryz.prog 175 #[.string a,.string b] w (zab (addV a b) w):=by
 cases na:numB a
 ·exact zwM a b w ha hb na
 cases nb:numB b
 ·exact zwN a b w ha hb na nb
 exact zCN a b w na nb
theorem zwO (a b:ByteArray)(w:World)(ha:a.size≤maxLen)(hb:b.size≤maxLen)(na:numB a=false) :
  Calls Tryz.prog 177 #[.string a,.string b] w (zab (subV a b) w):=by
 have HV:=zHd (show subV a b = .tuple #[.string ⟨#[]⟩,.int .i64 1] by unfold subV;rw[na];rfl);have va:=zan a w ha;have vb:=zan b w hb;rw[na] at va;have VA:=zHd va;have VB:=zHd vb;clear va vb ha hb na;go_enter Tryz.func177,Tryz.ntmps177;go_wp2_with fail;refine VA.out.mono ?_;rintro e w' ⟨rfl,rfl⟩;go_wp2
 go_ret2
 rw[HV.out];exact⟨rfl,zag _ _⟩
theorem zwP (a b:ByteArray)(w:World)(ha:a.size≤maxLen)(hb:b.size≤maxLen)(na:numB a=true)(nb:numB b=false) :
  Calls Tryz.prog 177 #[.string a,.string b] w (zab (subV a b) w):=by
 have HV:=zHd (show subV a b = .tuple #[.string ⟨#[]⟩,.int .i64 1] by unfold subV;rw[na,nb];rfl);have va:=zan a w ha;have vb:=zan b w hb;rw[na] at va;rw[nb] at vb;have VA:=zHd va;have VB:=zHd vb;clear va vb ha hb na nb;go_enter Tryz.func177,Tryz.ntmps177;go_wp2_with fail;refine VA.out.mono ?_;rintro e w' ⟨rfl,rfl⟩;go_wp2_with fail;refine VB.out.mono ?_;rintro e w' ⟨rfl,rfl⟩;go_wp2
 go_ret2
 rw[HV.out];exact⟨rfl,zag _ _⟩
theorem zCQ (a b:ByteArray)(w:World)(na:numB a=true)(nb:numB b=true) :
  Calls Tryz.prog 177 #[.string a,.string b] w (zab (subV a b) w):=by
 have va:=zan a w (zaS na);have vb:=zan b w (zaS nb);rw[na] at va;rw[nb] at vb;have VA:=zHd va;have VB:=zHd vb;have rc:=zfk a b w na nb;clear va vb
 by_cases hlt:nv a<nv b
 ·have HV:=zHd (show subV a b = .tuple #[.string ⟨#[]⟩,.int .i64 4] by rw[zEZ a b na nb hlt])
  rw[show cmpN (nv a) (nv b) = -1 by unfold cmpN;rw[if_pos hlt]] at rc;have RC:=zHd rc;clear na nb hlt rc;go_enter Tryz.func177,Tryz.ntmps177;go_wp2_with fail;refine VA.out.mono ?_;rintro e w' ⟨rfl,rfl⟩;go_wp2_with fail;refine VB.out.mono ?_;rintro e w' ⟨rfl,rfl⟩;go_wp2_with fail;refine RC.out.mono ?_;rintro e w1 ⟨rfl,hg⟩;have G:=zHd hg;clear hg;go_wp2
  go_ret2
  rw[HV.out];exact⟨rfl,G.out⟩
 ·have HV:=zHd (show subV a b = .tuple #[.string (decS (nv a - nv b)),.int .i64 0] by unfold subV;rw[na,nb];simp only[Bool.and_self,if_true];rw[if_neg hlt])
  obtain⟨d,hd,hd0⟩:∃ d:Int,cmpN (nv a) (nv b)=d∧¬ d<0:=⟨_,rfl,by have:=zdC (nv a) (nv b);omega⟩;rw[hd] at rc;have RC:=zHd rc;have D1:=zHd (fun w=>zch a w na);have D2:=zHd (fun w=>zch b w nb);have hx:=zdg a na;have hy:=zdg b nb;have sa:=zbs a na;have sb:=zbs b nb;have la:=zcY a;have lb:=zcY b;have xa:=zcX a;have xb:=zcX b;have hle:vl 10 (dg10 b)≤vl 10 (dg10 a):=by omega
  rw[← xa,← xb] at HV;clear na nb rc hd xa xb hlt;generalize dg10 a=xs at *;generalize dg10 b=ys at *;have HX:=zHd hx;have HY:=zHd hy;have HLE:=zHd hle;have lx2:xs.length≤1000:=by omega
  have ly2:ys.length≤1000:=by omega
  clear hx hy sa sb la lb hle;go_enter Tryz.func177,Tryz.ntmps177;go_wp2_with fail;refine VA.out.mono ?_;rintro e w' ⟨rfl,rfl⟩;go_wp2_with fail;refine VB.out.mono ?_;rintro e w' ⟨rfl,rfl⟩;go_wp2_with fail;refine RC.out.mono ?_;rintro e w0 ⟨rfl,hg⟩;have G0:=zHd hg;clear hg VA VB RC;go_wp2_with fail;refine(D1.out _).mono ?_;rintro e w1 ⟨v1,rfl,hr1,hb1⟩;have R1:=zHd hr1;have B1:=zHd hb1;clear hr1 hb1;go_wp2_with fail;refine(D2.out _).mono ?_;rintro e w2 ⟨v2,rfl,hr2,hb2⟩;have R1':=zHd (R1.out.below hb2);have R2:=zHd hr2;have B2:=zHd (B1.out.trans (hb2.mono B1.out.size));clear hr2 hb2 R1 B1 D1 D2;go_wp2_with fail;refine(zmb v1 v2 xs ys w2 R1'.out R2.out HX.out HY.out (by omega) (by omega) HLE.out).mono ?_;rintro e w3 ⟨v3,zs,rfl,hr3,hz,hval,hlen,hb3⟩;have B3:=zHd (B2.out.trans (hb3.mono B2.out.size));have R3:=zHd hr3;have hT:=zgY v3 zs w3 hr3.1 hz (by omega);rw[hval] at hT;have HT:=zHd hT;clear hr3 hz hval hlen hb3 hT;go_wp2_with fail;refine HT.out.mono ?_;rintro e w4 ⟨rfl,hb4⟩;have BB:=zHd (zaa G0.out (zaI (B3.out.trans (hb4.mono B3.out.size))));clear hb4;generalize decS (vl 10 xs - vl 10 ys)=S at *;go_wp2
  go_ret2
  rw[HV.out];exact⟨rfl,BB.out⟩
theorem zsf (a b:ByteArray)(w:World)(ha:a.size≤maxLen)(hb:b.size≤maxLen) :
  Calls Tryz.prog 177 #[.string a,.string b] w (zab (subV a b) w):=by
 cases na:numB a
 ·exact zwO a b w ha hb na
 cases nb:numB b
 ·exact zwP a b w ha hb na nb
 exact zCQ a b w na nb
end Go.Proofs.YtaogepcaoogpgaaGreatDoor
