/- W17 W99 W91 W66 -/
import Derived.Test.YtaogepcaoogpgaaGreatDoorX15
import Derived.Deep.RegionHeld2
set_option linter.unusedVariables false
set_option linter.unusedSimpArgs false
set_option maxRecDepth 100000
set_option maxHeartbeats 16000000
namespace Go.Proofs.YtaogepcaoogpgaaGreatDoor
open Go.RowKit
open Go.Lib (nDigits decDigits)
def RK (k:Int)(x:Bool):Prop:=∀ w,Calls Tryz.prog 45 #[.int .i64 k] w fun e w'=>e = .returned (.bool x)∧w=w'
theorem zHq (k:Int)(h1:1≤k)(h2:k≤3):RK k true:=fun w=>by
 go_enter Tryz.func45,Tryz.ntmps45;go_wp2;go_ret;exact⟨rfl,rfl⟩
theorem zHr (k:Int)(h1:¬ 1≤k):RK k false:=fun w=>by
 go_enter Tryz.func45,Tryz.ntmps45;go_wp2;go_ret;exact⟨rfl,rfl⟩
theorem zGi (k:Int)(h1:1≤k)(h2:¬ k≤3):RK k false:=fun w=>by
 go_enter Tryz.func45,Tryz.ntmps45;go_wp2;go_ret;exact⟨rfl,rfl⟩
theorem zpD {k:Int}(h:k=1∨k=2∨k=3):RK k true:=zHq k (by omega) (by omega)
theorem zwq {k:Int}(h:¬ (k=1∨k=2∨k=3)):RK k false:=by
 by_cases h1:1≤k
 ·exact zGi k h1 (by omega)
 ·exact zHr k h1
theorem zHX (k:Int):((k == 1)=true∧(k != 1)=false∧k=1)∨((k == 1)=false∧(k != 1)=true∧k≠1):=by
 by_cases h:k=1
 ·subst h;exact .inl ⟨rfl,rfl,rfl⟩
 ·exact .inr ⟨by simpa using h,by simpa using h,h⟩
def RatV (a:ByteArray)(x:Bool):Prop:=∀ w,Calls Tryz.prog 88 #[.string a] w (zab (.bool x) w)
def RatC (a b:ByteArray)(c:Int):Prop:=∀ w,Calls Tryz.prog 89 #[.string a,.string b] w (zab (.int .i64 c) w)
theorem zGj (k:Int)(a:ByteArray)(K:Hid (RK k false))(w:World):Calls Tryz.prog 46 #[.int .i64 k,.string a] w (zab (.bool false) w):=by
 go_enter Tryz.func46,Tryz.ntmps46;go_wp2_with fail;refine(K.out _).mono ?_;rintro e w' ⟨rfl,rfl⟩;go_wp2;go_ret;exact⟨rfl,zah _ _⟩
theorem zHs (k:Int)(a:ByteArray)(K:Hid (RK k true))(f1:(a.toList == [105,110,102])=true)(w:World):Calls Tryz.prog 46 #[.int .i64 k,.string a] w (zab (.bool true) w):=by
 go_enter Tryz.func46,Tryz.ntmps46;go_wp2_with fail;refine(K.out _).mono ?_;rintro e w' ⟨rfl,rfl⟩;go_wp2;go_ret;exact⟨rfl,zah _ _⟩
theorem zHt (k:Int)(a:ByteArray)(x:Bool)(K:Hid (RK k true))(f1:(a.toList == [105,110,102])=false)(f2:(a.toList == [45,105,110,102])=true)(k1:(k == 1)=x)(w:World):Calls Tryz.prog 46 #[.int .i64 k,.string a] w (zab (.bool x) w):=by
 go_enter Tryz.func46,Tryz.ntmps46;go_wp2_with fail;refine(K.out _).mono ?_;rintro e w' ⟨rfl,rfl⟩;go_wp2;go_ret;exact⟨rfl,zah _ _⟩
theorem zHu (k:Int)(a:ByteArray)(K:Hid (RK k true))(f1:(a.toList == [105,110,102])=false)(f2:(a.toList == [45,105,110,102])=false)(V:Hid (RatV a false))(w:World):Calls Tryz.prog 46 #[.int .i64 k,.string a] w (zab (.bool false) w):=by
 go_enter Tryz.func46,Tryz.ntmps46;go_wp2_with fail;refine(K.out _).mono ?_;rintro e w' ⟨rfl,rfl⟩;go_wp2_with fail;refine(V.out _).mono ?_;rintro e w1 ⟨rfl,hg⟩;have G1:=zHd (hg);clear hg;go_wp2;go_ret;exact⟨rfl,G1.out⟩
theorem zGk (k:Int)(a:ByteArray)(K:Hid (RK k true))(f1:(a.toList == [105,110,102])=false)(f2:(a.toList == [45,105,110,102])=false)(V:Hid (RatV a true))(k1:(k == 1)=true)(w:World):Calls Tryz.prog 46 #[.int .i64 k,.string a] w (zab (.bool true) w):=by
 go_enter Tryz.func46,Tryz.ntmps46;go_wp2_with fail;refine(K.out _).mono ?_;rintro e w' ⟨rfl,rfl⟩;go_wp2_with fail;refine(V.out _).mono ?_;rintro e w1 ⟨rfl,hg⟩;have G1:=zHd (hg);clear hg;go_wp2;go_ret;exact⟨rfl,G1.out⟩
theorem zHv (k:Int)(a:ByteArray)(c:Int)(K:Hid (RK k true))(f1:(a.toList == [105,110,102])=false)(f2:(a.toList == [45,105,110,102])=false)(V:Hid (RatV a true))(k1:(k == 1)=false)(C:Hid (RatC a ⟨#[48]⟩ c))(w:World):Calls Tryz.prog 46 #[.int .i64 k,.string a] w (zab (.bool (decide (0≤c))) w):=by
 go_enter Tryz.func46,Tryz.ntmps46;go_wp2_with fail;refine(K.out _).mono ?_;rintro e w' ⟨rfl,rfl⟩;go_wp2_with fail;refine(V.out _).mono ?_;rintro e w1 ⟨rfl,hg⟩;have G1:=zHd (hg);clear hg;go_wp2_with fail;refine(C.out _).mono ?_;rintro e w2 ⟨rfl,hg⟩;have G2:=zHd (zaa G1.out hg);clear hg G1;go_wp2;go_ret;exact⟨rfl,G2.out⟩
theorem zxU {a:ByteArray}(h:zfX a):(a.toList == [105,110,102])=false:=by rw[← zjj,zdw];exact decide_eq_false (fun e=>h (.inl true) e)
theorem zxV {a:ByteArray}(h:zfX a):(a.toList == [45,105,110,102])=false:=by rw[← zmw,zdw];exact decide_eq_false (fun e=>h (.inl false) e)
theorem zGl (k:Int)(hk:k=1∨k=2∨k=3)(x:Rat):hasE k (.inr x)=(decide (k=1) || decide (0≤x)):=by
 rcases hk with rfl|rfl|rfl <;> simp[hasE]
theorem zBb {k:Int}(hk:k=1∨k=2∨k=3){a:ByteArray}{v:Ext}(h:IsE a v):VB 46 k a (hasE k v):=fun w=>by
 have K:=zHd (zpD hk);have i:=zdj h;have j:=zlD h;rcases v with(_|_)|x
 ·refine zHt k a _ K i j ?_ w
  show(k == 1)=decide (k=1);rw[Bool.eq_iff_iff,beq_iff_eq,decide_eq_true_eq]
 ·have:=zHs k a K i w
  rw[show hasE k (.inl true)=true by rcases hk with rfl|rfl|rfl <;> rfl];exact this
 ·have V:=zHd (show RatV a true from fun w=>zxR h w)
  rw[zGl k hk];rcases zHX k with⟨k1,_,k2⟩|⟨k1,_,k2⟩
  ·rw[decide_eq_true k2]
   exact zGk k a K i j V k1 w
  ·rw[decide_eq_false k2,Bool.false_or]
   have C:=zHd (show RatC a ⟨#[48]⟩ (cmpQ x 0) from fun w=>zDV h ziY w);have z:0≤cmpQ x 0↔0≤x:=by rw[← Rat.not_lt,← zeJ];omega
   rw[← decide_eq_decide.2 z];exact zHv k a _ K i j V k1 C w
theorem zHw {k:Int}{a:ByteArray}{v:Ext}(h:Val k a v):VB 46 k a true:=by
 have:=zBb h.kind h.e;rw[h.has] at this;exact this
theorem zHY {k:Int}{a:ByteArray}(h:zfU k a)(ha:a.size≤maxLen):VB 46 k a false:=by
 by_cases hk:k=1∨k=2∨k=3
 ·rcases znO a with⟨v,hv⟩|hn
  ·have:=zBb hk hv
   rw[h v hv] at this;exact this
  ·exact fun w=>zHu k a (zHd (zpD hk)) (zxU hn) (zxV hn) (zHd fun w=>zAZ hn.rat ha w) w
 ·exact fun w=>zGj k a (zHd (zwq hk)) w
theorem zBc {l m:List UInt8}(h:(l == m)=true):(l != m)=false:=by rw[bne,h];rfl
theorem zBd {l m:List UInt8}(h:(l == m)=false):(l != m)=true:=by rw[bne,h];rfl
open Go.RowKit
open Go.Lib (nDigits decDigits)
open Go.RowKit Go.Maps
instance:LawfulBEq ByteArray where
 eq_of_beq {a b} h:=ByteArray.ext (eq_of_beq (α:=Array UInt8) h)
 rfl {a}:=beq_self_eq_true (α:=Array UInt8) a.data
theorem zlG:Keyed Tryz.prog 9:=string_keyed Tryz.underlying9
theorem zDX (w:World):(zeroValue 3).run Tryz.prog w = .ok (.int .i64 0) w:=by kernel_rfl
theorem zBe (w:World):(zeroValue 4).run Tryz.prog w = .ok (.bool false) w:=by kernel_rfl
def lit7 (s:ByteArray):Lit := .string s.data.toList
theorem zmE {s t:ByteArray}(h:lit7 s=lit7 t):s=t:=by
 unfold lit7 at h
 injection h with h
 exact ByteArray.ext (Array.toList_inj.1 h)
theorem zmF (s:ByteArray):WideAt.IsKeyLit (lit7 s):=trivial
theorem zlH {s:ByteArray}(h:s.size≤maxLen):keyOf Tryz.prog 9 (.string s)=some (lit7 s):=WideMaps.keyOf_string_mk Tryz.underlying9 h
structure zHZ (w:World)(b n:Nat)(f:ByteArray→Bool)(D:DataW Unit):Prop where
 owns:w.ownsMap Tryz.prog 9 (plainElem Tryz.prog 4) b n D
 at_:∀ s,D.atKey (lit7 s) (.lit (.bool false)) = .lit (.bool (f s))
def Marks (w:World)(b n:Nat)(f:ByteArray→Bool):Prop:=∃ D,zHZ w b n f D
theorem Marks.made (w:World):Marks (w.alloc (.map #[] 0)) w.heap.size 0 (fun _=>false):=⟨.map [],⟨World.ownsMap_made w _ _ _,fun s=>rfl⟩⟩
theorem Marks.kept {w w':World}{b n:Nat}{f:ByteArray→Bool}{row:Option Nat}(h:Marks w b n f)(hg:w.grownBy w' row)(hne:some b≠row):Marks w' b n f:=by
 obtain⟨D,h1,h2⟩:=h;exact⟨D,h1.kept hg hne,h2⟩
theorem zIa:Tryz.prog.underlying 4=some .bool:=Tryz.underlying4
theorem zro {v:Value}{x:DataW Unit}{ps:List MemPlace}(h:plainElem Tryz.prog 4 v=some (x,ps)):∃ c,v = .bool c∧x = .lit (.bool c):=by
 unfold plainElem at h;rw[zIa] at h;cases v <;> simp at h;exact⟨_,rfl,h.1.symm⟩
theorem Marks.look {w:World}{b n:Nat}{f:ByteArray→Bool}(h:Marks w b n f){s:ByteArray}(hs:s.size≤maxLen) :
  (Instr.lookup 92 (.map (some b)) (.string s) false).run Tryz.prog w = .ok (.bool (f s)) w:=by
 obtain⟨D,h1,h2⟩:=h;obtain⟨v,ps,hrun,hv⟩:=h1.lookup zlG Tryz.underlying92 (zBe _) (plainElem_bool Tryz.underlying4 false) (zlH hs);obtain⟨c,rfl,hc⟩:=zro hv;rw[h2 s] at hc;simp only[DataW.lit.injEq,Lit.bool.injEq] at hc;rw[hrun,hc]
theorem Marks.store {w:World}{b n:Nat}{f:ByteArray→Bool}(h:Marks w b n f){s:ByteArray}(hs:s.size≤maxLen)(hn:n<maxLen) :
  ∃ w',(Instr.mapUpdate 92 (.map (some b)) (.string s) (.bool true)).run Tryz.prog w = .ok () w'∧Marks w' b (n+1) (fun t=>if t=s then true else f t)∧w.grownBy w' (some b):=by
 obtain⟨D,h1,h2⟩:=h;obtain⟨w',hrun,hown,hg⟩:=h1.update zlG Tryz.underlying92 hn (zlH hs) (plainElem_bool Tryz.underlying4 true);have hD:IsMap D:=h1.isMap;refine⟨w',hrun,⟨_,hown,fun t => ?_⟩,hg⟩
 by_cases ht:t=s
 ·subst ht
  rw[atKey_put_same hD (zmF t),if_pos rfl]
 ·rw[atKey_put_other (fun e=>ht (zmE e)),h2 t,if_neg ht]
def num7 (L:List ByteArray)(s:ByteArray):Nat:=(L.findIdx? (fun t=>decide (t=s))).getD 0
structure NumD (w:World)(b:Nat)(L:List ByteArray)(D:DataW Unit):Prop where
 owns:w.ownsMap Tryz.prog 9 (plainElem Tryz.prog 3) b L.length D
 at_:∀ s,D.atKey (lit7 s) (.lit (.int .i64 0)) = .lit (.int .i64 (num7 L s:Int))
 has_:∀ s,Maps.has D (lit7 s)=decide (s∈L)
def Nums (w:World)(b:Nat)(L:List ByteArray):Prop:=∃ D,NumD w b L D
theorem Nums.made (w:World):Nums (w.alloc (.map #[] 0)) w.heap.size []:=⟨.map [],⟨World.ownsMap_made w _ _ _,fun s=>rfl,fun s=>rfl⟩⟩
theorem Nums.kept {w w':World}{b:Nat}{L:List ByteArray}{row:Option Nat}(h:Nums w b L)(hg:w.grownBy w' row)(hne:some b≠row):Nums w' b L:=by
 obtain⟨D,h1,h2,h3⟩:=h;exact⟨D,h1.kept hg hne,h2,h3⟩
theorem Nums.lt {w:World}{b:Nat}{L:List ByteArray}(h:Nums w b L):b<w.heap.size:=by
 obtain⟨D,h1,h2,h3⟩:=h;exact h1.lt
theorem Nums.look_ok {w:World}{b:Nat}{L:List ByteArray}(h:Nums w b L){s:ByteArray}(hs:s.size≤maxLen) :
  (Instr.lookup 120 (.map (some b)) (.string s) true).run Tryz.prog w = .ok (.tuple #[.int .i64 (num7 L s:Int),.bool (decide (s∈L))]) w:=by
 obtain⟨D,h1,h2,h3⟩:=h;obtain⟨v,ps,hrun,hv⟩:=h1.look_ok zlG Tryz.underlying120 (zDX _) (plainElem_int Tryz.underlying3 (by decide)) (zlH hs);obtain⟨c,rfl,hc,_⟩:=plainElem_int_inv Tryz.underlying3 hv;rw[h2 s] at hc;simp only[Prod.mk.injEq,DataW.lit.injEq,Lit.int.injEq,true_and,and_true] at hc;rw[hrun,h3 s,hc.1]
theorem zDY {L:List ByteArray}{s:ByteArray}(h:s ∉ L):num7 (L++[s]) s=L.length:=by
 unfold num7;rw[List.findIdx?_append,List.findIdx?_eq_none_iff.2 (fun x hx=>by simp;rintro rfl;exact h hx)];simp
theorem zxW {L:List ByteArray}{s t:ByteArray}(h:t≠s):num7 (L++[s]) t=num7 L t:=by
 unfold num7;rw[List.findIdx?_append];have:[s].findIdx? (fun x=>decide (x=t))=none:=by simp[Ne.symm h]
 rw[this];simp
theorem Nums.store {w:World}{b:Nat}{L:List ByteArray}(h:Nums w b L){s:ByteArray}(hs:s.size≤maxLen)(hn:s ∉ L)(hl:L.length<maxLen) :
  ∃ w',(Instr.mapUpdate 120 (.map (some b)) (.string s) (.int .i64 ((L.length:Nat):Int))).run Tryz.prog w = .ok () w'∧Nums w' b (L++[s])∧w.grownBy w' (some b):=by
 obtain⟨D,h1,h2,h3⟩:=h
 have hw:(Lit.int .i64 ((L.length:Nat):Int)).wf=true:=by
  unfold maxLen at hl;exact WalkArith.wf_i64 (by omega)
 obtain⟨w',hrun,hown,hg⟩:=h1.update zlG Tryz.underlying120 hl (zlH hs) (plainElem_int Tryz.underlying3 hw);have hD:IsMap D:=h1.isMap;refine⟨w',hrun,⟨_,⟨by rw[List.length_append];exact hown,fun t => ?_,fun t => ?_⟩⟩,hg⟩
 ·by_cases ht:t=s
  ·subst ht
   rw[atKey_put_same hD (zmF t),zDY hn]
  ·rw[atKey_put_other (fun e=>ht (zmE e)),h2 t,zxW ht]
 ·by_cases ht:t=s
  ·subst ht
   rw[has_put_same hD (zmF t)];simp
  ·rw[has_put_other (fun e=>ht (zmE e)),h3 t];simp[ht]
def MatA (w:World)(v:Value)(n:Nat)(ln:Nat→Nat)(G:Nat→Nat→ByteArray):Prop :=
 ∃ rs:Nat→Value,RowR w v n rs∧∀ i,i<n→RowR w (rs i) (ln i) (fun j => .string (G i j))
theorem MatA.grown {w w':World}{v:Value}{n:Nat}{ln:Nat→Nat}{G:Nat→Nat→ByteArray}(h:MatA w v n ln G)(hg:w.grownBy w' none):MatA w' v n ln G:=by
 obtain⟨rs,h1,h2⟩:=h;exact⟨rs,h1.grown hg,fun i hi=>(h2 i hi).grown hg⟩
def zfr (k:Int)(n:Nat)(ln:Nat→Nat)(G:Nat→Nat→ByteArray):Prop:=zad k∧(∀ i,i<n→ln i=n)∧∀ i j,i<n→j<n→∃ v,Val k (G i j) v
def zbb (P:Prop)(w:World)(e:Ending)(w':World):Prop:=∃ b:Bool,e = .returned (.bool b)∧(b=true↔P)∧w.grownBy w' none
theorem zbb.yes {P:Prop}{w w':World}(h:P)(hg:w.grownBy w' none):zbb P w (.returned (.bool true)) w':=⟨true,rfl,⟨fun _=>h,fun _=>rfl⟩,hg⟩
theorem zbb.no {P:Prop}{w w':World}(h:¬ P)(hg:w.grownBy w' none):zbb P w (.returned (.bool false)) w':=⟨false,rfl,⟨fun e=>by simp at e,fun e=>absurd e h⟩,hg⟩
theorem zDZ {k:Int}(hk:zad k):Val k (oneT k) (srE k hk).one.1:=⟨zpB hk,(srE k hk).one.2⟩
theorem zEa {k:Int}(hk:¬ zad k)(a:ByteArray):zfU k a:=fun v _=>by
 unfold zad at hk;have h1:¬ k=1:=fun h=>hk (.inl h);have h2:¬ k=2:=fun h=>hk (.inr (.inl h));have h3:¬ k=3:=fun h=>hk (.inr (.inr h));rcases v with(_|_)|x <;> simp[hasE,zeD,h1,h2,h3]
theorem zBf (k:Int):(oneT k).size≤maxLen:=by
 unfold oneT maxLen
 split
 ·decide
 ·split <;> decide
structure ztm (k:Int)(n:Nat)(G:Nat→Nat→ByteArray)(w:World)(b i j:Nat)(wr:World):Prop where
 gr:w.grownBy wr none
 hb:w.heap.size≤b
 map:∃ f,Marks wr b (i * n+j) f∧∀ s,f s=true→∃ v,Val k s v
 ok:∀ x y,(x<i∧y<n)∨(x=i∧y<j)→∃ v,Val k (G x y) v
theorem ztn (k:Int)(n:Nat)(ln:Nat→Nat)(G:Nat→Nat→ByteArray)(av:Value)(w:World)(hn:n≤10000)(ha:MatA w av n ln G)(hs:∀ i j,(G i j).size≤maxLen) :
  Calls Tryz.prog 39 #[.int .i64 k,av] w (zbb (zfr k n ln G) w):=by
 obtain⟨rs,⟨A,c,rfl,ha1,ha2,ha3⟩,hr⟩:=ha;have HA:=zHd ha3;have HR:=zHd hr;have HN:=zHd hn;have HS:=zHd hs
 have hend:∀ w':World,∃ b:Bool,(b=true↔zad k)∧Calls Tryz.prog 71 #[.int .i64 k,.string (oneT k)] w' (zab (.bool b) w'):=fun w'=>by
  by_cases hk:zad k
  ·exact⟨true,by simp[hk],znT (zDZ hk) w'⟩
  ·exact⟨false,by simp[hk],zqq (zEa hk _) (zBf k) w'⟩
 have hone:=fun w'=>zjl k w';have hmm:∀ w:World,(Instr.makeMap 92 none).run Tryz.prog w = .ok (.map (some w.heap.size)) (w.alloc (.map #[] 0)):=fun w=>run_makeMap _ w;have HE:=zHd hend;have HO:=zHd hone;clear ha1 ha2 ha3 hr hn hs hend hone;go_enter Tryz.func39,Tryz.ntmps39;go_wp2
 go_loopw [14] (fun iv wr=>∃ i:Nat,i≤n∧iv = .int .i64 (i:Int)∧w=wr∧∀ x,x<i→ln x=n) (fun iv _=>n - (intOf iv).toNat)
 case atStart=>exact⟨0,Nat.zero_le _,rfl,rfl,fun x hx=>absurd hx (by omega)⟩
 case round =>
  obtain⟨i,hi,rfl,rfl,hl⟩:=hrel
  by_cases hin:i<n
  ·obtain⟨ad,rfl,hb,hc⟩:=HA.out i hin
   obtain⟨Ai,ci,hre,_⟩:=HR.out i hin;rw[hre] at hc;have t1:decide (i<n)=true:=by simpa using hin
   have t1':decide ((i:Int)<(n:Int))=true:=by simpa using hin
   have hit:(i:Int)<(n:Int):=by omega
   have n1:IntKind.i64.wrap ((i:Int)+1)=(i:Int)+1:=by have:=HN.out;rw[IntKind.wrap_i64];omega
   by_cases he:ln i=n
   ·have t2:((ln i:Int) == (n:Int))=true:=by simp[he]
    have t3:((ln i:Int) != (n:Int))=false:=by simp[he]
    have HI:=zHd (zAI hin (zAI hl he));clear hi hl hb hre hin he;go_wp2;refine⟨⟨i+1,HI.out.1,by simp,by first|rfl|trivial,fun x hx => ?_⟩,by have:=HI.out.1;simp[intOf];omega⟩
    by_cases e:x<i
    ·exact HI.out.2.1 x e
    ·rw[show x=i by omega];exact HI.out.2.2
   ·have t2:((ln i:Int) == (n:Int))=false:=by simp;omega
    have t3:((ln i:Int) != (n:Int))=true:=by simp[bne];omega
    have HI:=zHd (zAI hin he);clear hi hl hb hre hin he;go_wp2;go_ret;exact zbb.no (fun h=>HI.out.2 (h.2.1 i HI.out.1)) (World.grownBy.refl _ _)
  ·obtain rfl:i=n:=by omega
   have t1:decide (i<i)=false:=by simp
   have t1':decide ((i:Int)<(i:Int))=false:=by simp
   have HL:=zHd hl;clear hi hin hl;go_wp2;have h0:ztm k i G w w.heap.size 0 0 (w.alloc (.map #[] 0)):=⟨zGA _ _ none,Nat.le_refl _,⟨fun _=>false,by simpa using Marks.made w,fun s h=>by simp at h⟩,fun x y h=>by omega⟩;have H0:=zHd h0;clear h0
   go_loopw [27] (fun iv wr=>∃ x:Nat,x≤i∧iv = .int .i64 (x:Int)∧ztm k i G w w.heap.size x 0 wr) (fun iv _=>i - (intOf iv).toNat)
   case atStart=>exact⟨0,Nat.zero_le _,rfl,H0.out⟩
   case round =>
    obtain⟨x,hx,rfl,hinv⟩:=hrel
    by_cases hxi:x<i
    ·obtain⟨ad,rfl,hb,hc⟩:=HA.out x hxi
     obtain⟨Ai,ci,hre,hi1,hi2,hi3⟩:=HR.out x hxi;rw[hre] at hc;have hc2:wr.cell? (ad.add x)=some (.slice Ai (ln x) ci):=(zaq (ad:=ad.add x) (by rw[zaj];exact hinv.gr.block ad.block hb (by simp))).trans hc;rw[HL.out x hxi] at hc2 hi3;have t1:decide (x<i)=true:=by simpa using hxi
     have t1':decide ((x:Int)<(i:Int))=true:=by simpa using hxi
     have hit:(x:Int)<(i:Int):=by omega
     have n1:IntKind.i64.wrap ((x:Int)+1)=(x:Int)+1:=by have:=HN.out;rw[IntKind.wrap_i64];omega
     have HI:=zHd (zAI hxi hinv);have H3:=zHd hi3;clear hx hb hc hre hi1 hi2 hi3 hxi hinv;go_wp2;generalize wr=wq at *
     go_loopw [33] (fun jv wr=>∃ y:Nat,y≤i∧jv = .int .i64 (y:Int)∧ztm k i G w w.heap.size x y wr) (fun jv _=>i - (intOf jv).toNat)
     case atStart=>exact⟨0,Nat.zero_le _,rfl,HI.out.2⟩
     case round =>
      obtain⟨y,hy,rfl,hinv⟩:=hrel
      by_cases hyi:y<i
      ·obtain⟨ay,rfl,hby,hcy⟩:=H3.out y hyi
       have hcy2:wr.cell? (ay.add y)=some (.string (G x y)):=(zaq (ad:=ay.add y) (by rw[zaj];exact hinv.gr.block ay.block hby (by simp))).trans hcy;obtain⟨f,hm,hf⟩:=hinv.map;have hlook:=hm.look (HS.out x y);have u1:decide (y<i)=true:=by simpa using hyi
       have u1':decide ((y:Int)<(i:Int))=true:=by simpa using hyi
       have hiy:(y:Int)<(i:Int):=by omega
       have n2:IntKind.i64.wrap ((y:Int)+1)=(y:Int)+1:=by have:=HN.out;rw[IntKind.wrap_i64];omega
       have hnn:x * i+y<maxLen:=by
        have h1:=HI.out.1;have h2:=HN.out;have h3:x * i≤10000 * 10000:=Nat.mul_le_mul (by omega) h2;unfold maxLen
        omega
       have HV:=zHd (zAI hyi hinv);have HM:=zHd (zAI hm (zAI hf hnn));clear hy hyi hinv hby hcy hm hf hnn;cases hfy:f (G x y)
       ·rw[hfy] at hlook
        rcases zgi k (G x y) with⟨v,hv⟩|hnv
        ·have hcall:=fun w'=>znT hv w'
         have HC:=zHd hcall;have HVV:=zHd hv;clear hcall hv;go_wp2_with fail;refine(HC.out _).mono ?_;rintro e w5 ⟨rfl,hg5⟩;obtain⟨hm,hf,hnn⟩:=HM.out;obtain⟨w6,hst,hm6,hg6⟩:=(hm.kept hg5 (by simp)).store (HS.out x y) hnn;have H6:=zHd (zAI hm6 (zAI hg5 hg6));have HF:=zHd hf;clear hm hf hnn hm6 hg5 hg6;go_wp2;obtain⟨hm6,hg5,hg6⟩:=H6.out;refine⟨⟨y+1,HV.out.1,by simp,zai (zaa HV.out.2.gr hg5) hg6 (Nat.le_refl _),Nat.le_refl _,⟨_,hm6,fun s hs => ?_⟩,fun a b hab => ?_⟩,by have:=HV.out.1;simp[intOf];omega⟩
         ·by_cases e:s=G x y
          ·exact⟨_,e ▸ HVV.out⟩
          ·simp[e] at hs;exact HF.out s hs
         ·by_cases e:a=x∧b=y
          ·rw[e.1,e.2];exact⟨_,HVV.out⟩
          ·exact HV.out.2.ok a b (by omega)
        ·have hcall:=fun w'=>zqq hnv (HS.out x y) w'
         have HC:=zHd hcall;have HVV:=zHd hnv;clear hcall hnv;go_wp2_with fail;refine(HC.out _).mono ?_;rintro e w5 ⟨rfl,hg5⟩;have HG:=zHd hg5;clear hg5;go_wp2;go_ret;refine zbb.no (fun h => ?_) (zaa HV.out.2.gr HG.out);obtain⟨v,hv⟩:=h.2.2 x y HI.out.1 HV.out.1;have:=HVV.out v hv.e;rw[hv.has] at this;cases this
       ·rw[hfy] at hlook
        obtain⟨hm,hf,hnn⟩:=HM.out;obtain⟨w6,hst,hm6,hg6⟩:=hm.store (HS.out x y) hnn;have H6:=zHd (zAI hm6 (zAI hg6 (hf _ hfy)));have HF:=zHd hf;clear hm hf hnn hm6 hg6;go_wp2;obtain⟨hm6,hg6,hvv⟩:=H6.out;refine⟨⟨y+1,HV.out.1,by simp,zai HV.out.2.gr hg6 (Nat.le_refl _),Nat.le_refl _,⟨_,hm6,fun s hs => ?_⟩,fun a b hab => ?_⟩,by have:=HV.out.1;simp[intOf];omega⟩
        ·by_cases e:s=G x y
         ·rw[e];exact hvv
         ·simp[e] at hs;exact HF.out s hs
        ·by_cases e:a=x∧b=y
         ·rw[e.1,e.2];exact hvv
         ·exact HV.out.2.ok a b (by omega)
      ·obtain rfl:y=i:=by omega
       have u1:decide (y<y)=false:=by simp
       have u1':decide ((y:Int)<(y:Int))=false:=by simp
       have HV:=zHd hinv;clear hy hyi hinv;go_wp2;have hx1:=HI.out.1;refine⟨⟨x+1,hx1,by simp,HV.out.gr,Nat.le_refl _,?_,fun a b hab=>HV.out.ok a b (by omega)⟩,by simp[intOf];omega⟩;obtain⟨f,hm,hf⟩:=HV.out.map;exact⟨f,by rw[Nat.add_mul,Nat.one_mul,Nat.add_zero];exact hm,hf⟩
    ·obtain rfl:x=i:=by omega
     have t1:decide (x<x)=false:=by simp
     have t1':decide ((x:Int)<(x:Int))=false:=by simp
     have HI:=zHd hinv;clear hx hxi hinv;go_wp2_with fail;refine(HO.out _).mono ?_;rintro e w5 ⟨rfl,hg5⟩;obtain⟨b,hbk,hcall⟩:=HE.out w5;have HC:=zHd hcall;have HB:=zHd hbk;have HG:=zHd hg5;clear hcall hbk hg5;go_wp2_with fail;refine HC.out.mono ?_;rintro e w6 ⟨rfl,hg6⟩;have HG6:=zHd hg6;clear hg6;go_wp2;go_ret;refine⟨b,rfl,HB.out.trans ⟨fun h=>⟨h,HL.out,fun a b ha hb=>HI.out.ok a b (.inl ⟨ha,hb⟩)⟩,fun h=>h.1⟩,zaa (zaa HI.out.gr HG.out) HG6.out⟩
open Go.RowKit
section
variable {k:Int}
def mrgP (hk:zad k)(f:Nat→El k)(κ:Nat→Nat)(t d:Nat):El k:=sm (srE k hk) t (fun j=>if κ j=d then f j else (srE k hk).zero)
theorem zwr (hk:zad k)(f:Nat→El k)(κ:Nat→Nat)(t:Nat):mrgP hk f κ (t+1) (κ t)=(srE k hk).add (mrgP hk f κ t (κ t)) (f t):=by
 show(srE k hk).add (mrgP hk f κ t (κ t)) (if κ t=κ t then f t else (srE k hk).zero)=_;rw[if_pos rfl]
theorem zmG (hk:zad k)(f:Nat→El k)(κ:Nat→Nat)(t d:Nat)(h:d≠κ t):mrgP hk f κ (t+1) d=mrgP hk f κ t d:=by
 show(srE k hk).add (mrgP hk f κ t d) (if κ t=d then f t else (srE k hk).zero)=_;rw[if_neg (Ne.symm h),(srE k hk).add_zero]
def mrgL (hk:zad k)(f:Nat→El k)(κ:Nat→Nat)(K t:Nat):List Value:=(List.range K).map (fun d => .string (tx (mrgP hk f κ t d)))
theorem zdZ (hk:zad k)(f:Nat→El k)(κ:Nat→Nat){K d:Nat}(t:Nat)(h:d<K):(mrgL hk f κ K t)[d]? = some (.string (tx (mrgP hk f κ t d))):=by
 unfold mrgL;rw[List.getElem?_map,List.getElem?_range h]
 rfl
theorem zqw (hk:zad k)(f:Nat→El k)(κ:Nat→Nat)(K:Nat):mrgL hk f κ K 0=List.replicate K (.string (zaf k)):=by
 unfold mrgL
 apply List.ext_getElem?
 intro d;rw[List.getElem?_map,List.getElem?_replicate]
 by_cases h:d<K
 ·rw[List.getElem?_range h,if_pos h,← zeY hk];rfl
 ·rw[if_neg h,List.getElem?_eq_none (by simpa using h)];rfl
theorem zEb (hk:zad k)(f:Nat→El k)(κ:Nat→Nat)(K t:Nat)(h:κ t<K):(mrgL hk f κ K t).set (κ t) (.string (tx (mrgP hk f κ (t+1) (κ t))))=mrgL hk f κ K (t+1):=by
 apply List.ext_getElem?
 intro d;rw[List.getElem?_set]
 by_cases hd:d<K
 ·rw[zdZ hk f κ (t+1) hd]
  by_cases e:κ t=d
  ·subst e
   rw[if_pos rfl,if_pos (by unfold mrgL;simpa using hd)]
  ·rw[if_neg e,zdZ hk f κ t hd,zmG hk f κ t d (Ne.symm e)]
 ·rw[List.getElem?_eq_none (l:=mrgL hk f κ K (t+1)) (by unfold mrgL;simpa using hd)]
  rw[if_neg (by omega),List.getElem?_eq_none (by unfold mrgL;simpa using hd)]
structure zhx (hk:zad k)(f:Nat→El k)(κ:Nat→Nat)(n K g:Nat)(w:World)(t:Nat)(wr:World):Prop where
 le:t≤n
 gr:w.grownBy wr none
 hg:w.heap.size≤g
 row:wr.heap[g]? = some (.cells (mrgL hk f κ K t).toArray 9 (0,0))
 fit:∀ s,s<t→FitE (mrgP hk f κ (s+1) (κ s))
 now:∀ d,FitE (mrgP hk f κ t d)
theorem zhx.next {hk:zad k}{f:Nat→El k}{κ:Nat→Nat}{n K g:Nat}{w wr w5:World}{t:Nat}(h:zhx hk f κ n K g w t wr)(ht:t<n)(hκ:κ t<K)(hg:wr.grownBy w5 none)(hr:w5.heap[g]? = some (.cells (mrgL hk f κ K t).toArray 9 (0,0)))
  (hp:FitE (mrgP hk f κ (t+1) (κ t))):zhx hk f κ n K g w (t+1) (w5.setCell ⟨g,κ t,none⟩ (.string (tx (mrgP hk f κ (t+1) (κ t))))):=by
 refine⟨ht,zai (zaa h.gr hg) (zac _ _ _) h.hg,h.hg,?_,fun s hs => ?_,fun d => ?_⟩
 ·rw[heap_setCell_same w5 g (κ t) _ _ _ hr]
  congr 2
  rw[List.setIfInBounds_toArray,zEb hk f κ K t hκ]
 ·by_cases e:s<t
  ·exact h.fit s e
  ·obtain rfl:s=t:=by omega
   exact hp
 ·by_cases e:d=κ t
  ·subst e;exact hp
  ·rw[zmG hk f κ t d e];exact h.now d
theorem zbj {w:World}{b g o j:Nat}{u v:Value}(hb:b≠g)(h:w.cell? ⟨b,j,none⟩=some v):(w.setCell ⟨g,o,none⟩ u).cell? ⟨b,j,none⟩=some v:=((zac w ⟨g,o,none⟩ u).cell h (by simpa using hb))
theorem zxX (hk:zad k)(f:Nat→El k)(κ:Nat→Nat)(n K:Nat)(fv cv:Value)(w:World)(hn:n≤10000)(hK:K≤10000)(hκ:∀ j,j<n→κ j<K)(hf:RowR w fv n (fun j=>Value.string (tx (f j))))(hff:∀ j,j<n→FitE (f j))
  (hc:RowR w cv n (fun j => .int .i64 ((κ j:Nat):Int))) :
  Calls Tryz.prog 80 #[calV k,fv,cv,.int .i64 (K:Int)] w (zbo (∀ s,s<n→FitE (mrgP hk f κ (s+1) (κ s))) (fun v w'=>∃ g,v = .slice (some ⟨g,0,none⟩) K K∧w.heap.size≤g∧zam w' g 0 K (fun d => .string (tx (mrgP hk f κ n d)))) w):=by
 obtain⟨Af,cf,rfl,hf1,hf2,hf3⟩:=hf;obtain⟨Ac,cc,rfl,hc1,hc2,hc3⟩:=hc;have hz:=fun w'=>zeZ k K w' hK;have HZ:=zHd hz;have HF:=zHd hf3;have HC:=zHd hc3;have HFF:=zHd hff;have HN:=zHd (zAI hn (zAI hK hκ));clear hz hf1 hf2 hf3 hc1 hc2 hc3 hff hn hK hκ;unfold calV at *;go_enter Tryz.func80,Tryz.ntmps80;go_wp2_with fail;refine(HZ.out _).mono ?_;rintro e w1 ⟨g,rfl,hgW,hrow,hg1⟩;have x0:=hg1.cell (zak w #[.int .i64 k,.string (zaf k),.string (oneT k)] 64 (j:=0) rfl) (by simp);have x1:=hg1.cell (zak w #[.int .i64 k,.string (zaf k),.string (oneT k)] 64 (j:=1) rfl) (by simp);have x2:=hg1.cell (zak w #[.int .i64 k,.string (zaf k),.string (oneT k)] 64 (j:=2) rfl) (by simp);have hW:w.grownBy w1 none:=zaa (zGA _ _ none) hg1;have hgb:w.heap.size+1≤g:=by simpa using hgW
 have hinv:zhx hk f κ n K g w 0 w1:=⟨Nat.zero_le _,hW,by omega,by rw[zqw];exact hrow,fun s hs=>absurd hs (by omega),fun d=>zcJ hk⟩;have HI:=zHd hinv;have HX:=zHd (zAI x0 (zAI x1 (zAI x2 hgb)));clear hgW hrow hg1 x0 x1 x2 hW hinv hgb;go_wp2
 go_loopw [17] (fun iv wr=>∃ t:Nat,iv = .int .i64 (t:Int)∧zhx hk f κ n K g w t wr∧wr.cell? ⟨w.heap.size,0,none⟩=some (.int .i64 k)∧wr.cell? ⟨w.heap.size,1,none⟩=some (.string (zaf k))∧wr.cell? ⟨w.heap.size,2,none⟩=some (.string (oneT k))) (fun iv _=>n - (intOf iv).toNat)
 case atStart=>exact⟨0,rfl,HI.out,HX.out.1,HX.out.2.1,HX.out.2.2.1⟩
 case round =>
  obtain⟨t,rfl,hinv,y0,y1,y2⟩:=hrel
  by_cases ht:t<n
  ·obtain⟨adf,rfl,hbf,hcf⟩:=HF.out t ht
   obtain⟨adc,rfl,hbc,hcc⟩:=HC.out t ht;have cf1:wr.drew.cell? (adf.add t)=some (.string (tx (f t))):=(zaq (w:=w) (w':=wr) (ad:=adf.add t) (by rw[zaj];exact hinv.gr.block adf.block hbf (by simp))).trans hcf;have cc1:wr.cell? (adc.add t)=some (.int .i64 ((κ t:Nat):Int)):=(zaq (ad:=adc.add t) (by rw[zaj];exact hinv.gr.block adc.block hbc (by simp))).trans hcc;have hκt:=HN.out.2.2 t ht
   have r1:wr.drew.cell? ⟨g,κ t,none⟩=some (.string (tx (mrgP hk f κ t (κ t)))):=by
    show wr.cell? _=_;rw[cell_of_row wr g (κ t) _ _ (0,0) hinv.row,List.getElem?_toArray,zdZ hk f κ t hκt]
   have hcall:=fun w'=>zhY hk (hinv.now (κ t)) (HFF.out t ht) w';rw[← zwr] at hcall;have t1:decide (t<n)=true:=by simpa using ht
   have t1':decide ((t:Int)<(n:Int))=true:=by simpa using ht
   have hit:(t:Int)<(n:Int):=by omega
   have i1:((κ t:Nat):Int)<(K:Int):=by omega
   have i2:(0:Int)≤((κ t:Nat):Int):=by omega
   have n1:IntKind.i64.wrap ((t:Int)+1)=(t:Int)+1:=by have:=HN.out.1;rw[IntKind.wrap_i64];omega
   have hne1:¬ w.heap.size=g:=by have:=HX.out.2.2.2;omega
   have hne2:¬ g=w.heap.size:=by have:=HX.out.2.2.2;omega
   have HI2:=zHd hinv;have HCALL:=zHd hcall;have HT:=zHd (zAI ht hκt);clear hinv hcall ht hκt hbf hcf hbc hcc;unfold calV at HCALL;go_upto_region 5 with(fail)
   have d0:wr.drew.cell? ⟨w.heap.size,0,none⟩=some (.int .i64 k):=y0;have d1:wr.drew.cell? ⟨w.heap.size,1,none⟩=some (.string (zaf k)):=y1;have d2:wr.drew.cell? ⟨w.heap.size,2,none⟩=some (.string (oneT k)):=y2;clear y0 y1 y2
   go_region_with (go_at_call 87;refine(HCALL.out _).mono ?_;rintro e w5 (⟨hp,rfl,hg5⟩|⟨hn,rfl,hg5⟩);rotate_left 1;(go_wp2;exact⟨rfl,.inr ⟨fun h=>hn (h t HT.out.1),rfl,zaa (zaa HI2.out.gr (zae wr none)) hg5⟩⟩);have s0:=hg5.cell d0 (by simp);have s1:=hg5.cell d1 (by simp);have s2:=hg5.cell d2 (by simp);have hr5:=(hg5.block g (Array.getElem?_eq_some_iff.1 HI2.out.row).1 (by simp)).trans (show wr.drew.heap[g]? = _ from HI2.out.row);have z0:=frozen_of_row w5 g (κ t) _ _ hr5;have q0:=cell_of_row w5 g (κ t) _ _ (0,0) hr5;rw[List.getElem?_toArray,zdZ hk f κ t HT.out.2] at q0;have H5:=zHd (zAI hp (zAI hg5 hr5));clear hp hg5 hr5)
   all_goals
    go_wp2;obtain⟨hp,hg5,hr5⟩:=H5.out;exact⟨⟨t+1,by simp,HI2.out.next HT.out.1 HT.out.2 (zaa (zae wr none) hg5) hr5 hp,zbj hne1 s0,zbj hne1 s1,zbj hne1 s2⟩,by have:=HT.out.1;simp[intOf];omega⟩
  ·have hte:t=n:=by have:=hinv.le;omega
   subst hte;have t1:decide (t<t)=false:=by simp
   have t1':decide ((t:Int)<(t:Int))=false:=by simp
   have HI2:=zHd hinv;clear hinv ht;go_wp2;go_ret;refine .inl ⟨HI2.out.fit,_,rfl,⟨g,rfl,HI2.out.hg,(Array.getElem?_eq_some_iff.1 HI2.out.row).1,fun d hd => ?_⟩,HI2.out.gr⟩;rw[Nat.zero_add,cell_of_row wr g d _ _ (0,0) HI2.out.row,List.getElem?_toArray,zdZ hk f κ t hd]
end
open Go.RowKit
def Clr (K B x:Rat):Prop:=isI (x * K)∧ab (x * K)≤B
theorem Clr.mono {K B C x:Rat}(h:Clr K B x)(hc:B≤C):Clr K C x:=⟨h.1,Rat.le_trans h.2 hc⟩
theorem zjq {K B:Rat}(h:0≤B):Clr K B 0:=by
 have e:(0:Rat) * K=0:=by grind
 refine⟨by rw[e];exact⟨0,rfl⟩,?_⟩;rw[e,zeE Rat.le_refl];exact h
theorem Clr.add {K B C x y:Rat}(hx:Clr K B x)(hy:Clr K C y):Clr K (B+C) (x+y):=by
 have e:(x+y) * K=x * K+y * K:=by grind
 refine⟨by rw[e];exact ziy hx.1 hy.1,?_⟩;rw[e];have h1:=zAm (x * K) (y * K);have h2:=hx.2;have h3:=hy.2
 grind
theorem zgp {x y B C:Rat}(hx:ab x≤B)(hy:ab y≤C):ab (x * y)≤B * C:=by
 rw[ziz];have h1:=Rat.mul_le_mul_of_nonneg_left hy (zbR x);have h2:=Rat.mul_le_mul_of_nonneg_right hx (Rat.le_trans (zbR y) hy);exact Rat.le_trans h1 h2
theorem Clr.mul {K L B C x y:Rat}(hx:Clr K B x)(hy:Clr L C y):Clr (K * L) (B * C) (x * y):=by
 have e:x * y * (K * L)=x * K * (y * L):=by grind
 exact⟨by rw[e];exact zbY hx.1 hy.1,by rw[e];exact zgp hx.2 hy.2⟩
theorem zpE {L C:Rat}(hL:isI L)(hc:ab L≤C):Clr L C 1:=by
 have e:(1:Rat) * L=L:=by grind
 exact⟨by rw[e];exact hL,by rw[e];exact hc⟩
theorem Clr.up {K L B C x:Rat}(hx:Clr K B x)(hL:isI L)(hc:ab L≤C):Clr (K * L) (B * C) x:=by
 have h:=hx.mul (zpE hL hc);have e:x * 1=x:=by grind
 rwa [e] at h
theorem Clr.wide {K x:Rat}{w:Nat}(hx:Clr K (tenP w) x)(hK:isI K)(h0:K≠0)(hk:ab K≤tenP w):zaA (w+1) (.inr x):=by
 have h:=zma (y:=x) (N:=x * K) (M:=K) hx.1 hK h0 rfl (P:=10 ^ w) hx.2 hk;have hlt:10 ^ w<10 ^ (w+1):=Nat.pow_lt_pow_right (by omega) (by omega);exact⟨zek _ _ (by omega) (Nat.lt_of_le_of_lt h.1 hlt),zek _ _ (by omega) (Nat.lt_of_le_of_lt h.2 hlt)⟩
def ClE (K B:Rat)(v:El 2):Prop:=Fin2 v→Clr K B (val v)
theorem ClE.mono {K B C:Rat}{v:El 2}(h:ClE K B v)(hc:B≤C):ClE K C v:=fun hf=>(h hf).mono hc
theorem zmH {K B:Rat}(h:0≤B):ClE K B S2.zero:=fun _=>by rw[zdb];exact zjq h
theorem ClE.add {K B C:Rat}{u v:El 2}(hu:ClE K B u)(hv:ClE K C v):ClE K (B+C) (S2.add u v):=fun hf=>by
 obtain⟨h1,h2⟩:=zgT.1 hf;rw[zgU h1 h2];exact(hu h1).add (hv h2)
theorem ClE.mul {K L B C:Rat}{u v:El 2}(hB:0≤B)(hC:0≤C)(hu:ClE K B u)(hv:ClE L C v):ClE (K * L) (B * C) (S2.mul u v):=fun hf=>by
 by_cases h1:u=S2.zero
 ·rw[h1,S2.zero_mul,zdb];exact zjq (Rat.mul_nonneg hB hC)
 ·by_cases h2:v=S2.zero
  ·rw[h2,S2.mul_zero,zdb];exact zjq (Rat.mul_nonneg hB hC)
  ·have g1:=zfV hf h2
   have g2:=zep hf h1;rw[zgV g1 g2];exact(hu g1).mul (hv g2)
theorem ClE.up {K L B C:Rat}{v:El 2}(h:ClE K B v)(hL:isI L)(hc:ab L≤C):ClE (K * L) (B * C) v:=fun hf=>(h hf).up hL hc
theorem ClE.sm {K B:Rat}{f:Nat→El 2}(hB:0≤B):∀ {n:Nat},(∀ m,m<n→ClE K B (f m))→ClE K ((n:Rat) * B) (sm S2 n f)
 | 0,_=>zmH (by
  have e:((0:Nat):Rat) * B=0:=by
   have:((0:Nat):Rat)=0:=rfl;rw[this];grind
  rw[e];exact Rat.le_refl)
 | n+1,h=>by
  have ih:=ClE.sm hB (n:=n) (fun m hm=>h m (by omega));have h1:=ih.add (h n (by omega))
  have e:((n+1:Nat):Rat) * B=(n:Rat) * B+B:=by
   have:((n+1:Nat):Rat)=(n:Rat)+1:=by
    show(((n+1:Nat):Int):Rat)=((n:Int):Rat)+((1:Int):Rat);rw[← Rat.intCast_add];rfl
   rw[this];grind
  rw[e];exact h1
theorem ClE.wide {K:Rat}{v:El 2}{w:Nat}(h:ClE K (tenP w) v)(hK:isI K)(h0:K≠0)(hk:ab K≤tenP w):zaA (w+1) v.1:=by
 by_cases hf:Fin2 v
 ·rw[zcE hf];exact(h hf).wide hK h0 hk
 ·rw[zci.1 hf];trivial
theorem dl_mem:∀ {l:List Rat} {x:Rat},x∈l→(∀ y∈l,0≤y)→Clr (dl l) (bl l) x
 | l,x,h,h0=>by
  have h1:isI (x * dl l):=by
   have:∀ (l:List Rat),x∈l→isI (x * dl l):=fun l=>by
    induction l with
    | nil=>intro h;cases h
    | cons y l ih =>
     intro h;show isI (x * ((y.den:Rat) * dl l))
     by_cases e:x=y
     ·subst e
      have e2:x * ((x.den:Rat) * dl l)=(x.num:Rat) * dl l:=by rw[zgF x];grind
      rw[e2];exact zbY ⟨x.num,rfl⟩ (zhr l)
     ·have hm:x∈l:=by
       rcases List.mem_cons.1 h with h|h
       ·exact absurd h e
       ·exact h
      have e2:x * ((y.den:Rat) * dl l)=(y.den:Rat) * (x * dl l):=by grind
      rw[e2];exact zbY (zlB y) (ih hm)
   exact this l h
  have hd:=zez l;have hx:=h0 x h
  have hs:x≤sl l:=by
   have:∀ (l:List Rat),(∀ y∈l,0≤y)→x∈l→x≤sl l:=fun l=>by
    induction l with
    | nil=>intro _ h;cases h
    | cons y l ih =>
     intro h0 h;have hy:=h0 y (List.mem_cons_self ..);have hl:=zcT (l:=l) (fun z hz=>h0 z (List.mem_cons_of_mem _ hz));show x≤y+sl l;rcases List.mem_cons.1 h with h|h
     ·rw[h];grind
     ·have:=ih (fun z hz=>h0 z (List.mem_cons_of_mem _ hz)) h
      grind
   exact this l h0 h
  refine⟨h1,?_⟩;rw[zeE (Rat.mul_nonneg hx (by grind))];have h2:=zjf h0;have h3:=Rat.mul_le_mul_of_nonneg_left hs (show 0≤dl l by grind)
  grind
theorem zIb (l:List Rat)(h0:∀ y∈l,0≤y):ab (dl l)≤bl l:=by
 have hd:=zez l;rw[zeE (by grind)];have h2:=zjf h0;have h3:=Rat.mul_nonneg (show 0≤dl l by grind) (zcT h0)
 grind
theorem zbl {m n:Nat}(h:m≤n):tenP m≤tenP n:=by
 have h1:=Nat.pow_le_pow_right (show 0<10 by omega) h;have h4:((10 ^ m:Nat):Int)≤((10 ^ n:Nat):Int):=Int.ofNat_le.2 h1;exact Rat.intCast_le_intCast.2 h4
open Go.RowKit
theorem zEc {A:Nat→Nat→El 2}{M:Nat→List (Nat × El 2)}{n s:Nat}
  (hA:∀ x y,x<n→y<n→A x y=cs S2 (M x) y) (hM:∀ x,x<n→∀ e∈M x,Sh4 e.2.1) (hc:ns n (fun x=>(M x).length)≤s) :
  ∃ K:Rat,isI K∧K≠0∧ab K≤tenP (4 * s+n)∧∀ i j,i<n→j<n→ClE K (tenP (4 * s+n+1)) (stM S2 A n i j):=by
 have hpos:∀ x,x<n→∀ y∈(fins (M x)).map (·.2),0≤y:=fun x hx y hy=>by
  obtain⟨e,he,rfl⟩:=List.mem_map.1 hy;exact(zcn (hM x hx) e he).1
 have hten:∀ x,x<n→bl ((fins (M x)).map (·.2))≤tenP (4 * (M x).length):=fun x hx=>by
  have:=zrH (w:=4) (l:=(fins (M x)).map (·.2)) (fun y hy=>by
   obtain⟨e,he,rfl⟩:=List.mem_map.1 hy;exact zcn (hM x hx) e he)
  rw[List.length_map] at this;exact Rat.le_trans this (zbl (by have:=zhT (M x);omega))
 have hval:∀ x m,x<n→m<n→Fin2 (A x m)→val (A x m)=sl (((fins (M x)).filter (fun e=>e.1 == m)).map (·.2)):=fun x m hx hm hf=>by
  rw[hA x m hx hm] at hf ⊢;exact zks m hf
 have hsum:∀ x,x<n→rs n (fun m=>val (A x m))≤sl ((fins (M x)).map (·.2)):=fun x hx=>by
  refine Rat.le_trans (zhO (fun m hm => ?_)) (zjh n (fun e he=>(zcn (hM x hx) e he).1))
  by_cases hf:Fin2 (A x m)
  ·rw[hval x m hx hm hf];exact Rat.le_refl
  ·have:val (A x m)=0:=by unfold val;rw[zci.1 hf]
   rw[this];refine zcT (fun y hy => ?_);obtain⟨e,he,rfl⟩:=List.mem_map.1 hy;exact(zcn (hM x hx) e (List.mem_filter.1 he).1).1
 have hQ:∀ x,x<n→2 * (dl ((fins (M x)).map (·.2)) * (1+rs n (fun m=>val (A x m))))≤tenP (4 * (M x).length+1):=fun x hx=>by
  have h1:=zjf (hpos x hx);have h2:=hten x hx;have h3:=hsum x hx;have h4:=zez ((fins (M x)).map (·.2));have h5:=Rat.mul_le_mul_of_nonneg_left h3 (show 0≤dl ((fins (M x)).map (·.2)) by grind);have h6:=zbx (4 * (M x).length);rw[zbV];have h7:tenP 1=10:=by unfold tenP;decide +kernel
  rw[h7]
  grind
 obtain⟨K,hK,hK0,hKb,hall⟩:=zHk (A:=A) (n:=n) (d:=fun x=>dl ((fins (M x)).map (·.2))) (Q:=fun x=>tenP (4 * (M x).length+1)) (fun x _=>zez _) (fun x _=>zhr _) (fun x y hx hy hf=>by
  rw[hval x y hx hy hf];exact zjg (fun z=>z == y) (fins (M x))) hQ
 have hP:rp n (fun x=>tenP (4 * (M x).length+1))≤tenP (4 * s+n):=by
  have h1:=zsM (f:=fun x=>tenP (4 * (M x).length+1)) (g:=fun x=>4 * (M x).length+1) (n:=n) (fun m _=>⟨zbx _,Rat.le_refl⟩);rw[zsN (fun x=>(M x).length) n] at h1;exact Rat.le_trans h1 (zbl (by omega))
 refine⟨K,hK,hK0,Rat.le_trans hKb hP,fun i j hi hj => ?_⟩
 have h1:ClE K (tenP (4 * s+n)) (idm S2 i j):=by
  unfold idm
  split
  ·intro _
   exact zpE hK (Rat.le_trans hKb hP)
  ·exact zmH (zbx _)
 have h2:ClE K (tenP (4 * s+n)) (el S2 A n i j):=fun hf=>by
  obtain⟨g1,g2⟩:=hall i j hi hj hf;exact⟨g1,Rat.le_trans g2 hP⟩
 refine(h1.add h2).mono ?_;have h7:tenP 1=10:=by unfold tenP;decide +kernel
 have h6:=zbx (4 * s+n);rw[zbV (4 * s+n) 1,h7]
 grind
variable {α:Type}
structure Szs (S:Sr α)(Fit:α→Prop) where
 I:Type
 op:I→I→I
 assoc:∀ a b c,op (op a b) c=op a (op b c)
 comm:∀ a b,op a b=op b a
 ok:I→Nat→Prop
 C:I→Nat→α→Prop
 okop:∀ {K L v w},ok K v→ok L w→ok (op K L) (v+w)
 okmono:∀ {K v w},ok K v→v≤w→ok K w
 mono:∀ {K v w a},C K v a→v≤w→C K w a
 zero:∀ {K w},ok K w→C K w S.zero
 mul:∀ {K L v w a b},C K v a→C L w b→C (op K L) (v+w+1) (S.mul a b)
 add:∀ {K w a b},C K w a→C K w b→C K (w+1) (S.add a b)
 sums:∀ {K w} {f:Nat→α} {n:Nat},ok K w→n≤9→(∀ m,m<n→C K w (f m))→C K (w+1) (sm S n f)
 up:∀ {K L w l a},C K w a→ok L l→C (op K L) (w+l) a
 fit:∀ {K w a},C K w a→w<400→Fit a
instance {S:Sr α} {Fit:α→Prop} (Z:Szs S Fit):Std.Associative Z.op:=⟨Z.assoc⟩
instance {S:Sr α} {Fit:α→Prop} (Z:Szs S Fit):Std.Commutative Z.op:=⟨Z.comm⟩
theorem Szs.cast {S:Sr α}{Fit:α→Prop}(Z:Szs S Fit){K L:Z.I}{w:Nat}{v:α}(h:Z.C K w v)(e:K=L):Z.C L w v:=e ▸ h
structure Base {S:Sr α}{Fit:α→Prop}(Z:Szs S Fit)(A b:Nat→Nat→α)(n m:Nat)(M:Nat→Z.I)(D Kb:Z.I)(wb:Nat):Prop where
 n5:n≤5
 okM:∀ t,t≤n→Z.ok (M t) 46
 st:∀ t,t≤n→∀ i j,i<t→j<t→Z.C (M t) 46 (stM S A t i j)
 okD:Z.ok D 41
 a:∀ x y,x<n→y<n→Z.C D 41 (A x y)
 okb:Z.ok Kb wb
 b:∀ x J,x<n→J<m→Z.C Kb wb (b x J)
 wb:wb≤201
theorem zHx (S:Sr α)(A b:Nat→Nat→α){n t x:Nat}(ht:t≤n)(hx:x<t)(j:Nat):el S (augM A b n) t x j=sm S t (fun l=>S.mul (stM S A t x l) (augM A b n l j)):=by
 rw[zdR,← zhf S (fun l=>augM A b n l j) hx,← zde];refine zal S (fun l hl => ?_);rw[zoD S A b ht (by omega)];unfold stM;rw[S.add_mul]
section
variable {S:Sr α} {Fit:α→Prop} {Z:Szs S Fit} {A b:Nat→Nat→α} {n m:Nat} {M:Nat→Z.I} {D Kb:Z.I} {wb:Nat}
structure Col (Z:Szs S Fit)(A b:Nat→Nat→α)(n j:Nat)(K:Z.I)(w:Nat):Prop where
 ok:Z.ok K w
 c:∀ x,x<n→Z.C K w (augM A b n x j)
theorem Base.colA (B:Base Z A b n m M D Kb wb){j:Nat}(h:j<n):Col Z A b n j D 41:=⟨B.okD,fun x hx=>by unfold augM;rw[if_pos h];exact B.a x j hx h⟩
theorem Base.colB (B:Base Z A b n m M D Kb wb){J:Nat}(h:J<m):Col Z A b n (n+J) Kb wb:=⟨B.okb,fun x hx=>by unfold augM;rw[if_neg (by omega),Nat.add_sub_cancel_left];exact B.b x J hx h⟩
theorem Base.col (B:Base Z A b n m M D Kb wb){j:Nat}(hj:j<n+m):∃ K w,w≤201∧Col Z A b n j K w:=by
 by_cases h:j<n
 ·exact⟨D,41,by omega,B.colA h⟩
 ·obtain⟨J,rfl⟩:∃ J,j=n+J:=⟨j - n,by omega⟩
  exact⟨Kb,wb,B.wb,B.colB (by omega)⟩
theorem Base.low (B:Base Z A b n m M D Kb wb){j:Nat}{K:Z.I}{w:Nat}(hc:Col Z A b n j K w){t:Nat}(ht:t≤n){x:Nat}(hx:x<t):Z.C (Z.op (M t) K) (w+48) (el S (augM A b n) t x j):=by
 rw[zHx S A b ht hx];have:=Z.sums (n:=t) (w:=46+w+1) (K:=Z.op (M t) K) (f:=fun l=>S.mul (stM S A t x l) (augM A b n l j)) (Z.okmono (Z.okop (B.okM t ht) hc.ok) (by omega)) (by have:=B.n5;omega) (fun l hl=>Z.mul (B.st t ht x l hx hl) (hc.c l (by omega)));exact Z.mono this (by omega)
theorem Base.any (B:Base Z A b n m M D Kb wb){j:Nat}{K:Z.I}{w:Nat}(hc:Col Z A b n j K w){t:Nat}(ht:t≤n){x:Nat}(hx:x<n):Z.C (Z.op D (Z.op (M t) K)) (w+92) (el S (augM A b n) t x j):=by
 rw[zbJ];have hok:Z.ok (Z.op D (Z.op (M t) K)) (41+(46+w)):=Z.okop B.okD (Z.okop (B.okM t ht) hc.ok)
 have h1:=Z.sums (n:=t) (w:=41+(w+48)+1) (K:=Z.op D (Z.op (M t) K)) (f:=fun l=>S.mul (augM A b n x l) (el S (augM A b n) t l j)) (Z.okmono hok (by omega)) (by have:=B.n5;omega)
  (fun l hl=>Z.mul (by unfold augM;rw[if_pos (by omega)];exact B.a x l hx (by omega)) (B.low hc ht hl))
 have h2:Z.C (Z.op D (Z.op (M t) K)) (w+91) (augM A b n x j):=by
  have:=Z.up (Z.up (hc.c x hx) (B.okM t ht)) B.okD;exact Z.mono (Z.cast this (by ac_rfl)) (by omega)
 exact Z.add h2 (Z.mono h1 (by omega))
theorem Base.abs (B:Base Z A b n m M D Kb wb):zfz S Fit n m (augM A b n) where
 st t ht:=by
  have e:S.star (el S (augM A b n) t t t)=stM S A (t+1) t t:=by
   unfold stM idm;rw[if_pos rfl,zjU,zoD S A b (by omega) ht,S.mul_comm,S.star_law]
  rw[e];exact Z.fit (B.st (t+1) (by omega) t t (by omega) (by omega)) (by omega)
 row t ht j hj hm:=by
  obtain⟨K,w,hw,hc⟩:=B.col hm;exact Z.fit (B.low hc (t:=t+1) (by omega) (Nat.lt_succ_self t)) (by omega)
 pr t ht i hi hin j hj hm:=by
  obtain⟨K,w,hw,hc⟩:=B.col hm;exact Z.fit (Z.mul (B.any (B.colA ht) (t:=t) (by omega) hin) (B.low hc (t:=t+1) (by omega) (Nat.lt_succ_self t))) (by omega)
 en t ht i hi hin j hj hm:=by
  obtain⟨K,w,hw,hc⟩:=B.col hm;exact Z.fit (B.any hc (t:=t+1) (by omega) hin) (by omega)
 bp t ht l hl J hJ:=by
  have hw:=B.wb;exact Z.fit (Z.mul (B.low (B.colA hl) (t:=t+1) (by omega) (Nat.lt_succ_self t)) (B.low (B.colB hJ) (t:=n) (Nat.le_refl n) hl)) (by omega)
 bs t ht l hl J hJ:=by
  have hw:=B.wb;have hok:Z.ok (Z.op (Z.op (M (t+1)) D) (Z.op (M n) Kb)) (46+41+(46+wb)):=Z.okop (Z.okop (B.okM _ (by omega)) B.okD) (Z.okop (B.okM n (Nat.le_refl n)) B.okb)
  have h1:=Z.sums (n:=l+1) (w:=41+48+(wb+48)+1) (K:=Z.op (Z.op (M (t+1)) D) (Z.op (M n) Kb)) (f:=fun l=>S.mul (el S (augM A b n) (t+1) t (t+1+l)) (el S (augM A b n) n (t+1+l) (n+J)))
   (Z.okmono hok (by omega)) (by have:=B.n5;omega) (fun s hs=>Z.mul (B.low (B.colA (show t+1+s<n by omega)) (t:=t+1) (by omega) (Nat.lt_succ_self t)) (B.low (B.colB hJ) (t:=n) (Nat.le_refl n) (by omega)))
  have h2:=Z.up (Z.up (B.low (B.colB hJ) (t:=t+1) (by omega) (Nat.lt_succ_self t)) B.okD) (B.okM n (Nat.le_refl n));have h3:=Z.mono (Z.cast h2 (show _=Z.op (Z.op (M (t+1)) D) (Z.op (M n) Kb) by ac_rfl)) (show _≤41+48+(wb+48)+1+1 by omega);exact Z.fit (Z.add h3 h1) (by omega)
end
theorem zBg (S:Sr α){n:Nat}(κ:Nat→Nat)(d:Nat):∀ {l:List (Nat × α)},(∀ e∈l,e.1<n)→cs S (l.map (fun e=>(κ e.1,e.2))) d=mrg S n (cs S l) κ d
 | [],_=>by
  unfold mrg
  rw[zgN S (fun j _=>by
   by_cases h:κ j=d
   ·rw[if_pos h];rfl
   ·rw[if_neg h])]
  rfl
 | e::l,h=>by
  have ih:=zBg S κ d (l:=l) (fun x hx=>h x (List.mem_cons_of_mem _ hx));have he:=h e List.mem_cons_self;show(if κ e.1=d then S.add e.2 (cs S (l.map (fun e=>(κ e.1,e.2))) d) else cs S (l.map (fun e=>(κ e.1,e.2))) d)=_;rw[ih]
  have e2:mrg S n (cs S (e::l)) κ d=S.add (sm S n (fun j=>if e.1=j then (if κ j=d then e.2 else S.zero) else S.zero)) (mrg S n (cs S l) κ d):=by
   unfold mrg;rw[← zde];refine zal S (fun j _ => ?_);show(if κ j=d then (if e.1=j then S.add e.2 (cs S l j) else cs S l j) else S.zero)=_
   by_cases h1:κ j=d
   ·by_cases h2:e.1=j
    ·simp only[h1,h2,if_true]
    ·simp only[h1,h2,if_true,if_false];rw[S.zero_add]
   ·simp only[h1,if_false];rw[ite_self,S.add_zero]
  rw[e2,zvz S (fun j=>if κ j=d then e.2 else S.zero) he]
  by_cases h1:κ e.1=d
  ·rw[if_pos h1,if_pos h1]
  ·rw[if_neg h1,if_neg h1,S.zero_add]
theorem zpF (f:Nat→Nat)(r:List Nat):∀ k,k≤r.length→ns k (fun c=>f (r.getD c 0))=((r.take k).map f).sum
 | 0,_=>rfl
 | k+1,h=>by
  show ns k (fun c=>f (r.getD c 0))+f (r.getD k 0)=_;rw[zpF f r k (by omega),List.take_succ_eq_append_getElem (by omega),List.map_append,List.sum_append]
  congr 1
  rw[List.getD_eq_getElem?_getD,List.getElem?_eq_getElem (by omega)];simp
theorem zob (f:Nat→Nat):∀ (n:Nat) (r:List Nat),r.Pairwise (· < ·)→(∀ x∈r,x<n)→(r.map f).sum≤ns n f
 | 0,r,_,h=>by
  rcases r with _|⟨x,r⟩
  ·exact Nat.le_refl _
  ·exact absurd (h x List.mem_cons_self) (by omega)
 | n+1,r,hp,h=>by
  rcases List.eq_nil_or_concat r with rfl|⟨q,x,rfl⟩
  ·exact Nat.zero_le _
  ·rw[List.concat_eq_append] at *
   obtain⟨p1,_,p3⟩:=List.pairwise_append.1 hp;have hq:∀ y∈q,y<x:=fun y hy=>p3 y hy x (List.mem_singleton.2 rfl);have hx:x<n+1:=h x (by simp);show _≤ns n f+f n
   by_cases e:x=n
   ·subst e
    rw[List.map_append,List.sum_append];have:=zob f x q p1 hq;simp
    omega
   ·have:=zob f n (q++[x]) hp (fun y hy=>by
     rcases List.mem_append.1 hy with g|g
     ·have:=hq y g;omega
     ·have:=List.mem_singleton.1 g;omega)
    omega
structure Few (S:Sr α)(Sh:α→Prop)(A:Nat→Nat→α)(n:Nat)(M:Nat→List (Nat × α)):Prop where
 n5:n≤5
 a:∀ x y,x<n→y<n→A x y=cs S (M x) y
 sh:∀ x,x<n→∀ e∈M x,Sh e.2
 lt:∀ x,x<n→∀ e∈M x,e.1<n
 ten:ns n (fun x=>(M x).length)≤10
theorem zBh (S:Sr α){n:Nat}{f g:Nat→α}(κ:Nat→Nat)(d:Nat)(h:∀ j,j<n→f j=g j):mrg S n f κ d=mrg S n g κ d:=zal S (fun j hj=>by rw[h j hj])
theorem Few.merged {S:Sr α}{Sh:α→Prop}{A:Nat→Nat→α}{n:Nat}{M:Nat→List (Nat × α)}(h:Few S Sh A n M) :
  Few S Sh (mrgA S n A) (repR n A).length (fun c=>(M ((repR n A).getD c 0)).map (fun e=>((clsR n A).getD e.1 0,e.2))):=by
 have hs:=zmZ n A;refine⟨Nat.le_trans hs.le h.n5,fun c d hc hd => ?_,fun c hc e he => ?_,fun c hc e he => ?_,?_⟩
 ·rw[zBg S (fun j=>(clsR n A).getD j 0) d (h.lt _ (hs.rl c hc))]
  exact zBh S _ d (fun j hj=>h.a _ j (hs.rl c hc) hj)
 ·obtain⟨x,hx,rfl⟩:=List.mem_map.1 he
  exact h.sh _ (hs.rl c hc) x hx
 ·obtain⟨x,hx,rfl⟩:=List.mem_map.1 he
  exact(hs.cl _ (h.lt _ (hs.rl c hc) x hx)).1
 ·have e1:(fun c=>((M ((repR n A).getD c 0)).map (fun e=>((clsR n A).getD e.1 0,e.2))).length)=fun c=>(fun x=>(M x).length) ((repR n A).getD c 0):=by
   funext c;rw[List.length_map]
  rw[e1,zpF (fun x=>(M x).length) (repR n A) _ (Nat.le_refl _),List.take_length];refine Nat.le_trans (zob _ n _ hs.up (fun x hx => ?_)) h.ten;obtain⟨i,hi,rfl⟩:=List.getElem_of_mem hx;have:=hs.rl i hi
  rwa [List.getD_eq_getElem?_getD,List.getElem?_eq_getElem hi] at this
structure Facts {S:Sr α}{Fit:α→Prop}(Z:Szs S Fit)(A:Nat→Nat→α)(n:Nat):Prop where
 st:∃ M:Nat→Z.I,∀ t,t≤n→Z.ok (M t) 46∧∀ i j,i<t→j<t→Z.C (M t) 46 (stM S A t i j)
 a:∃ D:Z.I,Z.ok D 41∧∀ x y,x<n→y<n→Z.C D 41 (A x y)
theorem zjr {S:Sr α}{Fit:α→Prop}(Z:Szs S Fit){Sh:α→Prop}(hfew:∀ {A:Nat→Nat→α} {n:Nat} {M:Nat→List (Nat × α)},Few S Sh A n M→Facts Z A n)(m:Nat) :
  ∀ (s n:Nat) (A b:Nat→Nat→α) (M:Nat→List (Nat × α)) (Kb:Z.I) (wb:Nat),Few S Sh A n M→Z.ok Kb wb→(∀ x J,x<n→J<m→Z.C Kb wb (b x J))→wb+44 * n≤245→n≤s→SolveFits S Fit s n m A b
 | 0,_,_,_,_,_,_,_,_,_,_,_=>trivial
 | s+1,n,A,b,M,Kb,wb,hF,hk,hb,hw,hs=>by
  obtain⟨⟨N,hN⟩,⟨D,hD,hA⟩⟩:=hfew hF;have h5:=hF.n5;have hrep:=zmZ n A;unfold SolveFits
  by_cases h0:n=0
  ·subst h0
   have:(repR 0 A).length=0:=by have:=hrep.le;omega
   rw[if_pos this]
   trivial
  have B:Base Z A b n m N D Kb wb:=⟨h5,fun t ht=>(hN t ht).1,fun t ht=>(hN t ht).2,hD,hA,hk,hb,by omega⟩
  by_cases he:(repR n A).length=n
  ·rw[if_pos he]
   exact B.abs.all
  ·rw[if_neg he]
   have hlt:(repR n A).length<n:=by have:=hrep.le;omega
   have hsum:∀ c,c<(repR n A).length→∀ t,t≤n→∀ J,J<m→Z.C (Z.op D Kb) (wb+44) (zaN S (fun _=>S.zero) (A ((repR n A).getD c 0)) b t J):=by
    intro c hc t ht J hJ;have hok:=Z.okop hD hk;unfold zaN;have h1:=Z.sums (n:=t) (K:=Z.op D Kb) (w:=41+wb+1) (f:=fun s=>S.mul (A ((repR n A).getD c 0) s) (b s J)) (Z.okmono hok (by omega)) (by omega) (fun j hj=>Z.mul (hA _ j (hrep.rl c hc) (by omega)) (hb j J (by omega) hJ));exact Z.mono (Z.add (Z.zero (Z.okmono hok (by omega))) h1) (by omega)
   refine⟨fun c hc t ht => ?_,fun c hc t ht J hJ=>⟨?_,?_⟩,?_,fun i hi J hJ => ?_⟩
   ·refine Z.fit (Z.sums (n:=t+1) (K:=D) (w:=41) (f:=fun j=>if (clsR n A).getD j 0=(clsR n A).getD t 0 then A ((repR n A).getD c 0) j else S.zero) hD (by omega) (fun j hj => ?_)) (by omega)
    split
    ·exact hA _ j (hrep.rl c hc) (by omega)
    ·exact Z.zero hD
   ·exact Z.fit (Z.mul (hA _ t (hrep.rl c hc) ht) (hb t J ht hJ)) (by omega)
   ·exact Z.fit (hsum c hc (t+1) ht J hJ) (by omega)
   ·exact zjr Z hfew m s _ _ _ _ (Z.op D Kb) (wb+44) hF.merged (Z.okmono (Z.okop hD hk) (by omega)) (fun c J hc hJ=>hsum c hc n (Nat.le_refl n) J hJ) (by omega) (by omega)
   ·have e:=zdq S (s+1) n A b hs i J hi
    unfold solveF at e;rw[if_neg he] at e;rw[e,← zvy S A b hi];exact Z.fit (B.low (B.colB hJ) (Nat.le_refl n) hi) (by omega)
open Go.RowKit
theorem zGm:tenP 1=10:=by unfold tenP;decide +kernel
theorem zpG {A:Nat→Nat→El 2}{M:Nat→List (Nat × El 2)}{n:Nat}
  (hA:∀ x y,x<n→y<n→A x y=cs S2 (M x) y) (hM:∀ x,x<n→∀ e∈M x,Sh4 e.2.1):∀ t,t≤n →
  ∃ D:Rat,isI D∧D≠0∧ab D≤tenP (4 * ns t (fun x=>(M x).length))∧∀ x y,x<t→y<n→ClE D (tenP (4 * ns t (fun x=>(M x).length))) (A x y)
 | 0,_=>⟨1,⟨1,rfl⟩,by grind,by rw[zeE (by grind)];unfold tenP;simp[ns],fun x y h=>absurd h (by omega)⟩
 | t+1,ht=>by
  obtain⟨D,hD,hD0,hDb,hall⟩:=zpG hA hM t (by omega);have htn:t<n:=ht
  have hpos:∀ y∈(fins (M t)).map (·.2),0≤y:=fun y hy=>by
   obtain⟨e,he,rfl⟩:=List.mem_map.1 hy;exact(zcn (hM t htn) e he).1
  have hten:bl ((fins (M t)).map (·.2))≤tenP (4 * (M t).length):=by
   have:=zrH (w:=4) (l:=(fins (M t)).map (·.2)) (fun y hy=>by
    obtain⟨e,he,rfl⟩:=List.mem_map.1 hy;exact zcn (hM t htn) e he)
   rw[List.length_map] at this;exact Rat.le_trans this (zbl (by have:=zhT (M t);omega))
  have h1:=zez ((fins (M t)).map (·.2));have hd:ab (dl ((fins (M t)).map (·.2)))≤tenP (4 * (M t).length):=Rat.le_trans (zIb _ hpos) hten;have e1:4 * ns (t+1) (fun x=>(M x).length)=4 * ns t (fun x=>(M x).length)+4 * (M t).length:=by show 4 * (ns t (fun x=>(M x).length)+(M t).length)=_;omega
  refine⟨D * dl ((fins (M t)).map (·.2)),zbY hD (zhr _),fun e => ?_,?_,fun x y hx hy => ?_⟩
  ·rcases Rat.mul_eq_zero.1 e with e|e
   ·exact hD0 e
   ·grind
  ·rw[e1,zbV]
   exact zgp hDb hd
  ·rw[e1,zbV]
   by_cases hxt:x<t
   ·exact(hall x y hxt hy).up (zhr _) hd
   ·obtain rfl:x=t:=by omega
    intro hf;rw[hA x y htn hy] at hf ⊢;have hv:=zks y hf;have hp:=zjg (fun z=>z == y) (fins (M x))
    have hle:dl ((fins (M x)).map (·.2)) * sl (((fins (M x)).filter (fun e=>e.1 == y)).map (·.2))≤tenP (4 * (M x).length):=by
     have h4:=zjf hpos
     have h5:sl (((fins (M x)).filter (fun e=>e.1 == y)).map (·.2))≤sl ((fins (M x)).map (·.2)):=by
      have:=zjh (n:=y+1) (l:=fins (M x)) (fun e he=>(zcn (hM x htn) e he).1);refine Rat.le_trans (zrG (f:=fun m=>sl (((fins (M x)).filter (fun e=>e.1 == m)).map (·.2))) (n:=y+1) (j:=y) (fun m _ => ?_) (Nat.lt_succ_self y)) this;refine zcT (fun z hz => ?_);obtain⟨e,he,rfl⟩:=List.mem_map.1 hz;exact(zcn (hM x htn) e (List.mem_filter.1 he).1).1
     have h6:=Rat.mul_le_mul_of_nonneg_left h5 (show 0≤dl ((fins (M x)).map (·.2)) by grind)
     grind
    have h0:0≤sl (((fins (M x)).filter (fun e=>e.1 == y)).map (·.2)):=by
     refine zcT (fun z hz => ?_);obtain⟨e,he,rfl⟩:=List.mem_map.1 hz;exact(zcn (hM x htn) e (List.mem_filter.1 he).1).1
    rw[hv]
    have hc:Clr (dl ((fins (M x)).map (·.2))) (tenP (4 * (M x).length)) (sl (((fins (M x)).filter (fun e=>e.1 == y)).map (·.2))):=by
     refine⟨by rw[Rat.mul_comm];exact hp,?_⟩;rw[Rat.mul_comm,zeE (Rat.mul_nonneg (by grind) h0)];exact hle
    have h7:=hc.up hD hDb;rw[Rat.mul_comm D,Rat.mul_comm (tenP (4 * ns x (fun x=>(M x).length)))];exact h7
theorem zHy (f:Nat→Nat){t n:Nat}(h:t≤n):ns t f≤ns n f:=by
 induction n with
 | zero=>obtain rfl:t=0:=by omega
         exact Nat.le_refl _
 | succ n ih =>
  by_cases e:t=n+1
  ·subst e;exact Nat.le_refl _
  ·exact Nat.le_trans (ih (by omega)) (Nat.le_add_right _ _)
theorem zws {w:Nat}{x:Rat}(h:x≤9 * tenP w):x≤tenP (w+1):=by
 rw[zbV,zGm];have:=zbx w
 grind
theorem zqx (w:Nat):1≤tenP w:=by
 unfold tenP;have:1≤10 ^ w:=Nat.pow_pos (by decide)
 exact_mod_cast this
def szs2:Szs S2 (fun v=>Fits v.1) where
 I := { K:Rat // isI K∧K≠0 }
 op a b:=⟨a.1 * b.1,zbY a.2.1 b.2.1,fun e=>by rcases Rat.mul_eq_zero.1 e with h|h;exact a.2.2 h;exact b.2.2 h⟩
 assoc a b c:=Subtype.ext (Rat.mul_assoc _ _ _)
 comm a b:=Subtype.ext (Rat.mul_comm _ _)
 ok K w:=ab K.1≤tenP w
 C K w v:=ab K.1≤tenP w∧ClE K.1 (tenP w) v
 okop h1 h2:=by dsimp only;rw[zbV];exact zgp h1 h2
 okmono h hw:=Rat.le_trans h (zbl hw)
 mono h hw:=⟨Rat.le_trans h.1 (zbl hw),h.2.mono (zbl hw)⟩
 zero h:=⟨h,zmH (zbx _)⟩
 mul h1 h2:=by
  refine⟨?_,?_⟩
  ·refine Rat.le_trans ?_ (zbl (Nat.le_succ _))
   rw[zbV];exact zgp h1.1 h2.1
  ·refine ClE.mono ?_ (zbl (Nat.le_succ _))
   rw[zbV];exact ClE.mul (zbx _) (zbx _) h1.2 h2.2
 add h1 h2:=by
  refine⟨Rat.le_trans h1.1 (zbl (Nat.le_succ _)),(h1.2.add h2.2).mono (zws ?_)⟩;have:=zbx ‹_›
  grind
 sums {K w f n} hk hn h:=by
  refine⟨Rat.le_trans hk (zbl (Nat.le_succ _)),(ClE.sm (zbx w) (fun m hm=>(h m hm).2)).mono (zws ?_)⟩;refine Rat.mul_le_mul_of_nonneg_right ?_ (zbx w)
  exact_mod_cast hn
 up {K L w l a} h hl:=by
  refine⟨?_,?_⟩
  ·rw[zbV];exact zgp h.1 hl
  ·rw[zbV];exact h.2.up L.2.1 hl
 fit {K w a} h hw:=(h.2.wide K.2.1 K.2.2 h.1).fits (by omega)
theorem zqy {k:Int}(hk:zad k)(h:k=1∨k=3){w:Nat}(hw:1≤w){f:Nat→El k}:∀ {n:Nat},(∀ m,m<n→zaA w (f m).1)→zaA w (sm (srE k hk) n f).1
 | 0,_=>(zda k).mono hw
 | n+1,hf=>zgk h (zqy hk h hw (fun m hm=>hf m (by omega))) (hf n (by omega))
theorem zto:∀ n,ns n (fun _=>1)=n
 | 0=>rfl
 | n+1=>by show ns n (fun _=>1)+1=n+1;rw[zto n]
def zFc {k:Int}(hk:zad k)(h:k=1∨k=3):Szs (srE k hk) (fun v=>Fits v.1) where
 I:=Unit
 op _ _:=()
 assoc _ _ _:=rfl
 comm _ _:=rfl
 ok _ w:=1≤w
 C _ w v:=1≤w∧zaA w v.1
 okop h1 h2:=by omega
 okmono h1 h2:=by omega
 mono h hw:=⟨by omega,h.2.mono hw⟩
 zero {_ w} hw:=⟨hw,(zda k).mono hw⟩
 mul h1 h2:=⟨by omega,zdH k h1.1 h1.2 h2.2⟩
 add h1 h2:=⟨by omega,(zgk h h1.2 h2.2).mono (by omega)⟩
 sums {_ w f n} hw _ hf:=⟨by omega,(zqy hk h hw (fun m hm=>(hf m hm).2)).mono (by omega)⟩
 up h _:=⟨by omega,h.2.mono (by omega)⟩
 fit h hw:=h.2.fits (by omega)
theorem zHz {A:Nat→Nat→El 2}{n:Nat}{M:Nat→List (Nat × El 2)}(h:Few S2 (fun v=>Sh4 v.1) A n M):Facts szs2 A n where
 st:=by
  have hex:∀ t,∃ K:szs2.I,t≤n→szs2.ok K 46∧∀ i j,i<t→j<t→szs2.C K 46 (stM S2 A t i j):=by
   intro t
   by_cases ht:t≤n
   ·obtain⟨K,k1,k2,k3,k4⟩:=zEc (A:=A) (M:=M) (n:=t) (s:=10) (fun x y hx hy=>h.a x y (by omega) (by omega)) (fun x hx=>h.sh x (by omega)) (Nat.le_trans (zHy _ ht) h.ten)
    have h5:=h.n5;have g1:ab K≤tenP 46:=Rat.le_trans k3 (zbl (by omega));exact⟨⟨K,k1,k2⟩,fun _=>⟨g1,fun i j hi hj=>⟨g1,(k4 i j hi hj).mono (zbl (by omega))⟩⟩⟩
   ·exact⟨⟨1,⟨1,rfl⟩,by grind⟩,fun h=>absurd h ht⟩
  obtain⟨f,hf⟩:=Classical.axiomOfChoice hex;exact⟨f,fun t ht=>hf t ht⟩
 a:=by
  obtain⟨D,d1,d2,d3,d4⟩:=zpG h.a h.sh n (Nat.le_refl n);have ht:=h.ten;have g1:ab D≤tenP 41:=Rat.le_trans d3 (zbl (by omega));exact⟨⟨D,d1,d2⟩,g1,fun x y hx hy=>⟨g1,(d4 x y hx hy).mono (zbl (by omega))⟩⟩
theorem zGn {k:Int}(hk:zad k)(h13:k=1∨k=3){A:Nat→Nat→El k}{n:Nat}{M:Nat→List (Nat × El k)}(h:Few (srE k hk) (fun v=>Sh4 v.1) A n M):Facts (zFc hk h13) A n:=by
 have h4:∀ x y,x<n→y<n→zaA 4 (A x y).1:=fun x y hx hy=>by
  rw[h.a x y hx hy];exact zoZ hk h13 y (h.sh x hx)
 refine⟨⟨fun _=>(),fun t ht=>⟨show 1≤46 by omega,fun i j hi hj => ?_⟩⟩,⟨(),show 1≤41 by omega,fun x y hx hy=>⟨by omega,(h4 x y hx hy).mono (by omega)⟩⟩⟩;have h5:=h.n5;have h1:=zDQ hk h13 (A:=A) (n:=t) (w:=4) (by omega) (fun x y hx hy=>h4 x y (by omega) (by omega)) hi hj
 have h2:zaA 46 (idm (srE k hk) i j).1:=by
  unfold idm
  split
  ·exact(zgD k).mono (by omega)
  ·exact(zda k).mono (by omega)
 have:(4+1) * (t+1)+1≤46:=by omega
 exact⟨by omega,zgk h13 h2 (h1.mono this)⟩
theorem zqz {A b:Nat→Nat→El 2}{n m s:Nat}{M:Nat→List (Nat × El 2)}(h:Few S2 (fun v=>Sh4 v.1) A n M){K:Rat}(hK:isI K)(h0:K≠0)(hk:ab K≤tenP 24)
  (hb:∀ x J,x<n→J<m→ClE K (tenP 24) (b x J)) (hs:n≤s):SolveFits S2 (fun v=>Fits v.1) s n m A b:=by
 have h5:=h.n5;exact zjr szs2 (Sh:=fun v=>Sh4 v.1) (fun hF=>zHz hF) m s n A b M ⟨K,hK,h0⟩ 24 h hk (fun x J hx hJ=>⟨hk,hb x J hx hJ⟩) (by omega) hs
theorem zgI {k:Int}(hk:zad k)(h13:k=1∨k=3){A b:Nat→Nat→El k}{n m s:Nat}{M:Nat→List (Nat × El k)}(h:Few (srE k hk) (fun v=>Sh4 v.1) A n M)
  (hb:∀ x J,x<n→J<m→zaA 25 (b x J).1) (hs:n≤s):SolveFits (srE k hk) (fun v=>Fits v.1) s n m A b:=by
 have h5:=h.n5;exact zjr (zFc hk h13) (Sh:=fun v=>Sh4 v.1) (fun hF=>zGn hk h13 hF) m s n A b M () 25 h (show 1≤25 by omega) (fun x J hx hJ=>⟨by omega,hb x J hx hJ⟩) (by omega) hs
theorem zBi {k:Int}(hk:zad k){A:Nat→Nat→El k}{n s:Nat}{M:Nat→List (Nat × El k)}(h:Few (srE k hk) (fun v=>Sh4 v.1) A n M)(hs:n≤s) :
  SolveFits (srE k hk) (fun v=>Fits v.1) s n n A (idm (srE k hk)):=by
 have hw:∀ x J,zaA 1 (idm (srE k hk) x J).1:=fun x J=>by
  unfold idm
  split
  ·exact zgD k
  ·exact zda k
 rcases hk with rfl|rfl|rfl
 ·exact zgI _ (.inl rfl) h (fun x J _ _=>(hw x J).mono (by omega)) hs
 ·refine zqz h (K:=1) ⟨1,rfl⟩ (by grind) (by rw[zeE (by grind)];exact zqx 24) (fun x J _ _ hf => ?_) hs
  show Clr 1 (tenP 24) (val (idm S2 x J));unfold idm
  split
  ·exact zpE ⟨1,rfl⟩ (by rw[zeE (by grind)];exact zqx 24)
  ·rw[zdb];exact zjq (zbx 24)
 ·exact zgI _ (.inr rfl) h (fun x J _ _=>(hw x J).mono (by omega)) hs
theorem ztp {k:Int}(hk:zad k){A:Nat→Nat→El k}{F:Nat→El k}{n s:Nat}{M:Nat→List (Nat × El k)}(h:Few (srE k hk) (fun v=>Sh4 v.1) A n M)(hF:∀ x,x<n→Sh4 (F x).1)(hs:n≤s) :
  SolveFits (srE k hk) (fun v=>Fits v.1) s n 1 A (fun x _=>F x):=by
 have h5:=h.n5;rcases hk with rfl|rfl|rfl
 ·exact zgI _ (.inl rfl) h (fun x J hx _=>((hF x hx).wide).mono (by omega)) hs
 ·have hc:=zto n
  obtain⟨D,d1,d2,d3,d4⟩:=zpG (A:=fun x y=>if 0=y then F x else S2.zero) (M:=fun x=>[(0,F x)]) (n:=n) (fun x y hx hy=>by
   show(if 0=y then F x else S2.zero)=if 0=y then S2.add (F x) S2.zero else S2.zero
   rw[S2.add_zero]) (fun x hx e he=>by
   obtain rfl:=List.mem_singleton.1 he;exact hF x hx) n (Nat.le_refl n)
  have e1:4 * ns n (fun x=>([(0,F x)]:List (Nat × El 2)).length)≤24:=by
   show 4 * ns n (fun _=>1)≤24
   omega
  refine zqz h d1 d2 (Rat.le_trans d3 (zbl e1)) (fun x J hx hJ => ?_) hs;have:=d4 x 0 hx (by omega);rw[if_pos rfl] at this;exact this.mono (zbl e1)
 ·exact zgI _ (.inr rfl) h (fun x J hx _=>((hF x hx).wide).mono (by omega)) hs
end Go.Proofs.YtaogepcaoogpgaaGreatDoor
