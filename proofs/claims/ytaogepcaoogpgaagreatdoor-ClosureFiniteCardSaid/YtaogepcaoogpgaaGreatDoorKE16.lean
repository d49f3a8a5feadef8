/- WE99 WE97 WE65 -/
import Derived.Test.YtaogepcaoogpgaaGreatDoorKE15
import Derived.Shelf.Spec.SlicesInsertGrow
set_option linter.unusedVariables false
set_option linter.unusedSimpArgs false
set_option maxRecDepth 100000
set_option maxHeartbeats 16000000
namespace Go.Proofs.YtaogepcaoogpgaaGreatDoor
open Go.RowKit Go.Maps
instance:LawfulBEq ByteArray where
 eq_of_beq {a b} h:=ByteArray.ext (eq_of_beq (α:=Array UInt8) h)
 rfl {a}:=beq_self_eq_true (α:=Array UInt8) a.data
theorem zlq:Keyed Tryz.prog 9:=string_keyed Tryz.underlying9
theorem zDs (w:World):(zeroValue 3).run Tryz.prog w = .ok (.int .i64 0) w:=by kernel_rfl
theorem zAu (w:World):(zeroValue 4).run Tryz.prog w = .ok (.bool false) w:=by kernel_rfl
def lit7 (s:ByteArray):Lit := .string s.data.toList
theorem zmq {s t:ByteArray}(h:lit7 s=lit7 t):s=t:=by
 unfold lit7 at h
 injection h with h
 exact ByteArray.ext (Array.toList_inj.1 h)
theorem zmr (s:ByteArray):WideAt.IsKeyLit (lit7 s):=trivial
theorem zlr {s:ByteArray}(h:s.size≤maxLen):keyOf Tryz.prog 9 (.string s)=some (lit7 s):=WideMaps.keyOf_string_mk Tryz.underlying9 h
structure zHi (w:World)(b n:Nat)(f:ByteArray→Bool)(D:DataW Unit):Prop where
 owns:w.ownsMap Tryz.prog 9 (plainElem Tryz.prog 4) b n D
 at_:∀ s,D.atKey (lit7 s) (.lit (.bool false)) = .lit (.bool (f s))
def Marks (w:World)(b n:Nat)(f:ByteArray→Bool):Prop:=∃ D,zHi w b n f D
theorem Marks.made (w:World):Marks (w.alloc (.map #[] 0)) w.heap.size 0 (fun _=>false):=⟨.map [],⟨World.ownsMap_made w _ _ _,fun s=>rfl⟩⟩
theorem Marks.kept {w w':World}{b n:Nat}{f:ByteArray→Bool}{row:Option Nat}(h:Marks w b n f)(hg:w.grownBy w' row)(hne:some b≠row):Marks w' b n f:=by
 obtain⟨D,h1,h2⟩:=h;exact⟨D,h1.kept hg hne,h2⟩
theorem zHj:Tryz.prog.underlying 4=some .bool:=Tryz.underlying4
theorem zqX {v:Value}{x:DataW Unit}{ps:List MemPlace}(h:plainElem Tryz.prog 4 v=some (x,ps)):∃ c,v = .bool c∧x = .lit (.bool c):=by
 unfold plainElem at h;rw[zHj] at h;cases v <;> simp at h;exact⟨_,rfl,h.1.symm⟩
theorem Marks.look {w:World}{b n:Nat}{f:ByteArray→Bool}(h:Marks w b n f){s:ByteArray}(hs:s.size≤maxLen) :
  (Instr.lookup 92 (.map (some b)) (.string s) false).run Tryz.prog w = .ok (.bool (f s)) w:=by
 obtain⟨D,h1,h2⟩:=h;obtain⟨v,ps,hrun,hv⟩:=h1.lookup zlq Tryz.underlying92 (zAu _) (plainElem_bool Tryz.underlying4 false) (zlr hs);obtain⟨c,rfl,hc⟩:=zqX hv;rw[h2 s] at hc;simp only[DataW.lit.injEq,Lit.bool.injEq] at hc;rw[hrun,hc]
theorem Marks.store {w:World}{b n:Nat}{f:ByteArray→Bool}(h:Marks w b n f){s:ByteArray}(hs:s.size≤maxLen)(hn:n<maxLen) :
  ∃ w',(Instr.mapUpdate 92 (.map (some b)) (.string s) (.bool true)).run Tryz.prog w = .ok () w'∧Marks w' b (n+1) (fun t=>if t=s then true else f t)∧w.grownBy w' (some b):=by
 obtain⟨D,h1,h2⟩:=h;obtain⟨w',hrun,hown,hg⟩:=h1.update zlq Tryz.underlying92 hn (zlr hs) (plainElem_bool Tryz.underlying4 true);have hD:IsMap D:=h1.isMap;refine⟨w',hrun,⟨_,hown,fun t => ?_⟩,hg⟩
 by_cases ht:t=s
 ·subst ht
  rw[atKey_put_same hD (zmr t),if_pos rfl]
 ·rw[atKey_put_other (fun e=>ht (zmq e)),h2 t,if_neg ht]
def num7 (L:List ByteArray)(s:ByteArray):Nat:=(L.findIdx? (fun t=>decide (t=s))).getD 0
structure NumD (w:World)(b:Nat)(L:List ByteArray)(D:DataW Unit):Prop where
 owns:w.ownsMap Tryz.prog 9 (plainElem Tryz.prog 3) b L.length D
 at_:∀ s,D.atKey (lit7 s) (.lit (.int .i64 0)) = .lit (.int .i64 (num7 L s:Int))
 has_:∀ s,Maps.has D (lit7 s)=decide (s∈L)
def Nums (w:World)(b:Nat)(L:List ByteArray):Prop:=∃ D,NumD w b L D
theorem Nums.made (w:World):Nums (w.alloc (.map #[] 0)) w.heap.size []:=⟨.map [],⟨World.ownsMap_made w _ _ _,fun s=>rfl,fun s=>rfl⟩⟩
theorem Nums.kept {w w':World}{b:Nat}{L:List ByteArray}{row:Option Nat}(h:Nums w b L)(hg:w.grownBy w' row)(hne:some b≠row):Nums w' b L:=by
 obtain⟨D,h1,h2,h3⟩:=h;exact⟨D,h1.kept hg hne,h2,h3⟩
theorem Nums.lt {w:World}{b:Nat}{L:List ByteArray}(h:Nums w b L):b<w.heap.size:=by
 obtain⟨D,h1,h2,h3⟩:=h;exact h1.lt
theorem Nums.look_ok {w:World}{b:Nat}{L:List ByteArray}(h:Nums w b L){s:ByteArray}(hs:s.size≤maxLen) :
  (Instr.lookup 120 (.map (some b)) (.string s) true).run Tryz.prog w = .ok (.tuple #[.int .i64 (num7 L s:Int),.bool (decide (s∈L))]) w:=by
 obtain⟨D,h1,h2,h3⟩:=h;obtain⟨v,ps,hrun,hv⟩:=h1.look_ok zlq Tryz.underlying120 (zDs _) (plainElem_int Tryz.underlying3 (by decide)) (zlr hs);obtain⟨c,rfl,hc,_⟩:=plainElem_int_inv Tryz.underlying3 hv;rw[h2 s] at hc;simp only[Prod.mk.injEq,DataW.lit.injEq,Lit.int.injEq,true_and,and_true] at hc;rw[hrun,h3 s,hc.1]
theorem zDt {L:List ByteArray}{s:ByteArray}(h:s ∉ L):num7 (L++[s]) s=L.length:=by
 unfold num7;rw[List.findIdx?_append,List.findIdx?_eq_none_iff.2 (fun x hx=>by simp;rintro rfl;exact h hx)];simp
theorem zxy {L:List ByteArray}{s t:ByteArray}(h:t≠s):num7 (L++[s]) t=num7 L t:=by
 unfold num7;rw[List.findIdx?_append];have:[s].findIdx? (fun x=>decide (x=t))=none:=by simp[Ne.symm h]
 rw[this];simp
theorem Nums.store {w:World}{b:Nat}{L:List ByteArray}(h:Nums w b L){s:ByteArray}(hs:s.size≤maxLen)(hn:s ∉ L)(hl:L.length<maxLen) :
  ∃ w',(Instr.mapUpdate 120 (.map (some b)) (.string s) (.int .i64 ((L.length:Nat):Int))).run Tryz.prog w = .ok () w'∧Nums w' b (L++[s])∧w.grownBy w' (some b):=by
 obtain⟨D,h1,h2,h3⟩:=h
 have hw:(Lit.int .i64 ((L.length:Nat):Int)).wf=true:=by
  unfold maxLen at hl;exact WalkArith.wf_i64 (by omega)
 obtain⟨w',hrun,hown,hg⟩:=h1.update zlq Tryz.underlying120 hl (zlr hs) (plainElem_int Tryz.underlying3 hw);have hD:IsMap D:=h1.isMap;refine⟨w',hrun,⟨_,⟨by rw[List.length_append];exact hown,fun t => ?_,fun t => ?_⟩⟩,hg⟩
 ·by_cases ht:t=s
  ·subst ht
   rw[atKey_put_same hD (zmr t),zDt hn]
  ·rw[atKey_put_other (fun e=>ht (zmq e)),h2 t,zxy ht]
 ·by_cases ht:t=s
  ·subst ht
   rw[has_put_same hD (zmr t)];simp
  ·rw[has_put_other (fun e=>ht (zmq e)),h3 t];simp[ht]
def MatA (w:World)(v:Value)(n:Nat)(ln:Nat→Nat)(G:Nat→Nat→ByteArray):Prop :=
 ∃ rs:Nat→Value,RowR w v n rs∧∀ i,i<n→RowR w (rs i) (ln i) (fun j => .string (G i j))
theorem MatA.grown {w w':World}{v:Value}{n:Nat}{ln:Nat→Nat}{G:Nat→Nat→ByteArray}(h:MatA w v n ln G)(hg:w.grownBy w' none):MatA w' v n ln G:=by
 obtain⟨rs,h1,h2⟩:=h;exact⟨rs,h1.grown hg,fun i hi=>(h2 i hi).grown hg⟩
def zfr (k:Int)(n:Nat)(ln:Nat→Nat)(G:Nat→Nat→ByteArray):Prop:=zad k∧(∀ i,i<n→ln i=n)∧∀ i j,i<n→j<n→∃ v,Val k (G i j) v
def zbb (P:Prop)(w:World)(e:Ending)(w':World):Prop:=∃ b:Bool,e = .returned (.bool b)∧(b=true↔P)∧w.grownBy w' none
theorem zbb.yes {P:Prop}{w w':World}(h:P)(hg:w.grownBy w' none):zbb P w (.returned (.bool true)) w':=⟨true,rfl,⟨fun _=>h,fun _=>rfl⟩,hg⟩
theorem zbb.no {P:Prop}{w w':World}(h:¬ P)(hg:w.grownBy w' none):zbb P w (.returned (.bool false)) w':=⟨false,rfl,⟨fun e=>by simp at e,fun e=>absurd e h⟩,hg⟩
theorem zDu {k:Int}(hk:zad k):Val k (oneT k) (srE k hk).one.1:=⟨zoG hk,(srE k hk).one.2⟩
theorem zDv {k:Int}(hk:¬ zad k)(a:ByteArray):zfQ k a:=fun v _=>by
 unfold zad at hk;have h1:¬ k=1:=fun h=>hk (.inl h);have h2:¬ k=2:=fun h=>hk (.inr (.inl h));have h3:¬ k=3:=fun h=>hk (.inr (.inr h));rcases v with(_|_)|x <;> simp[hasE,zeE,h1,h2,h3]
theorem zAv (k:Int):(oneT k).size≤maxLen:=by
 unfold oneT maxLen
 split
 ·decide
 ·split <;> decide
structure zsW (k:Int)(n:Nat)(G:Nat→Nat→ByteArray)(w:World)(b i j:Nat)(wr:World):Prop where
 gr:w.grownBy wr none
 hb:w.heap.size≤b
 map:∃ f,Marks wr b (i * n+j) f∧∀ s,f s=true→∃ v,Val k s v
 ok:∀ x y,(x<i∧y<n)∨(x=i∧y<j)→∃ v,Val k (G x y) v
theorem zsX (k:Int)(n:Nat)(ln:Nat→Nat)(G:Nat→Nat→ByteArray)(av:Value)(w:World)(hn:n≤10000)(ha:MatA w av n ln G)(hs:∀ i j,(G i j).size≤maxLen) :
  Calls Tryz.prog 39 #[.int .i64 k,av] w (zbb (zfr k n ln G) w):=by
 obtain⟨rs,⟨A,c,rfl,ha1,ha2,ha3⟩,hr⟩:=ha;have HA:=zHd ha3;have HR:=zHd hr;have HN:=zHd hn;have HS:=zHd hs
 have hend:∀ w':World,∃ b:Bool,(b=true↔zad k)∧Calls Tryz.prog 71 #[.int .i64 k,.string (oneT k)] w' (zab (.bool b) w'):=fun w'=>by
  by_cases hk:zad k
  ·exact⟨true,by simp[hk],znr (zDu hk) w'⟩
  ·exact⟨false,by simp[hk],zpU (zDv hk _) (zAv k) w'⟩
 have hone:=fun w'=>ziR k w';have hmm:∀ w:World,(Instr.makeMap 92 none).run Tryz.prog w = .ok (.map (some w.heap.size)) (w.alloc (.map #[] 0)):=fun w=>run_makeMap _ w;have HE:=zHd hend;have HO:=zHd hone;clear ha1 ha2 ha3 hr hn hs hend hone;go_enter Tryz.func39,Tryz.ntmps39;go_wp2
 go_loopw [14] (fun iv wr=>∃ i:Nat,i≤n∧iv = .int .i64 (i:Int)∧w=wr∧∀ x,x<i→ln x=n) (fun iv _=>n - (intOf iv).toNat)
 case atStart=>exact⟨0,Nat.zero_le _,rfl,rfl,fun x hx=>absurd hx (by omega)⟩
 case round =>
  obtain⟨i,hi,rfl,rfl,hl⟩:=hrel
  by_cases hin:i<n
  ·obtain⟨ad,rfl,hb,hc⟩:=HA.out i hin
   obtain⟨Ai,ci,hre,_⟩:=HR.out i hin;rw[hre] at hc;have t1:decide (i<n)=true:=by simpa using hin
   have t1':decide ((i:Int)<(n:Int))=true:=by simpa using hin
   have hit:(i:Int)<(n:Int):=by omega
   have n1:IntKind.i64.wrap ((i:Int)+1)=(i:Int)+1:=by have:=HN.out;rw[IntKind.wrap_i64];omega
   by_cases he:ln i=n
   ·have t2:((ln i:Int) == (n:Int))=true:=by simp[he]
    have t3:((ln i:Int) != (n:Int))=false:=by simp[he]
    have HI:=zHd (zAI hin (zAI hl he));clear hi hl hb hre hin he;go_wp2;refine⟨⟨i+1,HI.out.1,by simp,by first|rfl|trivial,fun x hx => ?_⟩,by have:=HI.out.1;simp[intOf];omega⟩
    by_cases e:x<i
    ·exact HI.out.2.1 x e
    ·rw[show x=i by omega];exact HI.out.2.2
   ·have t2:((ln i:Int) == (n:Int))=false:=by simp;omega
    have t3:((ln i:Int) != (n:Int))=true:=by simp[bne];omega
    have HI:=zHd (zAI hin he);clear hi hl hb hre hin he;go_wp2;go_ret;exact zbb.no (fun h=>HI.out.2 (h.2.1 i HI.out.1)) (World.grownBy.refl _ _)
  ·obtain rfl:i=n:=by omega
   have t1:decide (i<i)=false:=by simp
   have t1':decide ((i:Int)<(i:Int))=false:=by simp
   have HL:=zHd hl;clear hi hin hl;go_wp2;have h0:zsW k i G w w.heap.size 0 0 (w.alloc (.map #[] 0)):=⟨zGA _ _ none,Nat.le_refl _,⟨fun _=>false,by simpa using Marks.made w,fun s h=>by simp at h⟩,fun x y h=>by omega⟩;have H0:=zHd h0;clear h0
   go_loopw [27] (fun iv wr=>∃ x:Nat,x≤i∧iv = .int .i64 (x:Int)∧zsW k i G w w.heap.size x 0 wr) (fun iv _=>i - (intOf iv).toNat)
   case atStart=>exact⟨0,Nat.zero_le _,rfl,H0.out⟩
   case round =>
    obtain⟨x,hx,rfl,hinv⟩:=hrel
    by_cases hxi:x<i
    ·obtain⟨ad,rfl,hb,hc⟩:=HA.out x hxi
     obtain⟨Ai,ci,hre,hi1,hi2,hi3⟩:=HR.out x hxi;rw[hre] at hc;have hc2:wr.cell? (ad.add x)=some (.slice Ai (ln x) ci):=(zap (ad:=ad.add x) (by rw[zaj];exact hinv.gr.block ad.block hb (by simp))).trans hc;rw[HL.out x hxi] at hc2 hi3;have t1:decide (x<i)=true:=by simpa using hxi
     have t1':decide ((x:Int)<(i:Int))=true:=by simpa using hxi
     have hit:(x:Int)<(i:Int):=by omega
     have n1:IntKind.i64.wrap ((x:Int)+1)=(x:Int)+1:=by have:=HN.out;rw[IntKind.wrap_i64];omega
     have HI:=zHd (zAI hxi hinv);have H3:=zHd hi3;clear hx hb hc hre hi1 hi2 hi3 hxi hinv;go_wp2;generalize wr=wq at *
     go_loopw [33] (fun jv wr=>∃ y:Nat,y≤i∧jv = .int .i64 (y:Int)∧zsW k i G w w.heap.size x y wr) (fun jv _=>i - (intOf jv).toNat)
     case atStart=>exact⟨0,Nat.zero_le _,rfl,HI.out.2⟩
     case round =>
      obtain⟨y,hy,rfl,hinv⟩:=hrel
      by_cases hyi:y<i
      ·obtain⟨ay,rfl,hby,hcy⟩:=H3.out y hyi
       have hcy2:wr.cell? (ay.add y)=some (.string (G x y)):=(zap (ad:=ay.add y) (by rw[zaj];exact hinv.gr.block ay.block hby (by simp))).trans hcy;obtain⟨f,hm,hf⟩:=hinv.map;have hlook:=hm.look (HS.out x y);have u1:decide (y<i)=true:=by simpa using hyi
       have u1':decide ((y:Int)<(i:Int))=true:=by simpa using hyi
       have hiy:(y:Int)<(i:Int):=by omega
       have n2:IntKind.i64.wrap ((y:Int)+1)=(y:Int)+1:=by have:=HN.out;rw[IntKind.wrap_i64];omega
       have hnn:x * i+y<maxLen:=by
        have h1:=HI.out.1;have h2:=HN.out;have h3:x * i≤10000 * 10000:=Nat.mul_le_mul (by omega) h2;unfold maxLen
        omega
       have HV:=zHd (zAI hyi hinv);have HM:=zHd (zAI hm (zAI hf hnn));clear hy hyi hinv hby hcy hm hf hnn;cases hfy:f (G x y)
       ·rw[hfy] at hlook
        rcases zge k (G x y) with⟨v,hv⟩|hnv
        ·have hcall:=fun w'=>znr hv w'
         have HC:=zHd hcall;have HVV:=zHd hv;clear hcall hv;go_wp2_with fail;refine(HC.out _).mono ?_;rintro e w5 ⟨rfl,hg5⟩;obtain⟨hm,hf,hnn⟩:=HM.out;obtain⟨w6,hst,hm6,hg6⟩:=(hm.kept hg5 (by simp)).store (HS.out x y) hnn;have H6:=zHd (zAI hm6 (zAI hg5 hg6));have HF:=zHd hf;clear hm hf hnn hm6 hg5 hg6;go_wp2;obtain⟨hm6,hg5,hg6⟩:=H6.out;refine⟨⟨y+1,HV.out.1,by simp,zai (zaa HV.out.2.gr hg5) hg6 (Nat.le_refl _),Nat.le_refl _,⟨_,hm6,fun s hs => ?_⟩,fun a b hab => ?_⟩,by have:=HV.out.1;simp[intOf];omega⟩
         ·by_cases e:s=G x y
          ·exact⟨_,e ▸ HVV.out⟩
          ·simp[e] at hs;exact HF.out s hs
         ·by_cases e:a=x∧b=y
          ·rw[e.1,e.2];exact⟨_,HVV.out⟩
          ·exact HV.out.2.ok a b (by omega)
        ·have hcall:=fun w'=>zpU hnv (HS.out x y) w'
         have HC:=zHd hcall;have HVV:=zHd hnv;clear hcall hnv;go_wp2_with fail;refine(HC.out _).mono ?_;rintro e w5 ⟨rfl,hg5⟩;have HG:=zHd hg5;clear hg5;go_wp2;go_ret;refine zbb.no (fun h => ?_) (zaa HV.out.2.gr HG.out);obtain⟨v,hv⟩:=h.2.2 x y HI.out.1 HV.out.1;have:=HVV.out v hv.e;rw[hv.has] at this;cases this
       ·rw[hfy] at hlook
        obtain⟨hm,hf,hnn⟩:=HM.out;obtain⟨w6,hst,hm6,hg6⟩:=hm.store (HS.out x y) hnn;have H6:=zHd (zAI hm6 (zAI hg6 (hf _ hfy)));have HF:=zHd hf;clear hm hf hnn hm6 hg6;go_wp2;obtain⟨hm6,hg6,hvv⟩:=H6.out;refine⟨⟨y+1,HV.out.1,by simp,zai HV.out.2.gr hg6 (Nat.le_refl _),Nat.le_refl _,⟨_,hm6,fun s hs => ?_⟩,fun a b hab => ?_⟩,by have:=HV.out.1;simp[intOf];omega⟩
        ·by_cases e:s=G x y
         ·rw[e];exact hvv
         ·simp[e] at hs;exact HF.out s hs
        ·by_cases e:a=x∧b=y
         ·rw[e.1,e.2];exact hvv
         ·exact HV.out.2.ok a b (by omega)
      ·obtain rfl:y=i:=by omega
       have u1:decide (y<y)=false:=by simp
       have u1':decide ((y:Int)<(y:Int))=false:=by simp
       have HV:=zHd hinv;clear hy hyi hinv;go_wp2;have hx1:=HI.out.1;refine⟨⟨x+1,hx1,by simp,HV.out.gr,Nat.le_refl _,?_,fun a b hab=>HV.out.ok a b (by omega)⟩,by simp[intOf];omega⟩;obtain⟨f,hm,hf⟩:=HV.out.map;exact⟨f,by rw[Nat.add_mul,Nat.one_mul,Nat.add_zero];exact hm,hf⟩
    ·obtain rfl:x=i:=by omega
     have t1:decide (x<x)=false:=by simp
     have t1':decide ((x:Int)<(x:Int))=false:=by simp
     have HI:=zHd hinv;clear hx hxi hinv;go_wp2_with fail;refine(HO.out _).mono ?_;rintro e w5 ⟨rfl,hg5⟩;obtain⟨b,hbk,hcall⟩:=HE.out w5;have HC:=zHd hcall;have HB:=zHd hbk;have HG:=zHd hg5;clear hcall hbk hg5;go_wp2_with fail;refine HC.out.mono ?_;rintro e w6 ⟨rfl,hg6⟩;have HG6:=zHd hg6;clear hg6;go_wp2;go_ret;refine⟨b,rfl,HB.out.trans ⟨fun h=>⟨h,HL.out,fun a b ha hb=>HI.out.ok a b (.inl ⟨ha,hb⟩)⟩,fun h=>h.1⟩,zaa (zaa HI.out.gr HG.out) HG6.out⟩
open Go.RowKit
structure Own7 (w:World)(g n c:Nat)(zs:List Value):Prop where
 len:zs.length=n
 le:n≤c
 max:c≤maxLen
 row:∃ sp:List Value,n+sp.length=c∧w.heap[g]? = some (.cells (zs++sp).toArray 33 (0,0))
theorem Own7.lt {w:World}{g n c:Nat}{zs:List Value}(h:Own7 w g n c zs):g<w.heap.size:=by
 obtain⟨sp,_,h⟩:=h.row;exact(Array.getElem?_eq_some_iff.1 h).1
theorem Own7.keep {w w':World}{g n c:Nat}{zs:List Value}(h:Own7 w g n c zs)(hb:w'.heap[g]? = w.heap[g]?):Own7 w' g n c zs:=by
 obtain⟨sp,h1,h2⟩:=h.row;exact⟨h.len,h.le,h.max,sp,h1,hb.trans h2⟩
theorem Own7.grown {w w':World}{g n c:Nat}{zs:List Value}(h:Own7 w g n c zs)(hg:w.grownBy w' none):Own7 w' g n c zs:=h.keep (hg.block g h.lt (by simp))
theorem Own7.rowAt {w:World}{g n c:Nat}{zs:List Value}(h:Own7 w g n c zs):zam w g 0 n (fun j=>zs.getD j (.slice none 0 0)):=by
 refine⟨h.lt,fun j hj => ?_⟩;obtain⟨sp,h1,h2⟩:=h.row;have hl:=h.len;rw[Nat.zero_add,cell_of_row w g j _ _ (0,0) h2,List.getElem?_toArray,List.getElem?_append_left (by omega)]
 dsimp only
 rw[List.getD_eq_getElem?_getD,List.getElem?_eq_getElem (by omega)]
 rfl
def zls (n g:Nat)(u:Value)(zs:List Value)(w:World)(e:Ending)(w':World):Prop :=
 ∃ g' c',e = .returned (.slice (some ⟨g',0,none⟩) (n+1) c')∧Own7 w' g' (n+1) c' (u::zs)∧((g'=g∧0<n∧w.grownBy w' (some g))∨(w.heap.size≤g'∧w.grownBy w' none))
theorem zqi:∃ i0:TypeInfo,Tryz.prog.info? 33=some i0∧i0.zero=some (.slice none 0 0)∧i0.size=1∧i0.bytes=24:=info_parts zcF
theorem zuE (vb:Nat)(u:Value)(w:World)(hv:w.cell? ⟨vb,0,none⟩=some u)(h1:u.oneCell'=true) :
  Calls Tryz.prog 133 #[.slice none 0 0,.int .i64 0,.slice (some ⟨vb,0,none⟩) 1 1] w (zls 0 0 u [] w):=by
 obtain⟨i0,hi0,hz0,hzs,hzb⟩:=zqi
 have hsrc:Src Tryz.prog i0.size 22 (.slice (some ⟨vb,0,none⟩) 1 1) 1 [u] w:=by
  rw[hzs]
  exact Src.ofSlice w Tryz.underlying22 ⟨vb,0,none⟩ 1 1 [u] rfl (fun j x hj=>by
   obtain⟨hj1,rfl⟩:=List.getElem?_eq_some_iff.1 hj;obtain rfl:j=0:=by simpa using hj1
   exact hv) (fun x hx=>by rw[List.mem_singleton.1 hx];exact h1)
 have hold:(Builtin.firstCells i0.size 0 (.slice none 0 0)).run Tryz.prog w.drew = .ok ([]:List Value).toArray w.drew:=by
  rw[hzs];exact run_firstCells_none w.drew 1 0 0 0
 obtain⟨G,hG⟩:∃ G,G=grownCap w (0+1) 0 33:=⟨_,rfl⟩
 have hrun:∀ ty,(Builtin.append_ #[22,22] ty #[.slice none 0 0,.slice (some ⟨vb,0,none⟩) 1 1]).run Tryz.prog w = .ok (.slice (some ⟨w.heap.size,0,none⟩) (0+1) G) (w.drew.alloc (.cells (([]++[u]:List Value).toArray++Builtin.zeroCells (Value.slice none 0 0).cells (G - (0+1))) 33)):=fun ty=>by
  rw[hG];exact run_append_grow_src w 22 22 ty 33 i0 _ Tryz.underlying22 hi0 hz0 none 0 0 [] hold _ 1 [u] hsrc (by omega) (by omega) (by rw[hzb];exact growslice_fits (by omega) (by omega))
 have hGn:1≤G:=by rw[hG];exact grownCap_ge w _ _ _
 have hG63:G≤maxLen:=by
  rw[hG];exact grownCap_le_maxLen w (0+1) 0 33 (by unfold maxLen;omega)
 clear hG hsrc hold;have HG:=zHd (zAI hGn hG63);clear hGn hG63;go_enter Tryz.func133,Tryz.ntmps133;go_wp2_with (at_builtin;refine Lib.wpList_append_run _ rfl _ _ _ _ rfl _ _ rfl rfl _ _ (hrun _) ?_);go_ret;obtain⟨hGn,hG63⟩:=HG.out;refine⟨_,G,rfl,⟨rfl,hGn,hG63,List.replicate (G - 1) (.slice none 0 0),by simp;omega,?_⟩,.inr ⟨Nat.le_refl _,zaa (zae w none) (zGA _ _ none)⟩⟩;show(w.drew.alloc _).heap[w.drew.heap.size]? = _;rw[zau]
 congr 2
 apply Array.toList_inj.1
 show((#[u]++Builtin.zeroCells #[Value.slice none 0 0] (G - 1)):Array Value).toList=_;rw[Array.toList_append,zdk]
theorem zAw (w:World)(g off dLen dCap sLen sCap:Nat)(ad:Addr)(cur cs:List Value)(T:TypeId)(hg:w.heap[g]? = some (.cells cur.toArray T (0,0)))(hn:cs.length=Nat.min sLen dLen)
  (hsrc:∀ j v,cs[j]? = some v→w.cell? (ad.add j)=some v) (hfit:off+cs.length≤cur.length) (h1:∀ v∈cs,v.oneCell'=true) :
  ∃ w',(∀ ty,(Builtin.copy_ #[22,22] ty #[.slice (some ⟨g,off,none⟩) dLen dCap,.slice (some ad) sLen sCap]).run Tryz.prog w = .ok (goInt cs.length) w')∧w'.heap[g]? = some (.cells (splice cur off cs).toArray T (0,0))∧w.grownBy w' (some g):=by
 have hrun:=fun ty=>run_copy_row (P:=Tryz.prog) w 22 22 ty 33 g off dLen dCap ad sLen sCap cur.toArray T cs Tryz.underlying22 (by kernel_rfl) hg hn hsrc (by simpa using hfit) h1;refine⟨_,hrun,?_,⟨rfl,rfl,rfl,by simp,fun k _ hk=>setRow_other w g k _ (fun e=>hk (by rw[e]))⟩⟩;rw[setRow_heap w g _ _ T _ hg];simp[splice]
theorem znK {w:World}{g:Nat}{cur:List Value}{T:TypeId}(h:w.heap[g]? = some (.cells cur.toArray T (0,0))){j:Nat}{v:Value}(hj:cur[j]? = some v):w.cell? ⟨g,j,none⟩=some v:=by
 rw[cell_of_row w g j _ _ (0,0) h,List.getElem?_toArray,hj]
theorem zAx {w:World}{g:Nat}{cur:Array Value}{T:TypeId}(h:w.heap[g]? = some (.cells cur T (0,0))):w.shape? g=some (T,cur.size):=by unfold World.shape?;rw[h]
theorem zlQ {w:World}{g k:Nat}{cur:Array Value}{T:TypeId}(h:w.heap[g]? = some (.cells cur T (0,0))):w.frozen? ⟨g,k,none⟩=false:=frozen_of_row w g k _ _ h
theorem zsY (n c g vb:Nat)(zs:List Value)(u:Value)(TB:TypeId)(w:World)(hn0:0<n)(hn:n≤10000)(hc:n+1≤c)(hown:Own7 w g n c zs)(hne:vb≠g)(hv:w.heap[vb]? = some (.cells #[u] TB (0,0)))(h1:u.oneCell'=true)(hz:∀ z∈zs,z.oneCell'=true) :
  Calls Tryz.prog 133 #[.slice (some ⟨g,0,none⟩) n c,.int .i64 0,.slice (some ⟨vb,0,none⟩) 1 1] w (zls n g u zs w):=by
 obtain⟨sp,hsp,hrow⟩:=hown.row;have hlen:=hown.len;have hmax:=hown.max
 obtain⟨s0,sp',rfl⟩:∃ s0 sp',sp=s0::sp':=by
  cases sp with
  | nil=>simp at hsp;omega
  | cons a b=>exact⟨a,b,rfl⟩
 have hvc:w.cell? ⟨vb,0,none⟩=some u:=cell_of_row w vb 0 _ _ (0,0) hv
 have hov:∀ lb cb,(callFunc 168 #[.slice (some ⟨vb,0,none⟩) 1 1,.slice (some ⟨g,1,none⟩) lb cb]).run Tryz.prog w = .ok (.value (.bool false)) w:=fun lb cb=>by
  rw[run_callFunc_extern Tryz.func168 (by kernel_rfl) (by kernel_rfl) (by kernel_rfl) (e:=Extern.SlicesOverlaps.overlaps #[22,22] #[4]) (by kernel_rfl),
   Lib.run_overlaps_apart w 22 4 33 Tryz.underlying22 1 Tryz.sizeOf33 ⟨vb,0,none⟩ ⟨g,1,none⟩ 1 1 lb cb hne TB 33 1 (zs++s0::sp').toArray.size (zAx hv) (zAx hrow) (by simp) (zlQ hv) (zlQ hv)]
  rfl
 have hrowd:w.drew.heap[g]? = some (.cells (zs++s0::sp').toArray 33 (0,0)):=hrow
 obtain⟨w1,hc1,hr1,hg1⟩:=zAw w.drew g 1 n (c - 1) (n+1) c ⟨g,0,none⟩ (zs++s0::sp') zs 33 hrowd (by rw[hlen];exact(Nat.min_eq_right (by omega)).symm) (fun j v hj=>by
  rw[zbA,Nat.zero_add];exact znK hrowd (by rw[List.getElem?_append_left (List.getElem?_eq_some_iff.1 hj).1,hj])) (by simp;omega) hz
 have hspl:splice (zs++s0::sp') 1 zs=((zs++s0::sp').take 1)++zs++sp':=by
  unfold splice;rw[List.append_assoc]
  congr 2
  rw[List.drop_append,List.drop_eq_nil_of_le (by omega),show 1+zs.length - zs.length=1 by omega]
  rfl
 rw[hspl] at hr1;have hv1:w1.cell? ⟨vb,0,none⟩=some u:=hg1.cell (show w.drew.cell? _=_ from hvc) (by simpa using hne)
 obtain⟨w2,hc2,hr2,hg2⟩:=zAw w1 g 0 (n+1) c 1 1 ⟨vb,0,none⟩ _ [u] 33 hr1 (by show 1=Nat.min 1 (n+1);exact(Nat.min_eq_left (by omega)).symm) (fun j v hj=>by
  obtain⟨hj1,rfl⟩:=List.getElem?_eq_some_iff.1 hj;obtain rfl:j=0:=by simpa using hj1
  rw[zbA];exact hv1) (by simp;omega) (fun x hx=>by rw[List.mem_singleton.1 hx];exact h1)
 have hspl2:splice (((zs++s0::sp').take 1)++zs++sp') 0 [u]=(u::zs)++sp':=by
  obtain⟨z0,zr,rfl⟩:∃ z0 zr,zs=z0::zr:=by
   cases zs with
   | nil=>simp at hlen;omega
   | cons a b=>exact⟨a,b,rfl⟩
  unfold splice;simp
 rw[hspl2] at hr2;have hnz:¬ (n:Int)=0:=by omega
 have hnz2:¬ n=0:=by omega
 have hi1:(n:Int)+1≤(c:Int):=by omega
 have hi2:¬ (c:Int)<(n:Int)+1:=by omega
 have hi3:¬ c=1:=by omega
 have hi4:(1:Int)≤(n:Int)+1:=by omega
 have hi5:(0:Int)≤(n:Int)+1:=by omega
 have hi6:¬ (n+1=1):=by omega
 have hi7:¬ (c=0):=by omega
 have hw2:IntKind.i64.wrap 1=1:=by decide
 have hw1:IntKind.i64.wrap ((n:Int)+1)=(n:Int)+1:=by rw[IntKind.wrap_i64];omega
 have HP:=zHd (zAI hr2 (zAI hg1 (zAI hg2 (zAI hsp (zAI hlen (zAI hc hmax))))));have HC1:=zHd hc1;have HC2:=zHd hc2;clear hspl hspl2 hr1 hr2 hg1 hg2 hrow hrowd hown hv hvc hv1 hsp hlen hmax hc1 hc2 hn0 hn hc hz;go_enter Tryz.func133,Tryz.ntmps133;have mixed:Tryz.prog.follows .mixedOrders=true:=by kernel_rfl
 go_wp2_with (simp only[hov])
 go_region_law_o (refine step_copy_runI rfl _ _ 22 22 rfl _ _ (by simp[Act.eval,Act.put]) (by simp[Act.eval,Act.put]) (HC1.out _) ?_)
 have hc2:=HC2.out 3;go_wp2;go_ret;obtain⟨hr2,hg1,hg2,hsp,hlen,hc,hmax⟩:=HP.out;exact⟨g,c,rfl,⟨by simp[hlen],hc,hmax,sp',by simp at hsp;omega,hr2⟩,.inl ⟨rfl,by omega,(zaa (zae w _) (zaa hg1 hg2))⟩⟩
theorem zAy (W:World)(g off dLen dCap sLen sCap:Nat)(ad:Addr)(cur cs:List Value)(hg:W.heap[g]? = some (.cells cur.toArray 33 (0,0)))(hn:cs.length=Nat.min sLen dLen)
  (hsrc:∀ j v,cs[j]? = some v→W.cell? (ad.add j)=some v) (hfit:off+cs.length≤cur.length) (h1:∀ v∈cs,v.oneCell'=true) :
  (∀ ty,(Builtin.copy_ #[22,22] ty #[.slice (some ⟨g,off,none⟩) dLen dCap,.slice (some ad) sLen sCap]).run Tryz.prog W = .ok (goInt cs.length) (W.setRow g (splice cur off cs).toArray)):=fun ty=>by
 have hrun:=run_copy_row (P:=Tryz.prog) W 22 22 ty 33 g off dLen dCap ad sLen sCap cur.toArray 33 cs Tryz.underlying22 (by kernel_rfl) hg hn hsrc (by simpa using hfit) h1;rw[hrun];simp[splice]
theorem zjC (W:World)(g:Nat)(row:Array Value):W.grownBy (W.setRow g row) (some g):=⟨rfl,rfl,rfl,by simp,fun k _ hk=>setRow_other W g k _ (fun e=>hk (by rw[e]))⟩
theorem zsZ (n c g vb:Nat)(zs:List Value)(u:Value)(w:World)(hn0:0<n)(hn:n≤10000)(hc:c<n+1)(hown:Own7 w g n c zs)(hv:w.cell? ⟨vb,0,none⟩=some u)(hvb:vb<w.heap.size)(h1:u.oneCell'=true)(hz:∀ z∈zs,z.oneCell'=true) :
  Calls Tryz.prog 133 #[.slice (some ⟨g,0,none⟩) n c,.int .i64 0,.slice (some ⟨vb,0,none⟩) 1 1] w (zls n g u zs w):=by
 obtain⟨i0,hi0,hz0,hzs,hzb⟩:=zqi;obtain⟨sp,hsp,hrow⟩:=hown.row;have hlen:=hown.len;have hle:=hown.le;have hlt:=hown.lt;obtain rfl:c=n:=by omega
 have hold:(Builtin.firstCells i0.size 0 (.slice (some ⟨g,0,none⟩) 0 c)).run Tryz.prog w.drew = .ok ([]:List Value).toArray w.drew:=by
  rw[hzs];exact run_firstCells_some w.drew 1 0 ⟨g,0,none⟩ 0 c [] rfl (fun j v hj=>by simp at hj)
 obtain⟨G,hG⟩:∃ G,G=grownCap w (c+1) c 33:=⟨_,rfl⟩;have hGn:c+1≤G:=by rw[hG];exact grownCap_ge w _ _ _
 have hG63:G≤maxLen:=by
  rw[hG];exact grownCap_le_maxLen w (c+1) c 33 (by unfold maxLen;omega)
 have hrz:∀ ty,(Builtin.append_ #[22,3] ty #[.slice (some ⟨g,0,none⟩) 0 c,.int .i64 ((c:Int)+1)]).run Tryz.prog w =
   .ok (.slice (some ⟨w.heap.size,0,none⟩) (c+1) G) (w.drew.alloc (.cells (List.replicate G (.slice none 0 0)).toArray 33)):=fun ty=>by
  have h:=Lib.run_append_grow_zeros w 22 3 ty 33 i0 _ .i64 .i64 Tryz.underlying22 Tryz.underlying3 hi0 hz0 (some ⟨g,0,none⟩) 0 c [] hold (c+1) (by omega) (by omega) (by omega) (by omega) (by rw[hzb];omega) (by rw[hzb,Nat.zero_add];exact growslice_fits (by omega) (by omega));rw[Nat.zero_add,← hG] at h;rw[show(c:Int)+1=((c+1:Nat):Int) by omega,h]
  congr 3
  apply Array.toList_inj.1
  show((#[]++Builtin.zeroCells #[Value.slice none 0 0] (c+1)++Builtin.zeroCells #[Value.slice none 0 0] (G - (c+1))):Array Value).toList=_;rw[Array.toList_append,Array.toList_append,zdk,zdk];simp[hGn]
 have hrA:∀ W:World,W.heap=(w.drew.alloc (.cells (List.replicate G (.slice none 0 0)).toArray 33)).heap→W.heap[w.heap.size]? = some (.cells (List.replicate G (.slice none 0 0):List Value).toArray 33 (0,0)):=fun W hW=>by
  rw[hW];exact zau w.drew _
 have hold2:∀ W:World,W.heap=(w.drew.alloc (.cells (List.replicate G (.slice none 0 0)).toArray 33)).heap→∀ b j,b<w.heap.size→W.cell? ⟨b,j,none⟩=w.cell? ⟨b,j,none⟩:=fun W hW b j hb=>by
  refine zap (ad:=⟨b,j,none⟩) ?_;rw[hW];exact(zGA w.drew _ none).block b hb (by simp)
 have hcA:∀ W:World,W.heap=(w.drew.alloc (.cells (List.replicate G (.slice none 0 0)).toArray 33)).heap→∀ ty,(Builtin.copy_ #[22,22] ty #[.slice (some ⟨w.heap.size,0,none⟩) (c+1) G,.slice (some ⟨vb,0,none⟩) 1 1]).run Tryz.prog W = .ok (goInt 1) (W.setRow w.heap.size (u::List.replicate (G - 1) (.slice none 0 0)).toArray):=fun W hW ty=>by
  have h:=zAy W w.heap.size 0 (c+1) G 1 1 ⟨vb,0,none⟩ (List.replicate G (.slice none 0 0)) [u] (hrA W hW) (by show 1=Nat.min 1 (c+1);exact(Nat.min_eq_left (by omega)).symm) (fun j v hj=>by
   obtain⟨hj1,rfl⟩:=List.getElem?_eq_some_iff.1 hj;obtain rfl:j=0:=by simpa using hj1
   rw[zbA,hold2 W hW vb _ hvb];exact hv) (by simp;omega) (fun x hx=>by rw[List.mem_singleton.1 hx];exact h1) ty
  rw[h]
  have e:splice (List.replicate G (.slice none 0 0)) 0 [u]=u::List.replicate (G - 1) (.slice none 0 0):=by
   unfold splice;simp
  rw[e]
  rfl
 have hcB:∀ W V:World,V.heap=(w.drew.alloc (.cells (List.replicate G (.slice none 0 0)).toArray 33)).heap→W.heap=(V.setRow w.heap.size (u::List.replicate (G - 1) (.slice none 0 0)).toArray).heap→∀ ty,(Builtin.copy_ #[22,22] ty #[.slice (some ⟨w.heap.size,1,none⟩) c (G - 1),.slice (some ⟨g,0,none⟩) c c]).run Tryz.prog W = .ok (goInt c) (W.setRow w.heap.size (u::(zs++List.replicate (G - (c+1)) (.slice none 0 0))).toArray):=fun W V hV hW ty=>by
  have hr:W.heap[w.heap.size]? = some (.cells (u::List.replicate (G - 1) (.slice none 0 0)).toArray 33 (0,0)):=by
   rw[hW,setRow_heap V w.heap.size _ _ 33 _ (hrA V hV)]
  have h:=zAy W w.heap.size 1 c (G - 1) c c ⟨g,0,none⟩ (u::List.replicate (G - 1) (.slice none 0 0)) zs hr (by rw[hlen];exact(Nat.min_self c).symm) (fun j v hj=>by
   rw[zbA,Nat.zero_add];have e1:W.cell? ⟨g,j,none⟩=V.cell? ⟨g,j,none⟩:=zap (ad:=⟨g,j,none⟩) (by rw[hW];exact setRow_other V w.heap.size g _ (by show g≠w.heap.size;omega));rw[e1,hold2 V hV g j hlt];exact znK hrow (by rw[List.getElem?_append_left (List.getElem?_eq_some_iff.1 hj).1,hj])) (by simp;omega) hz ty
  rw[h,hlen]
  have e:splice (u::List.replicate (G - 1) (.slice none 0 0)) 1 zs=u::(zs++List.replicate (G - (c+1)) (.slice none 0 0)):=by
   unfold splice;simp[hlen];rw[show 1+c=c+1 by omega,List.drop_succ_cons,List.drop_replicate,show G - 1 - c=G - (c+1) by omega]
  rw[e]
 obtain⟨ROW,hROW⟩:∃ ROW:Array Value,ROW=(List.replicate G (.slice none 0 0):List Value).toArray:=⟨_,rfl⟩;rw[← hROW] at hrz;have hnz:¬ (c:Int)=0:=by omega
 have hnz2:¬ c=0:=by omega
 have hi1:(c:Int)<(c:Int)+1:=by omega
 have hi2:(0:Int)≤(c:Int)+1:=by omega
 have hi4:(1:Int)≤(c:Int)+1:=by omega
 have hi5:¬ G=0:=by omega
 have hi6:¬ G=1:=by omega
 have hw2:IntKind.i64.wrap 1=1:=by decide
 have hi7:(1:Int)≤((c+1:Nat):Int):=by omega
 have mixed:Tryz.prog.follows .mixedOrders=true:=by kernel_rfl
 have hw1:IntKind.i64.wrap ((c:Int)+1)=(c:Int)+1:=by rw[IntKind.wrap_i64];omega
 have HP:=zHd (zAI hGn (zAI hG63 (zAI hlen hlt)));have HA:=zHd hcA;have HB:=zHd hcB;have HR:=zHd hrA;have HRW:=zHd hROW;clear hold hG hrA hold2 hcA hcB hROW hown hrow hle hlt hsp hz hv;go_enter Tryz.func133,Tryz.ntmps133;have hca1:=HA.out (w.drew.alloc (.cells ROW 33)) (by rw[HRW.out]) 3;have hca2:=HA.out ((w.alloc (.cells ROW 33)).drew) (by rw[HRW.out];rfl) 3
 go_wp2_with (first
  | (at_builtin;refine Lib.wpList_append_run _ rfl _ _ _ _ rfl _ _ rfl rfl _ _ (hrz _) ?_))
 have hcb1:=HB.out (((w.alloc (.cells ROW 33)).drew.setRow w.heap.size (u::List.replicate (G - 1) (.slice none 0 0)).toArray).drew) (w.drew.alloc (.cells ROW 33)) (by rw[HRW.out]) rfl 3
 go_region_law_o (refine step_copy_runI rfl _ _ 22 22 rfl (.slice (some ⟨w.heap.size,1,none⟩) c (G - 1)) (.slice (some ⟨g,0,none⟩) c c) (by simp[Act.eval,Act.put]) (by simp[Act.eval,Act.put]) hcb1 ?_)
 go_wp2;go_ret;obtain⟨hGn,hG63,hlen,hlt⟩:=HP.out;have hr:=HR.out (w.drew.alloc (.cells ROW 33)) (by rw[HRW.out]);refine⟨_,G,rfl,⟨by simp[hlen],hGn,hG63,List.replicate (G - (c+1)) (.slice none 0 0),by simp;omega,?_⟩,.inr ⟨Nat.le_refl _,?_⟩⟩
 ·have hr2:((w.alloc (.cells ROW 33)).drew).heap[w.heap.size]? = some (.cells (List.replicate G (.slice none 0 0)).toArray 33 (0,0)):=hr
  have hr3:=setRow_heap ((w.alloc (.cells ROW 33)).drew) w.heap.size _ (u::List.replicate (G - 1) (.slice none 0 0)).toArray 33 _ hr2;exact setRow_heap (((w.alloc (.cells ROW 33)).drew.setRow w.heap.size (u::List.replicate (G - 1) (.slice none 0 0)).toArray).drew) w.heap.size _ _ 33 _ hr3
 ·refine zai (zaa (zai (zaa (zGA w _ none) (zae _ none)) (zjC _ _ _) (Nat.le_refl _)) (zae _ none)) (zjC _ _ _) (Nat.le_refl _)
open Go.RowKit
open Go.Lib (nDigits)
variable {α:Type}
def aug (S:Sr α)(A:Nat→Nat→α)(F:Nat→α)(n x y:Nat):α:=if x<n then (if y<n then A x y else F x) else S.zero
def cutF (S:Sr α)(F:Nat→α)(J x:Nat):α:=if x<J then F x else S.zero
theorem zGI (S:Sr α)(A:Nat→Nat→α)(F:Nat→α){n t i j:Nat}(ht:t≤n)(hi:i<n)(hj:j<n):el S (aug S A F n) t i j=el S A t i j :=
 zlU S (fun x y hx hy=>by unfold aug;rw[if_pos hx,if_pos hy]) t ht i j hi hj
theorem zDw (S:Sr α)(A:Nat→Nat→α)(F:Nat→α){n i:Nat}(hi:i<n):sm S n (fun m=>S.mul (stM S A n i m) (F m))=el S (aug S A F n) n i n:=by
 rw[zeJ S (aug S A F n) n i n];have e1:aug S A F n i n=F i:=by unfold aug;rw[if_pos hi,if_neg (Nat.lt_irrefl _)]
 have e2:sm S n (fun m=>S.mul (el S (aug S A F n) n i m) (aug S A F n m n))=sm S n (fun m=>S.mul (el S A n i m) (F m)):=zal S (fun m hm=>by
  rw[zGI S A F (Nat.le_refl n) hi hm];unfold aug;rw[if_pos hm,if_neg (Nat.lt_irrefl _)])
 have e3:sm S n (fun m=>S.mul (stM S A n i m) (F m))=S.add (sm S n (fun m=>S.mul (idm S i m) (F m))) (sm S n (fun m=>S.mul (el S A n i m) (F m))):=by
  rw[← zdA];exact zal S (fun m _=>S.add_mul _ _ _)
 rw[e1,e2,e3,zjI S _ hi]
theorem zAz (S:Sr α)(c F:Nat→α){J:Nat}:∀ {n:Nat},J≤n→sm S n (fun m=>S.mul (c m) (cutF S F J m))=sm S J (fun m=>S.mul (c m) (F m))
 | 0,h=>by rw[Nat.le_zero.1 h];rfl
 | n+1,h=>by
  by_cases e:J=n+1
  ·rw[e]
   exact zal S (fun m hm=>by unfold cutF;rw[if_pos (by omega)])
  ·show S.add (sm S n (fun m=>S.mul (c m) (cutF S F J m))) (S.mul (c n) (cutF S F J n))=_
   rw[zAz S c F (n:=n) (by omega)];have:cutF S F J n=S.zero:=by unfold cutF;rw[if_neg (by omega)]
   rw[this,S.mul_zero,S.add_zero]
theorem zxz (S:Sr α)(A:Nat→Nat→α)(F:Nat→α){n i J:Nat}(hi:i<n)(hJ:J≤n):sm S J (fun m=>S.mul (stM S A n i m) (F m))=el S (aug S A (cutF S F J) n) n i n:=by
 rw[← zDw S A (cutF S F J) hi,zAz S (fun m=>stM S A n i m) F hJ]
theorem zpk (S:Sr α)(y:Nat):∀ {l:List (Nat × α)},(∀ e∈l,e.1≠y)→cs S l y=S.zero
 | [],_=>rfl
 | e::l,h=>by
  have h1:cs S (e::l) y=cs S l y:=if_neg (h e (List.mem_cons_self ..));rw[h1];exact zpk S y (fun x hx=>h x (List.mem_cons_of_mem _ hx))
variable {k:Int} {hk:zad k}
theorem zms (hk:zad k):Sh4 (srE k hk).zero.1:=by
 show Sh4 (zfP k);unfold zfP
 split
 ·trivial
 ·show nDigits (0:Rat).num.natAbs+(if (0:Rat).den=1 then 0 else nDigits (0:Rat).den)≤4
  decide +kernel
structure zdE (k:Int)(hk:zad k)(A:Nat→Nat→El k)(F:Nat→El k)(n:Nat)(M:Nat→List (Nat × El k)):Prop where
 row:n≤5
 is:∀ x y,x<n→y<n→A x y=cs (srE k hk) (M x) y
 short:∀ x,x<n→∀ e∈M x,e.1<n∧Sh4 e.2.1
 few:ns n (fun x=>(M x).length)≤10
 fin:∀ x,x<n→Sh4 (F x).1
variable {A:Nat→Nat→El k} {F:Nat→El k} {n:Nat} {M:Nat→List (Nat × El k)}
theorem zdE.cutF (h:zdE k hk A F n M)(J:Nat):zdE k hk A (cutF (srE k hk) F J) n M where
 row:=h.row
 is:=h.is
 short:=h.short
 few:=h.few
 fin x hx:=by
  unfold Proofs.YtaogepcaoogpgaaGreatDoor.cutF
  split
  ·exact h.fin x hx
  ·exact zms hk
theorem zAA (f:Nat→Nat):∀ n,ns n (fun x=>f x+1)=ns n f+n
 | 0=>rfl
 | n+1=>by
  show ns n (fun x=>f x+1)+(f n+1)=ns n f+f n+(n+1);rw[zAA f n];omega
theorem zdE.aug (h:zdE k hk A F n M):ziu k hk (aug (srE k hk) A F n) (n+1) (fun x=>if x<n then M x++[(n,F x)] else []) where
 row:=by have:=h.row;omega
 is x y hx hy:=by
  unfold Proofs.YtaogepcaoogpgaaGreatDoor.aug
  by_cases h1:x<n
  ·rw[if_pos h1,if_pos h1,zlp]
   by_cases h2:y<n
   ·rw[if_pos h2,if_neg (by omega)];exact h.is x y h1 h2
   ·rw[if_neg h2,if_pos (show n=y by omega),zpk _ y (fun e he=>by have:=(h.short x h1 e he).1;omega),(srE k hk).zero_add]
  ·rw[if_neg h1,if_neg h1];rfl
 short x hx e he:=by
  by_cases h1:x<n
  ·rw[if_pos h1] at he
   rcases List.mem_append.1 he with he|he
   ·exact(h.short x h1 e he).2
   ·rw[List.mem_singleton.1 he];exact h.fin x h1
  ·rw[if_neg h1] at he;cases he
 few:=by
  show ns n (fun x=>(if x<n then M x++[(n,F x)] else []).length)+(if n<n then M n++[(n,F n)] else []).length≤15;rw[if_neg (Nat.lt_irrefl n)];have e:ns n (fun x=>(if x<n then M x++[(n,F x)] else []).length)≤ns n (fun x=>(M x).length+1):=zpi (fun x hx=>by rw[if_pos hx,List.length_append];exact Nat.le_refl _);rw[zAA] at e;have:=h.few;have:=h.row;show ns n (fun x=>(if x<n then M x++[(n,F x)] else []).length)+0≤15
  omega
theorem zdE.part (h:zdE k hk A F n M){i J:Nat}(hi:i<n)(hJ:J≤n):zaz 221 (sm (srE k hk) J (fun m=>(srE k hk).mul (stM (srE k hk) A n i m) (F m))).1:=by
 rw[zxz (srE k hk) A F hi hJ];exact(h.cutF J).aug.wide h.row (by omega) (by omega) (by omega)
theorem zdE.total (h:zdE k hk A F n M){lead:Ext}(hl:zaz 4 lead){i:Nat}(hi:i<n):zaz 226 (zaX k lead (sm (srE k hk) n (fun m=>(srE k hk).mul (stM (srE k hk) A n i m) (F m))).1) :=
 (zdD k (by omega) hl (h.part hi (Nat.le_refl n))).mono (by omega)
theorem zAB (hk:zad k){l:List (Nat × El k)}{y:Nat}(hl:∀ e∈l,Sh4 e.2.1)(hn:l.length≤15)(hy:y<6):zaz 221 (cs (srE k hk) l y).1:=by
 have h:ziu k hk (fun x y=>cs (srE k hk) (if x=0 then l else []) y) 6 (fun x=>if x=0 then l else []) := {
  row:=Nat.le_refl 6
  is:=fun x y _ _=>rfl
  short:=fun x _ e he=>by
   by_cases h0:x=0
   ·rw[if_pos h0] at he;exact hl e he
   ·rw[if_neg h0] at he;cases he
  few:=by
   show 0+l.length+0+0+0+0+0≤15
   omega }
 exact h.wide (t:=0) (i:=0) (j:=y) (by omega) (by omega) (by omega) hy
open Go.RowKit
open Go.Lib (nDigits decDigits)
def dgs7 (l:List UInt8):Nat:=(l.filter isDg).length
theorem zpl (l m:List UInt8):dgs7 (l++m)=dgs7 l+dgs7 m:=by unfold dgs7;rw[List.filter_append,List.length_append]
theorem zFB {l:List UInt8}(h:l.all isDg=true):dgs7 l=l.length:=by
 unfold dgs7;rw[List.filter_eq_self.2 (fun x hx=>List.all_eq_true.1 h x hx)]
theorem zvR (n:Nat):dgs7 (decDigits n)=nDigits n:=by rw[zFB (zgD n),Lib.decDigits_length]
theorem zFC (x:Rat):dgs7 (ratL x)=nDigits x.num.natAbs+(if x.den=1 then 0 else nDigits x.den):=by
 unfold ratL;rw[zpl,zpl,zvR];have h1:dgs7 (if x.num<0 then [45] else [])=0:=by split <;> rfl
 rw[h1,Nat.zero_add]
 by_cases h:x.den=1
 ·rw[if_pos h,if_pos h];rfl
 ·rw[if_neg h,if_neg h]
  show _+dgs7 ([47]++decDigits x.den)=_;rw[zpl,zvR,show dgs7 [47]=0 from rfl,Nat.zero_add]
theorem zGJ {a:ByteArray}{v:Ext}(h:IsE a v)(hd:dgs7 a.data.toList≤4):Sh4 v:=by
 rcases v with(_|_)|x
 ·trivial
 ·trivial
 ·have e:a=ratS x:=zax.eq h
  rw[e] at hd;have e2:(ratS x).data.toList=ratL x:=rfl;rw[e2,zFC] at hd;exact hd
variable {α:Type}
def nzL (S:Sr α)[DecidableEq α](f:Nat→α):Nat→List (Nat × α)
 | 0=>[]
 | n+1=>nzL S f n++(if f n=S.zero then [] else [(n,f n)])
theorem zta (S:Sr α)[DecidableEq α](f:Nat→α):∀ {n:Nat} {e:Nat × α},e∈nzL S f n→e.1<n∧e.2=f e.1
 | 0,e,h=>by cases h
 | n+1,e,h=>by
  rcases List.mem_append.1 h with h|h
  ·have:=zta S f h;exact⟨by omega,this.2⟩
  ·by_cases hz:f n=S.zero
   ·rw[if_pos hz] at h;cases h
   ·rw[if_neg hz] at h;rw[List.mem_singleton.1 h];exact⟨by omega,rfl⟩
theorem zAC (S:Sr α)[DecidableEq α](f:Nat→α)(y:Nat):∀ {n:Nat},cs S (nzL S f n) y=if y<n then f y else S.zero
 | 0=>rfl
 | n+1=>by
  have ih:=zAC S f y (n:=n)
  by_cases hz:f n=S.zero
  ·have e:nzL S f (n+1)=nzL S f n:=by show nzL S f n++(if f n=S.zero then [] else [(n,f n)])=_;rw[if_pos hz,List.append_nil]
   rw[e,ih]
   by_cases h:y<n
   ·rw[if_pos h,if_pos (by omega)]
   ·rw[if_neg h]
    by_cases h2:y<n+1
    ·rw[if_pos h2,show y=n by omega,hz]
    ·rw[if_neg h2]
  ·have e:nzL S f (n+1)=nzL S f n++[(n,f n)]:=by show nzL S f n++(if f n=S.zero then [] else [(n,f n)])=_;rw[if_neg hz]
   rw[e,zlp,ih]
   dsimp only
   by_cases h:n=y
   ·subst h
    rw[if_pos rfl,if_neg (Nat.lt_irrefl _),if_pos (by omega),S.zero_add]
   ·rw[if_neg h]
    by_cases h2:y<n
    ·rw[if_pos h2,if_pos (by omega)]
    ·rw[if_neg h2,if_neg (by omega)]
instance (k:Int):DecidableEq (El k):=fun u v=>decidable_of_iff (u.1=v.1) ⟨fun h=>Subtype.ext h,fun h=>by rw[h]⟩
open Go.RowKit
theorem ztb {k r:Nat}(hr:r<k+1)(V:Nat→Nat→Rat)(x:Nat→Rat)(e:Nat→Rat)(h:∀ c,c<k+1→e c=rs (k+1) (fun i=>x i * V i c)):dt (k+1) (up V r e)=x r * dt (k+1) V:=by
 have step:∀ n,n≤k+1→dt (k+1) (up V r (fun c=>rs n (fun i=>x i * V i c)))=if r<n then x r * dt (k+1) V else 0:=fun n=>by
  induction n with
  | zero =>
   intro _;rw[if_neg (by omega)];have h2:=zeV V (k:=k+1) (r:=r) (fun _=>0) (fun _=>0) 0 0 hr;rw[zbh (W:=up V r (fun x=>(0:Rat) * 0+0 * 0)) (fun i x _ _=>by unfold up;split;exact(show(0:Rat)=0 * 0+0 * 0 by grind);rfl),h2]
   grind
  | succ n ih =>
   intro hn;have h2:=zeV V (k:=k+1) (r:=r) (fun c=>rs n (fun i=>x i * V i c)) (V n) 1 (x n) hr;rw[zbh (W:=up V r (fun c=>1 * rs n (fun i=>x i * V i c)+x n * V n c)) (fun i c _ _=>by unfold up;split;exact(show rs n (fun i=>x i * V i c)+x n * V n c=1 * rs n (fun i=>x i * V i c)+x n * V n c by grind);rfl),h2,ih (by omega)]
   by_cases e:n=r
   ·subst e
    rw[if_neg (Nat.lt_irrefl n),if_pos (Nat.lt_succ_self n)];have e1:dt (k+1) (up V n (V n))=dt (k+1) V:=zbh (fun i x _ _=>by unfold up;split;rename_i e;rw[e];rfl);rw[e1];grind
   ·have e2:dt (k+1) (up V r (V n))=0:=by
     by_cases hlt:r<n
     ·exact zha (n - r - 1) (k+1) _ (r:=r) (by omega) (fun x=>by unfold up;rw[if_pos rfl,if_neg (by omega),show r+(n - r - 1)+1=n by omega])
     ·exact zha (r - n - 1) (k+1) _ (r:=n) (by omega) (fun x=>by unfold up;rw[if_neg e,if_pos (by omega)])
    rw[e2]
    by_cases hlt:r<n
    ·rw[if_pos hlt,if_pos (by omega)];grind
    ·rw[if_neg hlt,if_neg (by omega)];grind
 have h1:=step (k+1) (Nat.le_refl _);rw[if_pos hr] at h1;rw[← h1];exact zbh (fun i c _ hc=>by unfold up;split;exact h c hc;rfl)
section
variable {α:Type}
theorem ztc (S:Sr α)(A:Nat→Nat→α)(X:Nat→α){n j:Nat}(h:∀ m,m<n→S.le (S.add (A m j) (sm S n (fun l=>S.mul (A m l) (X l)))) (X m)){i:Nat}(hi:i<n):S.le (el S A n i j) (X i):=by
 have hl:=zfx S A (fun m=>A m j) X h n (Nat.le_refl n) i hi;rw[zal S (g:=fun m=>S.mul (el S A n i m) (A m j)) (fun m hm=>by rw[if_pos hm]),← zeJ S A n i j] at hl;exact hl
theorem Sr.mul_mono2 (S:Sr α)(a b c:α)(h:S.le a b):S.le (S.mul a c) (S.mul b c):=by
 rw[S.mul_comm a c,S.mul_comm b c];exact S.mul_mono a b c h
theorem zxA (S:Sr α){A B:Nat→Nat→α}{n:Nat}(h:∀ x y,x<n→y<n→S.le (B x y) (A x y)){i j:Nat}(hi:i<n)(hj:j<n):S.le (el S B n i j) (el S A n i j) :=
 ztc S B (fun m=>el S A n m j) (fun m hm=>by
  rw[zbF S A n m j];exact S.add_mono _ _ _ _ (h m j hm hj) (zgF S (fun l hl=>S.mul_mono2 _ _ _ (h m l hm hl)))) hi
end
section
open Classical in
noncomputable def onG (A:Nat→Nat→El 2)(n x y:Nat):El 2:=if Fin2 (A x y)∧Fin2 (el S2 A n x x)∧Fin2 (el S2 A n y y) then A x y else S2.zero
variable {A:Nat→Nat→El 2} {n:Nat}
theorem zvS {x y:Nat}(h1:Fin2 (A x y))(h2:Fin2 (el S2 A n x x))(h3:Fin2 (el S2 A n y y)):onG A n x y=A x y:=by unfold onG;rw[if_pos ⟨h1,h2,h3⟩]
theorem znL (A:Nat→Nat→El 2)(n x y:Nat):onG A n x y=S2.zero∨(onG A n x y=A x y∧Fin2 (A x y)):=by
 unfold onG
 split
 ·rename_i h;exact .inr ⟨rfl,h.1⟩
 ·exact .inl rfl
theorem ztd (x y:Nat):S2.le (onG A n x y) (A x y):=by
 rcases znL A n x y with h|h
 ·rw[h];exact S2.zero_le _
 ·rw[h.1];exact S2.le_refl _
theorem zhi (x y:Nat):Fin2 (onG A n x y):=by
 rcases znL A n x y with h|h
 ·rw[h];exact zhe
 ·rw[h.1];exact h.2
theorem zDx {x:Nat}(hx:x<n):Fin2 (el S2 (onG A n) n x x):=by
 by_cases h:Fin2 (el S2 A n x x)
 ·exact znw (zxA S2 (fun a b _ _=>ztd a b) hx hx) h
 ·have hz:∀ y,onG A n x y=S2.zero:=fun y=>by unfold onG;rw[if_neg (fun k=>h k.2.1)]
  rw[zbF,hz x,zgE S2 (fun m _=>by rw[hz m,S2.zero_mul]),S2.add_zero];exact zhe
theorem zpm:∀ t,t≤n→∀ x y,x<n→y<n→Fin2 (el S2 (onG A n) t x y)
 | 0,_,x,y,_,_=>zhi x y
 | t+1,ht,x,y,hx,hy=>by
  have ih:=zpm t (by omega)
  have h1:Fin2 (el S2 (onG A n) (t+1) t t):=by
   have hg:=zok S2 (onG A n) t t (n - (t+1)) (t+1);rw[show t+1+(n - (t+1))=n by omega] at hg;exact znw hg (zDx (by omega))
  rw[zjJ] at h1;obtain⟨_,_,h2,_⟩:=zsB h1;exact zgL.2 ⟨ih x y hx hy,zeW (zeW (ih x t hx (by omega)) h2) (ih t y (by omega) hy)⟩
def top2:El 2:=⟨.inl true,rfl⟩
theorem zFD (u:El 2):S2.le u top2:=zbN u.1
theorem zGK {i j:Nat}(hi:i<n)(hj:j<n)(h:Fin2 (el S2 A n i j)):el S2 A n i j=el S2 (onG A n) n i j:=by
 refine S2.le_anti _ _ ?_ (zxA S2 (fun a b _ _=>ztd a b) hi hj);have hb:=fun(m:Nat)=>Classical.propDecidable (m=i∨el S2 A n i m≠S2.zero);have key:=ztc S2 A (fun m => @ite _ (m=i∨el S2 A n i m≠S2.zero) (hb m) (el S2 (onG A n) n m j) top2) (n:=n) (j:=j) (fun m hm => ?_) hi
 ·rw[if_pos (.inl rfl)] at key
  exact key
 ·by_cases hr:m=i∨el S2 A n i m≠S2.zero
  ·rw[if_pos hr]
   have hF:Fin2 (el S2 A n m j):=by
    rcases hr with e|e
    ·rw[e];exact h
    ·exact ziX (zfe S2 A n i m e) hm h
   rw[zbF S2 (onG A n) n m j];refine S2.add_mono _ _ _ _ ?_ (zgF S2 (fun l hl => ?_))
   ·by_cases hz:A m j=S2.zero
    ·rw[hz];exact S2.zero_le _
    ·have g1:Fin2 (el S2 A n m m):=ziY hm (zie S2 zim A (.one hz)) hF
     have g2:Fin2 (el S2 A n j j):=ziX (.one hz) hj hF;rw[zvS (zfG hF).1 g1 g2];exact S2.le_refl _
   ·by_cases hz:A m l=S2.zero
    ·rw[hz,S2.zero_mul];exact S2.zero_le _
    ·have hl2:l=i∨el S2 A n i l≠S2.zero:=by
      rcases hr with e|e
      ·rw[e] at hz;exact .inr (zie S2 zim A (.one hz))
      ·exact .inr (zie S2 zim A ((zfe S2 A n i m e).trans hm (.one hz)))
     rw[if_pos hl2]
     by_cases hy:el S2 (onG A n) n l j=S2.zero
     ·rw[hy,S2.mul_zero];exact S2.zero_le _
     ·have h1:el S2 A n l j≠S2.zero:=fun e=>hy (S2.zero_of_le (e ▸ zxA S2 (fun a b _ _=>ztd (A:=A) (n:=n) a b) hl hj))
      have h2:el S2 A n m j≠S2.zero:=zie S2 zim A (.more hl hz (zfe S2 A n l j h1));have h3:=(zfG hF).2 l hl;have h4:Fin2 (el S2 A n l j):=zep h3 hz;rw[zvS (zfU h3 h1) (ziY hm h2 hF) (ziY hl h1 h4)];exact S2.le_refl _
  ·rw[if_neg hr];exact zFD _
theorem zFE {c j:Nat}(hc:c<n)(hj:j<n):val (onG A n c j)=rs n (fun y=>val (el S2 (onG A n) n y j) * idV (fun x y=>val (onG A n x y)) y c):=by
 have hf:=fun y (hy:y<n)=>zpm (A:=A) n (Nat.le_refl n) y j hy hj;have e1:=congrArg val (zbF S2 (onG A n) n c j)
 rw[zgM (zhi c j) (zin.2 (fun m hm=>zeW (zhi c m) (hf m hm))),zsA (fun m hm=>zeW (zhi c m) (hf m hm)),
  zaL (g:=fun m=>val (onG A n c m) * val (el S2 (onG A n) n m j)) (fun m hm=>zgN (zhi c m) (hf m hm))] at e1
 have e2:rs n (fun y=>val (el S2 (onG A n) n y j) * idV (fun x y=>val (onG A n x y)) y c)=rs n (fun y=>val (el S2 (onG A n) n y j) * (if c=y then 1 else 0) + -1 * (val (onG A n c y) * val (el S2 (onG A n) n y j))):=zaL (fun y _=>by unfold idV;grind);rw[e2,zfo,zlk (fun y=>val (el S2 (onG A n) n y j)) hc,zcG]
 grind
theorem zGL {d Q:Nat→Rat}(hd:∀ x,x<n→1≤d x)(hdI:∀ x,x<n→isI (d x))(hAI:∀ x y,x<n→y<n→Fin2 (A x y)→isI (d x * val (A x y)))
  (hQ:∀ x,x<n→2 * (d x * (1+rs n (fun m=>val (A x m))))≤Q x) :
  ∃ M:Rat,isI M∧M≠0∧ab M≤rp n Q∧∀ i j,i<n→j<n→Fin2 (el S2 A n i j)→isI (val (el S2 A n i j) * M)∧ab (val (el S2 A n i j) * M)≤rp n Q:=by
 have hsum:∀ x,0≤rs n (fun m=>val (A x m)):=fun x=>zcz (fun m _=>zbB _)
 have hvle:∀ x y,val (onG A n x y)≤val (A x y):=fun x y=>by
  rcases znL A n x y with h|h
  ·rw[h,zda];exact zbB _
  ·rw[h.1];exact Rat.le_refl
 have hBI:∀ x y,x<n→y<n→isI (d x * val (onG A n x y)):=fun x y hx hy=>by
  rcases znL A n x y with h|h
  ·rw[h,zda];exact zbV (hdI x hx) ⟨0,rfl⟩
  ·rw[h.1];exact hAI x y hx hy h.2
 have hV:∀ y c,y<n→c<n→isI (d c * idV (fun x y=>val (onG A n x y)) y c):=fun y c hy hc=>by
  have e:d c * idV (fun x y=>val (onG A n x y)) y c=d c * (if c=y then 1 else 0) + -(d c * val (onG A n c y)):=by unfold idV;grind
  rw[e];exact zik (zbV (hdI c hc) (by split;exact⟨1,rfl⟩;exact⟨0,rfl⟩)) (zvL (hBI c y hc hy))
 have hrow:∀ c,c<n→rs n (fun y=>ab (d c * idV (fun x y=>val (onG A n x y)) y c))≤d c * (1+rs n (fun m=>val (A c m))):=fun c hc=>by
  have h1:=hd c hc
  have hle:rs n (fun y=>ab (d c * idV (fun x y=>val (onG A n x y)) y c))≤rs n (fun y=>d c * (1 * (if c=y then 1 else 0)+val (A c y))):=zhF (fun y _=>by
   rw[zil,zeH (show 0≤d c by grind)];refine Rat.mul_le_mul_of_nonneg_left ?_ (by grind);have h2:=zbB (onG A n c y);have h3:=hvle c y;unfold idV;refine zxd ?_ ?_ <;> split <;> grind)
  rwa [zcG,zfo,zlk (fun _=>1) hc] at hle
 have hle2:∀ c,c<n→d c * (1+rs n (fun m=>val (A c m)))≤Q c:=fun c hc=>by
  have h1:=hQ c hc;have h2:=Rat.mul_nonneg (show 0≤d c by have:=hd c hc;grind) (show 0≤1+rs n (fun m=>val (A c m)) by have:=hsum c;grind)
  grind
 have hne:=zxf n (onG A n) (fun t x y ht hx hy=>zpm t ht x y hx hy);have hsc:=zmi n d (idV (fun x y=>val (onG A n x y)));have hD:=zhH (f:=d) (n:=n) hd;refine⟨dt n (fun y c=>d c * idV (fun x y=>val (onG A n x y)) y c),zkm hV,?_,?_,fun i j hi hj hf => ?_⟩
 ·rw[hsc]
  intro e;rcases Rat.mul_eq_zero.1 e with e|e
  ·grind
  ·exact hne e
 ·exact Rat.le_trans (zhc _ _) (zhG (fun c _=>zcz (fun y _=>zbO _)) (fun c hc=>Rat.le_trans (hrow c hc) (hle2 c hc)))
 ·obtain⟨k,rfl⟩:∃ k,n=k+1:=⟨n - 1,by omega⟩
  have hcr:=ztb hi (fun y c=>d c * idV (fun x y=>val (onG A (k+1) x y)) y c) (fun y=>val (el S2 (onG A (k+1)) (k+1) y j)) (fun c=>d c * val (onG A (k+1) c j)) (fun c hc=>by
   rw[zFE hc hj,← zcG];exact zaL (fun y _=>by grind))
  rw[zGK hi hj hf,← hcr];refine⟨zkm (fun y c hy hc => ?_),Rat.le_trans (zhc _ _) (zhG (fun c _=>zcz (fun y _=>zbO _)) (fun c hc => ?_))⟩
  ·unfold up
   by_cases e:y=i
   ·rw[if_pos e];exact hBI c j hc hj
   ·rw[if_neg e];exact hV y c hy hc
  ·
   have h1:=hrow c hc;have h2:=hQ c hc;have h0:=hd c hc;have h5:=zrn (f:=fun m=>val (A c m)) (n:=k+1) (j:=j) (fun m _=>zbB _) hj;have h3:=hvle c j;have h6:=Rat.mul_le_mul_of_nonneg_left (Rat.le_trans h3 h5) (show 0≤d c by grind)
   have hle:rs (k+1) (fun y=>ab (up (fun y c=>d c * idV (fun x y=>val (onG A (k+1) x y)) y c) i (fun c=>d c * val (onG A (k+1) c j)) y c))≤rs (k+1) (fun y=>ab (d c * idV (fun x y=>val (onG A (k+1) x y)) y c)+(d c * val (onG A (k+1) c j)) * (if i=y then 1 else 0)):=zhF (fun y _=>by
    have h7:=zbO (d c * idV (fun x y=>val (onG A (k+1) x y)) y c);have h8:0≤d c * val (onG A (k+1) c j):=Rat.mul_nonneg (by grind) (zbB _);unfold up
    by_cases e:y=i
    ·rw[if_pos e,if_pos e.symm,zeH h8];grind
    ·rw[if_neg e,if_neg (Ne.symm e)];grind)
   rw[zfo,zlk (fun _=>d c * val (onG A (k+1) c j)) hi] at hle
   grind
end
open Go.RowKit
variable {α:Type}
structure Pick (S:Sr α)(I:α→Prop):Prop where
 pick:∀ u v,S.add u v=u∨S.add u v=v
 inf:∀ u v,I u→v≠S.zero→I (S.mul u v)
 nz:∀ u v,u≠S.zero→v≠S.zero→S.mul u v≠S.zero
 star:∀ u,S.star u=S.one∨I (S.star u)
 le_inf:∀ u v,I u→S.le u v→I v
 cancel:∀ x c,¬ I x→x≠S.zero→S.le (S.mul x c) x→S.le c S.one
theorem zhj (S:Sr α)(A:Nat→Nat→α)(l:List Nat)(m:Nat):∀ (p:List Nat) (i:Nat),zbx S A (i::(p++m::l))=S.mul (zbx S A (i::(p++[m]))) (zbx S A (m::l))
 | [],i=>by
  show S.mul (A i m) (zbx S A (m::l))=S.mul (S.mul (A i m) S.one) (zbx S A (m::l));rw[S.mul_one]
 | x::p,i=>by
  show S.mul (A i x) (zbx S A (x::(p++m::l)))=S.mul (S.mul (A i x) (zbx S A (x::(p++[m])))) (zbx S A (m::l));rw[zhj S A l m p x,S.mul_assoc]
theorem zks (S:Sr α)(A:Nat→Nat→α){n j:Nat}:∀ (ms:List Nat) (i:Nat),(∀ m∈ms,m<n)→S.le (zbx S A (i::(ms++[j]))) (el S A n i j)
 | [],i,_=>by
  show S.le (S.mul (A i j) S.one) _;rw[S.mul_one,zbF];exact S.le_add _ _
 | m::ms,i,h=>by
  have ih:=zks S A (n:=n) (j:=j) ms m (fun x hx=>h x (List.mem_cons_of_mem _ hx));show S.le (S.mul (A i m) (zbx S A (m::(ms++[j])))) _;rw[zbF S A n i j];exact S.le_trans _ _ _ (S.mul_mono _ _ (A i m) ih) (S.le_trans _ _ _ (zwn S (fun l=>S.mul (A i l) (el S A n l j)) (h m (List.mem_cons_self ..))) (S.le_add2 _ _))
section
variable {S:Sr α} {I:α→Prop} {A:Nat→Nat→α}
theorem Pick.idem (P:Pick S I)(u:α):S.add u u=u:=by rcases P.pick u u with h|h <;> exact h
theorem Pick.inf2 (P:Pick S I){u v:α}(hv:I v)(hu:u≠S.zero):I (S.mul u v):=by rw[S.mul_comm];exact P.inf v u hv hu
theorem Pick.way (P:Pick S I):∀ k i j,el S A k i j=S.zero∨I (el S A k i j)∨∃ ms:List Nat,(∀ m∈ms,m<k)∧zbx S A (i::(ms++[j]))=el S A k i j
 | 0,i,j => .inr (.inr ⟨[],fun m hm=>by (cases hm),S.mul_one _⟩)
 | k+1,i,j=>by
  show S.add (el S A k i j) (S.mul (S.mul (el S A k i k) (S.star (el S A k k k))) (el S A k k j))=_∨I (S.add (el S A k i j) (S.mul (S.mul (el S A k i k) (S.star (el S A k k k))) (el S A k k j)))∨∃ ms:List Nat,(∀ m∈ms,m<k+1)∧zbx S A (i::(ms++[j]))=S.add (el S A k i j) (S.mul (S.mul (el S A k i k) (S.star (el S A k k k))) (el S A k k j));rcases P.pick (el S A k i j) (S.mul (S.mul (el S A k i k) (S.star (el S A k k k))) (el S A k k j)) with h|h <;> rw[h]
  ·rcases P.way k i j with h1|h1|⟨ms,h1,h2⟩
   ·exact .inl h1
   ·exact .inr (.inl h1)
   ·exact .inr (.inr ⟨ms,fun m hm=>by have:=h1 m hm;omega,h2⟩)
  ·rcases P.way k i k with h1|h1|⟨p,h1,h2⟩
   ·rw[h1,S.zero_mul,S.zero_mul];exact .inl rfl
   ·by_cases h3:el S A k k j=S.zero
    ·rw[h3,S.mul_zero];exact .inl rfl
    ·refine .inr (.inl (P.inf _ _ (P.inf _ _ h1 ?_) h3))
     intro e;have:=S.star_law (el S A k k k);rw[e] at this;have h4:=S.zero_left this;exact h3 (by rw[← S.mul_one (el S A k k j),h4,S.mul_zero])
   ·rcases P.way k k j with g1|g1|⟨q,g1,g2⟩
    ·rw[g1,S.mul_zero];exact .inl rfl
    ·by_cases h3:S.mul (el S A k i k) (S.star (el S A k k k))=S.zero
     ·rw[h3,S.zero_mul];exact .inl rfl
     ·exact .inr (.inl (P.inf2 g1 h3))
    ·rcases P.star (el S A k k k) with s|s
     ·rw[s,S.mul_one]
      refine .inr (.inr ⟨p++k::q,fun m hm => ?_,?_⟩)
      ·rcases List.mem_append.1 hm with hm|hm
       ·have:=h1 m hm;omega
       ·rcases List.mem_cons.1 hm with rfl|hm
        ·omega
        ·have:=g1 m hm;omega
      ·rw[List.append_assoc,List.cons_append,zhj,h2,g2]
     ·by_cases h3:el S A k i k=S.zero
      ·rw[h3,S.zero_mul,S.zero_mul];exact .inl rfl
      ·by_cases h4:el S A k k j=S.zero
       ·rw[h4,S.mul_zero];exact .inl rfl
       ·exact .inr (.inl (P.inf _ _ (P.inf2 s h3) h4))
theorem Pick.cat (P:Pick S I){n m:Nat}(hm:m<n){i:Nat}(hi:i<n)(j:Nat):S.le (S.mul (el S A n i m) (el S A n m j)) (el S A n i j):=by
 have hl:=zfx S A (fun x=>S.mul (A x m) (el S A n m j)) (fun x=>el S A n x j) (n:=n) (fun x hx=>by
  have h1:=S.add_mono _ _ _ _ (zwn S (fun l=>S.mul (A x l) (el S A n l j)) hm) (S.le_refl (sm S n (fun l=>S.mul (A x l) (el S A n l j))));rw[P.idem] at h1;refine S.le_trans _ _ _ h1 ?_;rw[zbF S A n x j];exact S.le_add2 _ _) n (Nat.le_refl n) i hi
 rw[zal S (g:=fun l=>S.mul (S.mul (el S A n i l) (A l m)) (el S A n m j)) (fun l hl=>by rw[if_pos hl,S.mul_assoc]),← zjG,← S.add_mul,← zeJ S A n i m] at hl;exact hl
theorem zte:∀ {ms:List Nat},¬ ms.Nodup→∃ p l q r,ms=p++l::(q++l::r)
 | [],h=>absurd List.nodup_nil h
 | m::t,h=>by
  by_cases hm:m∈t
  ·obtain⟨q,r,e⟩:=List.append_of_mem hm
   exact⟨[],m,q,r,by rw[e];rfl⟩
  ·obtain⟨p,l,q,r,e⟩:=zte (ms:=t) (fun hn=>h (List.nodup_cons.2 ⟨hm,hn⟩))
   exact⟨m::p,l,q,r,by rw[e];rfl⟩
theorem Pick.simple (P:Pick S I){n i j:Nat}(hi:i<n)(h0:el S A n i j≠S.zero)(hI:¬ I (el S A n i j)):∀ (t:Nat) (ms:List Nat),ms.length≤t→(∀ m∈ms,m<n)→zbx S A (i::(ms++[j]))=el S A n i j →
  ∃ ms':List Nat,ms'.Nodup∧(∀ m∈ms',m<n)∧zbx S A (i::(ms'++[j]))=el S A n i j
 | 0,ms,hl,h,e=>⟨ms,by have:ms=[]:=List.length_eq_zero_iff.1 (by omega);rw[this];exact List.nodup_nil,h,e⟩
 | t+1,ms,hl,h,e=>by
  by_cases hn:ms.Nodup
  ·exact⟨ms,hn,h,e⟩
  ·obtain⟨p,l,q,r,rfl⟩:=zte hn
   have hl1:l<n:=h l (by simp)
   have e1:zbx S A (i::(p++l::(q++l::r)++[j]))=S.mul (zbx S A (i::(p++[l]))) (S.mul (zbx S A (l::(q++[l]))) (zbx S A (l::(r++[j])))):=by
    have s1:p++l::(q++l::r)++[j]=p++l::(q++l::(r++[j])):=by simp
    rw[s1,zhj S A (q++l::(r++[j])) l p i,zhj S A (r++[j]) l q l]
   have e2:zbx S A (i::(p++l::r++[j]))=S.mul (zbx S A (i::(p++[l]))) (zbx S A (l::(r++[j]))):=by
    rw[List.append_assoc,List.cons_append,zhj]
   have wa:=zks S A (n:=n) (j:=l) p i (fun m hm=>h m (by simp[hm]));have wc:=zks S A (n:=n) (j:=l) q l (fun m hm=>h m (by simp[hm]));have wb:=zks S A (n:=n) (j:=j) r l (fun m hm=>h m (by simp[hm]))
   have wn:=zks S A (n:=n) (j:=j) (p++l::r) i (fun m hm=>h m (by
    rcases List.mem_append.1 hm with hm|hm
    ·simp[hm]
    ·rcases List.mem_cons.1 hm with rfl|hm
     ·simp
     ·simp[hm]))
   rw[e2] at wn;rw[e1] at e;generalize zbx S A (i::(p++[l]))=a at *;generalize zbx S A (l::(q++[l]))=c at *;generalize zbx S A (l::(r++[j]))=b at *
   have hx:el S A n i l≠S.zero:=fun z=>h0 (by
    rw[z] at wa;rw[← e,S.zero_of_le wa,S.zero_mul])
   have hy:el S A n l j≠S.zero:=fun z=>h0 (by
    rw[z] at wb;rw[← e,S.zero_of_le wb,S.mul_zero,S.mul_zero])
   have hxI:¬ I (el S A n i l):=fun z=>hI (P.le_inf _ _ (P.inf _ _ z hy) (P.cat hl1 hi j));have hc:=P.cancel _ c hxI hx (S.le_trans _ _ _ (S.mul_mono _ _ _ wc) (P.cat hl1 hi l))
   have h1:S.le (S.mul a (S.mul c b)) (S.mul a b):=S.mul_mono _ _ _ (by
    have:=S.mul_mono2 _ _ b hc
    rwa [S.one_mul] at this)
   rw[e] at h1
   refine P.simple hi h0 hI t (p++l::r) ?_ (fun m hm=>h m (by
    rcases List.mem_append.1 hm with hm|hm
    ·simp[hm]
    ·rcases List.mem_cons.1 hm with rfl|hm
     ·simp
     ·simp[hm])) (e2.trans (S.le_anti _ _ wn h1))
   rw[List.length_append,List.length_cons,List.length_append,List.length_cons] at hl;rw[List.length_append,List.length_cons]
   omega
theorem zAD:∀ {n:Nat} {o:List Nat},o.Nodup→(∀ x∈o,x<n)→o.length≤n
 | n,o,h,hb=>by
  have h2:=List.Nodup.length_le_of_subset (l₁:=o) (l₂:=List.range n) h (fun x hx=>List.mem_range.2 (hb x hx))
  rwa [List.length_range] at h2
theorem Pick.few (P:Pick S I){n i j:Nat}(hi:i<n):el S A n i j=S.zero∨I (el S A n i j)∨∃ ms:List Nat,ms.length≤n∧(∀ m∈ms,m<n)∧zbx S A (i::(ms++[j]))=el S A n i j:=by
 rcases P.way (A:=A) n i j with h|h|⟨ms,h1,h2⟩
 ·exact .inl h
 ·exact .inr (.inl h)
 ·by_cases h0:el S A n i j=S.zero
  ·exact .inl h0
  ·by_cases hI:I (el S A n i j)
   ·exact .inr (.inl hI)
   ·obtain⟨o,g1,g2,g3⟩:=P.simple hi h0 hI ms.length ms (Nat.le_refl _) h1 h2
    exact .inr (.inr ⟨o,zAD g1 g2,g2,g3⟩)
end
theorem zHk (hk:zad 1):Pick (srE 1 hk) (fun v=>v.1 = .inl false) where
 pick u v:=by
  rcases zvv u.1 v.1 with h|h
  ·exact .inl (Subtype.ext h)
  ·exact .inr (Subtype.ext h)
 inf u v hu hv:=by
  show zbE u.1 v.1=_;rw[show u.1 = .inl false from hu];have h:v.1 ≠ .inl true:=fun e=>hv (Subtype.ext e);rcases hv2:v.1 with(_|_)|x
  ·rfl
  ·exact absurd hv2 h
  ·rfl
 nz u v hu hv e:=by
  have h1:u.1 ≠ .inl true:=fun e=>hu (Subtype.ext e);have h2:v.1 ≠ .inl true:=fun e=>hv (Subtype.ext e);have h3:zbE u.1 v.1 = .inl true:=congrArg Subtype.val e;rcases hu2:u.1 with(_|_)|x <;> rcases hv2:v.1 with(_|_)|y <;> rw[hu2,hv2] at h3 <;> first|exact h1 hu2|exact h2 hv2|cases h3
 star u:=by
  by_cases h:cmpE u.1 (.inr 0)<0
  ·exact .inr (if_pos h)
  ·exact .inl (Subtype.ext (if_neg h))
 le_inf u v hu h:=by
  have h2:leE v.1 u.1:=h;rw[show u.1 = .inl false from hu] at h2;rcases hv:v.1 with(_|_)|x
  ·rfl
  ·rw[hv] at h2;exact absurd h2 zhS
  ·rw[hv] at h2;exact absurd h2 (zex x)
 cancel x c hI h0 h:=by
  have h2:leE x.1 (zbE x.1 c.1):=h;show leE (.inr 0) c.1;rcases hx:x.1 with(_|_)|q
  ·exact absurd hx hI
  ·exact absurd (Subtype.ext hx) h0
  ·rcases hc:c.1 with(_|_)|r
   ·rw[hx,hc] at h2;exact absurd h2 (zex q)
   ·exact zbN _
   ·rw[hx,hc] at h2
    have h3:q≤q+r:=(zbi _ _).1 h2;exact(zbi _ _).2 (by grind)
theorem zeY (v:El 3):v.1 = .inl true∨∃ x,v.1 = .inr x∧0≤x:=by
 have h:=v.2;rw[← zcf] at h;rcases zat v.1 h with h|⟨x,h,hx⟩
 ·exact .inl h
 ·exact .inr ⟨x,h,hx⟩
theorem zHl (hk:zad 3):Pick (srE 3 hk) (fun v=>v.1 = .inl true) where
 pick u v:=by
  rcases zoz u.1 v.1 with h|h
  ·exact .inl (Subtype.ext h)
  ·exact .inr (Subtype.ext h)
 inf u v hu hv:=by
  show zaA u.1 v.1=_;rw[show u.1 = .inl true from hu];rcases zeY v with h|⟨x,h,hx⟩ <;> rw[h]
  ·exact zbf
  ·exact zaB (fun e=>hv (Subtype.ext (by rw[h,e];rfl)))
 nz u v hu hv e:=by
  have h3:zaA u.1 v.1 = .inr 0:=congrArg Subtype.val e;rcases zeY u with h|⟨x,h,hx⟩ <;> rcases zeY v with g|⟨y,g,hy⟩ <;> rw[h,g] at h3
  ·rw[zbf] at h3;cases h3
  ·rw[zaB (fun e=>hv (Subtype.ext (by rw[g,e];rfl)))] at h3;cases h3
  ·rw[zaE (fun e=>hu (Subtype.ext (by rw[h,e];rfl)))] at h3;cases h3
  ·rw[zaV] at h3
   have h4:x * y=0:=Sum.inr.inj h3;rcases Rat.mul_eq_zero.1 h4 with e|e
   ·exact hu (Subtype.ext (by rw[h,e];rfl))
   ·exact hv (Subtype.ext (by rw[g,e];rfl))
 star u:=by
  by_cases h:0<cmpE u.1 (.inr 1)
  ·exact .inr (if_pos h)
  ·exact .inl (Subtype.ext (if_neg h))
 le_inf u v hu h:=by
  have h2:leE u.1 v.1:=h;rw[show u.1 = .inl true from hu] at h2;rcases zeY v with g|⟨y,g,hy⟩
  ·exact g
  ·rw[g] at h2;exact absurd h2 (zbw y)
 cancel x c hI h0 h:=by
  have h2:leE (zaA x.1 c.1) x.1:=h;show leE c.1 (.inr 1);rcases zeY x with hx|⟨q,hx,hq⟩
  ·exact absurd hx hI
  ·have hq0:q≠0:=fun e=>h0 (Subtype.ext (by rw[hx,e];rfl))
   rcases zeY c with hc|⟨r,hc,hr⟩
   ·rw[hx,hc,zaE hq0] at h2;exact absurd h2 (zbw q)
   ·rw[hc]
    rw[hx,hc,zaV] at h2;have h3:q * r≤q:=(zbi _ _).1 h2;refine(zbi _ _).2 (Rat.not_lt.1 (fun hlt => ?_))
    have hqp:0<q:=by
     rcases Rat.le_iff_lt_or_eq.1 hq with h|h
     ·exact h
     ·exact absurd h.symm hq0
    have:=zlL hlt hqp;rw[Rat.mul_comm] at this;exact absurd h3 (Rat.not_le.2 this)
theorem zqj {k:Int}{hk:zad k}{A:Nat→Nat→El k}{n w:Nat}(hw:1≤w)(hA:∀ x y,x<n→y<n→zaz w (A x y).1){j:Nat}(hj:j<n):∀ (ms:List Nat) (i:Nat),i<n→(∀ m∈ms,m<n)→zaz ((w+1) * (ms.length+1)+1) (zbx (srE k hk) A (i::(ms++[j]))).1
 | [],i,hi,_=>(zdD k hw (hA i j hi hj) (zgw k)).mono (by rw[List.length_nil];omega)
 | m::ms,i,hi,h=>by
  have hm:=h m (List.mem_cons_self ..);have ih:=zqj (hk:=hk) hw hA hj ms m hm (fun x hx=>h x (List.mem_cons_of_mem _ hx));have h1:=zdD k hw (hA i m hi hm) ih;refine zaz.mono h1 ?_;rw[List.length_cons];have:(w+1) * (ms.length+1+1)=(w+1) * (ms.length+1)+(w+1):=Nat.mul_succ _ _
  omega
theorem zDy {k:Int}(hk:zad k)(h:k=1∨k=3){A:Nat→Nat→El k}{n w:Nat}(hw:1≤w)(hA:∀ x y,x<n→y<n→zaz w (A x y).1){i j:Nat}(hi:i<n)(hj:j<n):zaz ((w+1) * (n+1)+1) (el (srE k hk) A n i j).1:=by
 have key:∀ I,Pick (srE k hk) I→(∀ v,I v→zaz 1 v.1)→zaz ((w+1) * (n+1)+1) (el (srE k hk) A n i j).1:=fun I P hI=>by
  rcases P.few (A:=A) (n:=n) (i:=i) (j:=j) hi with e|e|⟨ms,h1,h2,e⟩
  ·rw[e];exact(zcW k).mono (by omega)
  ·exact(hI _ e).mono (by omega)
  ·rw[← e]
   refine(zqj (hk:=hk) hw hA hj ms i hi h2).mono ?_;have:=Nat.mul_le_mul_left (w+1) (show ms.length+1≤n+1 by omega)
   omega
 rcases h with rfl|rfl
 ·exact key _ (zHk hk) (fun v hv=>by rw[show v.1 = .inl false from hv];trivial)
 ·exact key _ (zHl hk) (fun v hv=>by rw[show v.1 = .inl true from hv];trivial)
end Go.Proofs.YtaogepcaoogpgaaGreatDoor
