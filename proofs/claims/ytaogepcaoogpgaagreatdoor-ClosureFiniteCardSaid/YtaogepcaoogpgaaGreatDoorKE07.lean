/- WE09 -/
import Derived.Test.YtaogepcaoogpgaaGreatDoorKE06
set_option linter.unusedVariables false
set_option linter.unusedSimpArgs false
set_option maxRecDepth 100000
set_option maxHeartbeats 16000000
namespace Go.Proofs.YtaogepcaoogpgaaGreatDoor
open Go.RowKit
theorem zGj (p:Addr)(x E:Int)(older:List PanicEntry)(w:World)(hc:w.cell? p=some (.int .i64 x))(hz:w.frozen? p=false) :
  CallsD Tryz.prog 229 #[.pointer (some p)] (.panicking ({ v := .iface 24 (.int .i64 E),recovered:=false }::older)) w fun e u' w' =>
   e = .returned (.tuple #[])∧u' = .panicking ({ v := .iface 24 (.int .i64 E),recovered:=true }::older)∧w'=w.setCell p (.int .i64 E):=by
 refine callsD_of_wpS Tryz.func229 rfl fun c₀ cs hu => ?_
 apply wpS_seq
 apply wpS_region
 simp[wpOpsS,go_sem,recoverD,hu,Tryz.ntmps229,Exit.thenS];clear hu;obtain⟨fs,hfs⟩:∃ fs:List Frame,fs = { c₀ with mode := .panicking ({ v := .iface 24 (.int .i64 E),recovered:=true }::older) }::cs:=⟨_,rfl⟩;have HFS:=zHd hfs;rw[← hfs];clear hfs;have h1:∀ w:World,(binOp .neq 20 (.iface 24 (.int .i64 E)) .nilIface).run Tryz.prog w = .ok (.bool true) w:=fun w=>run_neq_held_nil _ _ _ _ (by kernel_rfl);have h2:∀ w:World,(Instr.typeAssert (.iface 24 (.int .i64 E)) 20 24 false).run Tryz.prog w = .ok (.int .i64 E) w:=fun w=>by kernel_rfl
 refine wpS_of_wp ?_;go_wp2_with fail;clear h1 h2 hc hz;rw[HFS.out];exact⟨rfl,_,rfl,.tuple #[],by simp[results,Tryz.results229],rfl,rfl,rfl⟩
theorem idle (p:Addr)(w:World) :
  CallsD Tryz.prog 229 #[.pointer (some p)] .returning w fun e u' w'=>e = .returned (.tuple #[])∧u' = .returning∧w'=w:=by
 refine callsD_of_wpS Tryz.func229 rfl fun c₀ cs hu => ?_
 apply wpS_seq
 apply wpS_region
 simp[wpOpsS,go_sem,recoverD,hu,Tryz.ntmps229,Exit.thenS];refine wpS_of_wp ?_;go_wp2;cases c₀
 simp_all [bodyPostS,results,Tryz.results229]
def zeh (E:Int)(w:World)(e:Ending)(w':World):Prop:=e = .panicked [{ v := .iface 24 (.int .i64 E),recovered:=false }]∧w.grownBy w' none
def Enters (F:Nat):Prop:=∀ (args:Array Value) (w:World),(callFunc F args).run Tryz.prog w = .ok (.enter F args) w
theorem zau (w:World)(o:Obj):(w.alloc o).heap[w.heap.size]? = some o:=by show(w.heap.push o)[w.heap.size]? = some o;simp
theorem zCf (S:ByteArray)(w w2:World)(tmps:Array Value)(ht:tmps=#[tmps.getD 0 undef,tmps.getD 1 undef,.string S,.pointer (some ⟨w.heap.size,0,none⟩),tmps.getD 4 undef,tmps.getD 5 undef,tmps.getD 6 undef])
  (hb:w2.heap[w.heap.size]? = some (.cells #[.int .i64 0] 24 (0,0))) (hg:w.grownBy w2 none) :
  Leaves Tryz.prog Tryz.f197 tmps (zab (.tuple #[.string S,.int .i64 0]) w) [{ target := .fn (.func 229) #[.pointer (some ⟨w.heap.size,0,none⟩)],args:=#[] }] .returning w2:=by
 have hcell:=cell_of_one hb;refine leaves_cons (f:=229) (args:=#[.pointer (some ⟨w.heap.size,0,none⟩)]) (by simp) (by simp[go_sem]) ?_;refine(idle ⟨w.heap.size,0,none⟩ _).mono ?_;rintro e u' w'' ⟨rfl,rfl,rfl⟩;rw[ht];refine⟨.tuple #[.string S,.int .i64 0],by simp[results,Tryz.results197,go_sem,hcell],rfl,hg⟩
theorem zCg (E:Int)(w w2:World)(tmps:Array Value)(ht:tmps=#[tmps.getD 0 undef,tmps.getD 1 undef,.string ⟨#[]⟩,.pointer (some ⟨w.heap.size,0,none⟩),tmps.getD 4 undef,tmps.getD 5 undef,tmps.getD 6 undef])
  (hb:w2.heap[w.heap.size]? = some (.cells #[.int .i64 0] 24 (0,0))) (hg:w.grownBy w2 none) :
  Leaves Tryz.prog Tryz.f197 tmps (zab (.tuple #[.string ⟨#[]⟩,.int .i64 E]) w) [{ target := .fn (.func 229) #[.pointer (some ⟨w.heap.size,0,none⟩)],args:=#[] }] (.panicking [{ v := .iface 24 (.int .i64 E),recovered:=false }]) w2:=by
 have hcell:=cell_of_one (one_setCell (u := .int .i64 E) hb);refine leaves_cons (f:=229) (args:=#[.pointer (some ⟨w.heap.size,0,none⟩)]) (by simp) (by simp[go_sem]) ?_;refine(zGj ⟨w.heap.size,0,none⟩ 0 E [] _ (cell_of_one hb) (free_of_one hb)).mono ?_;rintro e u' w'' ⟨rfl,rfl,rfl⟩;rw[ht];refine⟨.tuple #[.string ⟨#[]⟩,.int .i64 E],by simp[results,Tryz.results197,go_sem,hcell],rfl,?_⟩;exact zai hg (zac w2 ⟨w.heap.size,0,none⟩ _) (Nat.le_refl _)
theorem alloc_old {w w2:World}{o:Obj}(hg:(w.alloc o).grownBy w2 none):w2.heap[w.heap.size]? = some o :=
 (hg.block _ (by simp) (by simp)).trans (zau w o)
theorem zmU (F:Nat)(he:Enters F)(first cap:Array Value)(S:ByteArray)(w:World)
  (h:Calls Tryz.prog F (first++cap) (w.alloc (.cells #[.int .i64 0] 24)) (zab (.string S) (w.alloc (.cells #[.int .i64 0] 24)))) :
  Calls Tryz.prog 197 #[.func (.func F) first cap] w (zab (.tuple #[.string S,.int .i64 0]) w):=by
 have hmf:∀ (fn:Fn) (first cap:Array Value) (w:World),(Instr.makeFunc fn first cap).run Tryz.prog w = .ok (.func fn first cap) w:=fun _ _ _ _=>rfl;have H:=zHd h;have HE:=zHd he;clear h he
 go_enter_defers Tryz.func197,Tryz.ntmps197
 go_wp2_with fail;rw[HE.out];refine H.out.mono ?_;rintro e w2 ⟨rfl,hg⟩;have hb:=alloc_old hg;have hcell:=cell_of_one hb;have hfree:=free_of_one hb;have HB:=zHd hb;have HG:=zHd hg;clear hb hg H HE;go_wp2;exact zCf S w _ _ rfl (one_setCell HB.out) (zai (zaa (zGA _ _ none) HG.out) (zac w2 ⟨w.heap.size,0,none⟩ _) (Nat.le_refl _))
theorem zmV (F:Nat)(he:Enters F)(first cap:Array Value)(E:Int)(w:World)
  (h:Calls Tryz.prog F (first++cap) (w.alloc (.cells #[.int .i64 0] 24)) (zeh E (w.alloc (.cells #[.int .i64 0] 24)))) :
  Calls Tryz.prog 197 #[.func (.func F) first cap] w (zab (.tuple #[.string ⟨#[]⟩,.int .i64 E]) w):=by
 have hmf:∀ (fn:Fn) (first cap:Array Value) (w:World),(Instr.makeFunc fn first cap).run Tryz.prog w = .ok (.func fn first cap) w:=fun _ _ _ _=>rfl;have H:=zHd h;have HE:=zHd he;clear h he
 go_enter_defers Tryz.func197,Tryz.ntmps197
 go_wp2_with fail;rw[HE.out];refine H.out.mono ?_;rintro e w2 ⟨rfl,hg⟩;have hb:=alloc_old hg;have HB:=zHd hb;have HG:=zHd hg;clear hb hg H HE;exact zCg E w _ _ rfl HB.out (zaa (zGA _ _ none) HG.out)
open Go.RowKit
open Go.Lib (nDigits)
def cutV (s:ByteArray):Value := .tuple #[.string ⟨(Lib.cut s.data.toList [47]).1.toArray⟩,.string ⟨(Lib.cut s.data.toList [47]).2.1.toArray⟩,.bool (Lib.cut s.data.toList [47]).2.2]
theorem zyP (s:ByteArray)(w:World)(hs:s.size≤maxLen) :
  Calls Tryz.prog 224 #[.string s,.string ⟨#[47]⟩] w (zab (cutV s) w):=by
 unfold maxLen at hs;rcases Lib.indexB_cases s ⟨#[47]⟩ with hix|⟨i,hix,hroom⟩
 ·obtain⟨e1,e2,e3⟩:=Lib.cutB_miss s ⟨#[47]⟩ hix
  have HV:=zHd (show cutV s = .tuple #[.string s,.string ⟨#[]⟩,.bool false] by unfold cutV;rw[show([47]:List UInt8)=(⟨#[47]⟩:ByteArray).data.toList from rfl,e1,e2,e3];rfl);have hi:Lib.indexByte s.data.toList 47 = -1:=by rw[← Lib.index_one];exact hix
  have hc:=fun w=>Tryz.stringslite_Index_one s 47 w;rw[hi] at hc;have HC:=zHd hc;clear hix hi hc e1 e2 e3;go_enter Tryz.func224,Tryz.ntmps224;go_wp2_with fail;refine(HC.out _).mono ?_;rintro e w' ⟨rfl,rfl⟩;go_wp2
  go_ret3
  exact⟨by rw[HV.out];rfl,zag _ _⟩
 ·obtain⟨e1,e2,e3⟩:=Lib.cutB_hit s ⟨#[47]⟩ i hix
  have HV:=zHd (show cutV s = .tuple #[.string (s.extract 0 i),.string (s.extract (i+1) s.size),.bool true] by unfold cutV;rw[show([47]:List UInt8)=(⟨#[47]⟩:ByteArray).data.toList from rfl,e1,e2,e3];rfl);have hi:Lib.indexByte s.data.toList 47=i:=by rw[← Lib.index_one];exact hix
  have hc:=fun w=>Tryz.stringslite_Index_one s 47 w;rw[hi] at hc;have HC:=zHd hc;have hroom':i+1≤s.size:=hroom;clear hix hi hc e1 e2 e3 hroom;have c1:(0:Int)≤↑i:=by omega
  have c2:(↑i:Int)≤↑s.size:=by omega
  have c3:(0:Int)≤↑i+1:=by omega
  have c4:(↑i+1:Int)≤↑s.size:=by omega
  go_enter Tryz.func224,Tryz.ntmps224;go_wp2_with fail;refine(HC.out _).mono ?_;rintro e w' ⟨rfl,rfl⟩;go_wp2
  go_quiet (fail)
  go_wp2
  go_ret3
  exact⟨by rw[HV.out];rfl,zbv _ _ _⟩
theorem zFa (s:ByteArray)(w:World)(hs:s.size≤maxLen) :
  Calls Tryz.prog 190 #[.string s,.string ⟨#[47]⟩] w (zab (cutV s) w):=by
 have hc:=fun w=>zyP s w hs;unfold cutV at hc ⊢;obtain⟨A,hA⟩:∃ A:ByteArray,(⟨(Lib.cut s.data.toList [47]).1.toArray⟩:ByteArray)=A:=⟨_,rfl⟩;obtain⟨B,hB⟩:∃ B:ByteArray,(⟨(Lib.cut s.data.toList [47]).2.1.toArray⟩:ByteArray)=B:=⟨_,rfl⟩;obtain⟨C,hC⟩:∃ C:Bool,(Lib.cut s.data.toList [47]).2.2=C:=⟨_,rfl⟩;rw[hA,hB,hC] at hc ⊢;have HC:=zHd hc;clear hc hA hB hC;go_enter Tryz.func190,Tryz.ntmps190;go_wp2_with fail;refine(HC.out _).mono ?_;rintro e w' ⟨rfl,hg⟩;have HG:=zHd hg;clear hg;go_wp2
 go_ret3
 exact⟨rfl,HG.out⟩
theorem zfB (n:Nat):((decS n).toList == [49])=decide (n=1)∧((decS n).toList != [49]) = !decide (n=1):=by
 have e:((decS n).toList == [49])=decide (n=1):=by
  rw[Bool.eq_iff_iff,decide_eq_true_eq,beq_iff_eq,Lib.toList_data]
  constructor
  ·intro h
   apply zkT
   rw[zvi];unfold decS at h ⊢;simp at h;rw[h]
  ·rintro rfl
   rw[zvi]
 exact⟨e,by rw[bne,e]⟩
theorem zero_str' (n:Nat):((decS n).toList == [48])=decide (n=0)∧((decS n).toList != [48]) = !decide (n=0):=by
 have e:((decS n).toList == [48])=decide (n=0):=by
  rw[Bool.eq_iff_iff,decide_eq_true_eq,beq_iff_eq,Lib.toList_data]
  constructor
  ·intro h
   apply zkT
   rw[zlY];unfold decS at h ⊢;simp at h;rw[h]
  ·rintro rfl
   rw[zlY]
 exact⟨e,by rw[bne,e]⟩
theorem zrM (m n:Nat)(hm:nDigits m≤1000)(hn:nDigits n≤1000)(h:nDigits (m * n)≤1000):mulV (decS m) (decS n) = .tuple #[.string (decS (m * n)),.int .i64 0] :=
 zCd _ _ _ (zaM m hm) (zaM n hn) (zaM _ h) (by rw[zaD,zaD,zaD])
theorem zaK (n:Nat)(h:nDigits n≤1000):(decS n).size≤maxLen:=zaS (zaM n h)
theorem zyQ (m n:Nat)(w:World)(hm:nDigits m≤1000)(hn:nDigits n≤1000)(h:nDigits (m * n)≤1000) :
  Calls Tryz.prog 201 #[.string (decS m),.string (decS n)] w (zab (.string (decS (m * n))) w):=by
 have f1:=(zfB m).1;have f2:=(zfB n).1
 by_cases h1:m=1
 ·subst h1
  simp only[decide_true] at f1;rw[Nat.one_mul];clear f2 h;generalize decS 1=A at *;generalize decS n=B at *;go_enter Tryz.func201,Tryz.ntmps201;go_wp2;go_ret;exact⟨rfl,zag _ _⟩
 ·simp only[h1,decide_false] at f1
  by_cases h2:n=1
  ·subst h2
   simp only[decide_true] at f2;rw[Nat.mul_one];clear h h1;generalize decS 1=B at *;generalize decS m=A at *;go_enter Tryz.func201,Tryz.ntmps201;go_wp2;go_ret;exact⟨rfl,zag _ _⟩
  ·simp only[h2,decide_false] at f2
   have hc:=fun w=>zEV (decS m) (decS n) w (zaK m hm) (zaK n hn);rw[zrM m n hm hn h] at hc;generalize decS m=A at *;generalize decS n=B at *;generalize decS (m * n)=C at *;have HC:=zHd hc;clear hc h1 h2 h;go_enter Tryz.func201,Tryz.ntmps201;go_wp2_with fail;refine(HC.out _).mono ?_;rintro e w' ⟨rfl,hg⟩;have HG:=zHd hg;clear hg;go_wp2;go_ret;exact⟨rfl,HG.out⟩
theorem zCh (m n:Nat)(hm:nDigits m≤1000)(hn:nDigits n≤1000):gcdV (decS m) (decS n) = .tuple #[.string (decS (Nat.gcd m n)),.int .i64 0]:=by
 unfold gcdV;rw[zaM m hm,zaM n hn,zaD,zaD]
 rfl
theorem zrN (m n:Nat)(hm:nDigits m≤1000)(hn:nDigits n≤1000)(h0:n≠0):divV (decS m) (decS n) = .tuple #[.string (decS (m / n)),.string (decS (m % n)),.int .i64 0]:=by
 unfold divV;rw[zaM m hm,zaM n hn,zaD,zaD];simp only[Bool.and_self,if_true];rw[if_neg h0]
theorem trip {w:World}{g:Nat}{a b c:Value}(h:w.heap[g]? = some (.cells #[a,b,c] 142 (0,0))) :
  w.cell? ⟨g,0,none⟩=some a∧w.cell? ⟨g,1,none⟩=some b∧w.cell? ⟨g,2,none⟩=some c∧w.frozen? ⟨g,0,none⟩=false∧w.frozen? ⟨g,1,none⟩=false∧w.frozen? ⟨g,2,none⟩=false :=
 ⟨by rw[cell_of_row w g 0 _ _ (0,0) h];rfl,by rw[cell_of_row w g 1 _ _ (0,0) h];rfl,by rw[cell_of_row w g 2 _ _ (0,0) h];rfl,frozen_of_row w g 0 _ _ h,frozen_of_row w g 1 _ _ h,frozen_of_row w g 2 _ _ h⟩
theorem zdB {w w1:World}{g:Nat}{a b c:Value}(h:w.grownBy w1 none)(hg:w.heap.size≤g):w.grownBy (((w1.setCell ⟨g,0,none⟩ a).setCell ⟨g,1,none⟩ b).setCell ⟨g,2,none⟩ c) none :=
 zai (zai (zai h (zac w1 ⟨g,0,none⟩ a) hg) (zac _ ⟨g,1,none⟩ b) hg) (zac _ ⟨g,2,none⟩ c) hg
theorem ziI {A:ByteArray}{c:Bool}(f:(A.toList != [48])=c):(A.toList == [48]) = !c:=by
 rw[← f,bne,Bool.not_not]
theorem zrO (neg b c:Bool)(A B:ByteArray)(w:World)(f0:(A.toList != [48])=c)(hb:(neg&&c)=b)(f1:(B.toList == [49])=true) :
  Calls Tryz.prog 200 #[.bool neg,.string A,.string B] w (zab (.agg #[.bool b,.string A,.string B]) w):=by
 have f00:=ziI f0;subst hb;cases neg <;> cases c <;> simp only[Bool.not_true,Bool.not_false] at f00
 all_goals
  go_enter Tryz.func200,Tryz.ntmps200;go_wp2;exact bodyPost_ret (v := .agg #[.bool _,.string A,.string B]) (by simp[results,Tryz.results200,go_sem]) rfl ⟨rfl,zGA _ _ _⟩
theorem zrP (neg b c:Bool)(A B G:ByteArray)(w:World)(f0:(A.toList != [48])=c)(hb:(neg&&c)=b)(f1:(B.toList == [49])=false)(f2:(G.toList == [49])=true)
  (C:Hid (∀ w,Calls Tryz.prog 230 #[.string A,.string B] w (zab (.tuple #[.string G,.int .i64 0]) w))) :
  Calls Tryz.prog 200 #[.bool neg,.string A,.string B] w (zab (.agg #[.bool b,.string A,.string B]) w):=by
 have f00:=ziI f0;subst hb;cases neg <;> cases c <;> simp only[Bool.not_true,Bool.not_false] at f00
 all_goals
  go_enter Tryz.func200,Tryz.ntmps200;go_wp2_with fail;refine(C.out _).mono ?_;rintro e w1 ⟨rfl,hg⟩;have hb:=alloc_old hg;have hc:=trip hb;have G1:=zHd (zaa (zGA _ _ none) hg);have HB:=zHd hb;clear hg hb;go_wp2;exact bodyPost_ret (v := .agg #[.bool _,.string A,.string B]) (by simp[results,Tryz.results200,go_sem,hc]) rfl ⟨rfl,zdB G1.out (Nat.le_refl _)⟩
theorem zww (neg b c:Bool)(A B G Q1 R1 Q2 R2:ByteArray)(w:World)(f0:(A.toList != [48])=c)(hb:(neg&&c)=b)(f1:(B.toList == [49])=false)(f2:(G.toList == [49])=false)
  (C:Hid (∀ w,Calls Tryz.prog 230 #[.string A,.string B] w (zab (.tuple #[.string G,.int .i64 0]) w)))
  (D1:Hid (∀ w,Calls Tryz.prog 231 #[.string A,.string G] w (zab (.tuple #[.string Q1,.string R1,.int .i64 0]) w)))
  (D2:Hid (∀ w,Calls Tryz.prog 231 #[.string B,.string G] w (zab (.tuple #[.string Q2,.string R2,.int .i64 0]) w))) :
  Calls Tryz.prog 200 #[.bool neg,.string A,.string B] w (zab (.agg #[.bool b,.string Q1,.string Q2]) w):=by
 have f00:=ziI f0;subst hb;cases neg <;> cases c <;> simp only[Bool.not_true,Bool.not_false] at f00
 all_goals
  go_enter Tryz.func200,Tryz.ntmps200;go_wp2_with fail;refine(C.out _).mono ?_;rintro e w1 ⟨rfl,hg⟩;have hb:=alloc_old hg;have G1:=zHd (zaa (zGA _ _ none) hg);have HB:=zHd hb;clear hg hb;go_wp2_with fail;refine(D1.out _).mono ?_;rintro e w2 ⟨rfl,hg⟩;have G2:=zHd hg;clear hg;go_wp2_with fail;refine(D2.out _).mono ?_;rintro e w3 ⟨rfl,hg⟩;have G3:=zHd (zaa G2.out hg);clear hg;have hlt:=lt_of_block HB.out;have hc:=trip ((G3.out.block _ hlt (by simp)).trans HB.out);clear hlt;go_wp2;exact bodyPost_ret (v := .agg #[.bool _,.string Q1,.string Q2]) (by simp[results,Tryz.results200,go_sem,hc]) rfl ⟨rfl,zdB (zaa G1.out G3.out) (Nat.le_refl _)⟩
theorem zmW (neg:Bool)(n d:Nat)(w:World)(hd:d≠0)(hn:nDigits n≤1000)(hdd:nDigits d≤1000) :
  Calls Tryz.prog 200 #[.bool neg,.string (decS n),.string (decS d)] w (zab (ratV (mkRat (sg neg n) d)) w):=by
 have f0:=(zero_str' n).2;have f1:=(zfB d).1;have hg0:Nat.gcd n d≠0:=by have:=Nat.gcd_pos_of_pos_right n (Nat.pos_of_ne_zero hd);omega
 have hgl:Nat.gcd n d≤d:=Nat.le_of_dvd (Nat.pos_of_ne_zero hd) (Nat.gcd_dvd_right n d);have hgd:nDigits (Nat.gcd n d)≤1000:=Nat.le_trans (zbH hgl) hdd;rw[zEJ neg n d hd]
 by_cases h1:d=1
 ·subst h1
  rw[Nat.gcd_one_right,Nat.div_one,Nat.div_one];exact zrO neg _ _ _ _ w f0 rfl (by simpa using f1)
 ·have hc:=fun w=>zEY (decS n) (decS d) w (zaK n hn) (zaK d hdd)
  rw[zCh n d hn hdd] at hc;have f2:=(zfB (Nat.gcd n d)).1;have f1':((decS d).toList == [49])=false:=by rw[f1];simpa using h1
  by_cases h2:Nat.gcd n d=1
  ·rw[h2] at f2 hc ⊢
   rw[Nat.div_one,Nat.div_one];exact zrP neg _ _ _ _ _ w f0 rfl f1' (by simpa using f2) (zHd hc)
  ·have hd1:=fun w=>zvh (decS n) (decS (Nat.gcd n d)) w (zaK n hn) (zaK _ hgd)
   have hd2:=fun w=>zvh (decS d) (decS (Nat.gcd n d)) w (zaK d hdd) (zaK _ hgd);rw[zrN n _ hn hgd hg0] at hd1;rw[zrN d _ hdd hgd hg0] at hd2;exact zww neg _ _ _ _ _ _ _ _ _ w f0 rfl f1' (by rw[f2];simpa using h2) (zHd hc) (zHd hd1) (zHd hd2)
open Go.RowKit
open Go.Lib (nDigits decDigits)
theorem zCi (b:Bool)(A B S:ByteArray)(w:World)(h:max (A.size:Int) (B.size:Int)≤400)(f1:(B.toList == [49])=true)(hS:Hid ((if b then ⟨#[45]⟩++A else A)=S)) :
  Calls Tryz.prog 199 #[.agg #[.bool b,.string A,.string B]] w (zab (.string S) w):=by
 cases b
 all_goals
  go_enter Tryz.func199,Tryz.ntmps199;go_wp2;go_ret;exact⟨by rw[← hS.out];rfl,zGA _ _ _⟩
theorem zyR (b:Bool)(A B S:ByteArray)(w:World)(h:max (A.size:Int) (B.size:Int)≤400)(f1:(B.toList == [49])=false)(hS:Hid ((if b then ⟨#[45]⟩++A else A)++(⟨#[47]⟩++B)=S)) :
  Calls Tryz.prog 199 #[.agg #[.bool b,.string A,.string B]] w (zab (.string S) w):=by
 cases b
 all_goals
  go_enter Tryz.func199,Tryz.ntmps199;go_wp2;go_ret;exact⟨by rw[← hS.out];rfl,zGA _ _ _⟩
theorem zyS (b:Bool)(A B:ByteArray)(w:World)(h:400<max (A.size:Int) (B.size:Int)) :
  Calls Tryz.prog 199 #[.agg #[.bool b,.string A,.string B]] w (zeh 2 w):=by
 go_enter Tryz.func199,Tryz.ntmps199;go_wp2;exact⟨rfl,rfl,zGA _ _ _⟩
theorem zlZ (a b:ByteArray):(a++b).data.toList=a.data.toList++b.data.toList:=by
 rw[ByteArray.data_append,Array.toList_append]
theorem zyT (x:Rat):ratS x=(if decide (x.num<0) then ⟨#[45]⟩++decS x.num.natAbs else decS x.num.natAbs)++(if x.den=1 then ⟨#[]⟩ else (⟨#[47]⟩++decS x.den)):=by
 apply ByteArray.ext
 apply Array.ext'
 rw[zlZ];unfold ratS ratL
 by_cases h1:x.num<0 <;> by_cases h2:x.den=1 <;> simp[h1,h2,zlZ,decS]
theorem zvj (x:Rat)(w:World)(h:zbd x):Calls Tryz.prog 199 #[ratV x] w (zab (.string (ratS x)) w):=by
 have hx:max ((decS x.num.natAbs).size:Int) ((decS x.den).size:Int)≤400:=by
  rw[zbW,zbW];have:=h.1;have:=h.2
  omega
 have f1:=(zfB x.den).1;have e:=zyT x;unfold ratV
 by_cases h1:x.den=1
 ·rw[if_pos h1] at e
  exact zCi _ _ _ _ w hx (by rw[f1];simpa using h1) (zHd (by rw[e];apply ByteArray.ext;apply Array.ext';rw[zlZ];simp))
 ·rw[if_neg h1] at e
  exact zyR _ _ _ _ w hx (by rw[f1];simpa using h1) (zHd e.symm)
theorem zrQ (x:Rat)(w:World)(h:¬ zbd x):Calls Tryz.prog 199 #[ratV x] w (zeh 2 w):=by
 have hx:400<max ((decS x.num.natAbs).size:Int) ((decS x.den).size:Int):=by
  rw[zbW,zbW];unfold zbd at h
  omega
 exact zyS _ _ _ w hx
theorem zlE:Enters 199:=enters_of Tryz.func199 (by kernel_rfl) rfl
theorem zuf (x:Rat)(w:World):Calls Tryz.prog 197 #[.func (.func 199) #[ratV x] #[]] w (zab (finV x) w):=by
 by_cases h:zbd x
 ·rw[zkV h]
  exact zmU _ zlE _ _ _ w (zvj x _ h)
 ·rw[zhr h]
  exact zmV _ zlE _ _ _ w (zrQ x _ h)
open Go.RowKit
open Go.Lib (nDigits decDigits)
theorem zcy (x:Rat):∃ S E,finV x = .tuple #[.string S,.int .i64 E]:=by
 rcases zmI x with⟨S,h,_⟩|⟨h,_⟩
 ·exact⟨_,_,h⟩
 ·exact⟨_,_,h⟩
theorem zyU (neg:Bool)(num den:ByteArray)(w:World)(V:Hid (zhu num false)) :
  Calls Tryz.prog 191 #[.bool neg,.string num,.string den] w (zab (.tuple #[.string ⟨#[]⟩,.int .i64 1]) w):=by
 go_enter Tryz.func191,Tryz.ntmps191;go_wp2_with fail;refine(V.out _).mono ?_;rintro e w' ⟨rfl,rfl⟩;go_wp2
 go_ret2
 exact⟨rfl,zag _ _⟩
theorem zyV (neg:Bool)(num den:ByteArray)(w:World)(V:Hid (zhu num true))(U:Hid (zhu den false)) :
  Calls Tryz.prog 191 #[.bool neg,.string num,.string den] w (zab (.tuple #[.string ⟨#[]⟩,.int .i64 1]) w):=by
 go_enter Tryz.func191,Tryz.ntmps191;go_wp2_with fail;refine(V.out _).mono ?_;rintro e w' ⟨rfl,rfl⟩;go_wp2_with fail;refine(U.out _).mono ?_;rintro e w' ⟨rfl,rfl⟩;go_wp2
 go_ret2
 exact⟨rfl,zag _ _⟩
theorem zyW (neg:Bool)(num den:ByteArray)(w:World)(V:Hid (zhu num true))(U:Hid (zhu den true))(f:(den.toList == [48])=true) :
  Calls Tryz.prog 191 #[.bool neg,.string num,.string den] w (zab (.tuple #[.string ⟨#[]⟩,.int .i64 1]) w):=by
 go_enter Tryz.func191,Tryz.ntmps191;go_wp2_with fail;refine(V.out _).mono ?_;rintro e w' ⟨rfl,rfl⟩;go_wp2_with fail;refine(U.out _).mono ?_;rintro e w' ⟨rfl,rfl⟩;go_wp2
 go_ret2
 exact⟨rfl,zag _ _⟩
theorem zFb (neg:Bool)(num den S:ByteArray)(N:Value)(E:Int)(w:World)(V:Hid (zhu num true))(U:Hid (zhu den true))(f:(den.toList == [48])=false)
  (R:Hid (∀ w,Calls Tryz.prog 200 #[.bool neg,.string num,.string den] w (zab N w)))
  (F:Hid (∀ w,Calls Tryz.prog 197 #[.func (.func 199) #[N] #[]] w (zab (.tuple #[.string S,.int .i64 E]) w))) :
  Calls Tryz.prog 191 #[.bool neg,.string num,.string den] w (zab (.tuple #[.string S,.int .i64 E]) w):=by
 have hmf:∀ (fn:Fn) (first cap:Array Value) (w:World),(Instr.makeFunc fn first cap).run Tryz.prog w = .ok (.func fn first cap) w:=fun _ _ _ _=>rfl;go_enter Tryz.func191,Tryz.ntmps191;go_wp2_with fail;refine(V.out _).mono ?_;rintro e w' ⟨rfl,rfl⟩;go_wp2_with fail;refine(U.out _).mono ?_;rintro e w' ⟨rfl,rfl⟩;go_wp2_with fail;refine(R.out _).mono ?_;rintro e w1 ⟨rfl,hg⟩;have G1:=zHd hg;clear hg;go_wp2_with fail;refine(F.out _).mono ?_;rintro e w2 ⟨rfl,hg⟩;have G2:=zHd (zaa G1.out hg);clear hg;go_wp2
 go_ret2
 exact⟨rfl,G2.out⟩
theorem zCj (neg:Bool)(num den:ByteArray)(w:World)(hn:num.size≤maxLen)(hd:den.size≤maxLen) :
  Calls Tryz.prog 191 #[.bool neg,.string num,.string den] w (zab (zhq neg num den) w):=by
 have va:=zEn num hn;have vb:=zEn den hd;unfold zhq;cases ha:numB num
 ·rw[ha] at va
  exact zyU neg num den w (zHd va)
 cases hb:numB den
 ·rw[ha] at va
  rw[hb] at vb;exact zyV neg num den w (zHd va) (zHd vb)
 rw[ha] at va;rw[hb] at vb;have hz:=(zdp den hb).1
 by_cases h0:nv den=0
 ·rw[h0] at hz ⊢
  exact zyW neg num den w (zHd va) (zHd vb) (by simpa using hz)
 ·simp only[h0,Bool.and_self,Bool.true_and,decide_false,Bool.not_false,if_true]
  have hr:=fun w=>zmW neg (nv num) (nv den) w h0 (zbG num ha).2 (zbG den hb).2;rw[← (zbG num ha).1,← (zbG den hb).1] at hr;have hf:=fun w=>zuf (mkRat (sg neg (nv num)) (nv den)) w;obtain⟨S,E,hE⟩:=zcy (mkRat (sg neg (nv num)) (nv den));rw[hE] at hf ⊢;exact zFb neg num den S _ E w (zHd va) (zHd vb) (by rw[hz];simpa using h0) (zHd hr) (zHd hf)
open Go.RowKit
open Go.Lib (nDigits decDigits)
def zmX:Value := .agg #[.bool false,.string ⟨#[]⟩,.string ⟨#[]⟩]
structure zmY (a R M T D c:ByteArray)(N K:Bool)(E:Int):Prop where
 cp:∀ w,Calls Tryz.prog 189 #[.string a,.string ⟨#[45]⟩] w fun e w'=>e = .returned (.tuple #[.string R,.bool N])∧w=w'
 cut:∀ w,Calls Tryz.prog 190 #[.string R,.string ⟨#[47]⟩] w (zab (.tuple #[.string M,.string T,.bool K]) w)
 made:∀ w,Calls Tryz.prog 191 #[.bool N,.string M,.string D] w (zab (.tuple #[.string c,.int .i64 E]) w)
theorem zCk (a R M T D c:ByteArray)(N K:Bool)(E:Int)(w:World)(h:Hid (zmY a R M T D c N K E))(hd:(if K then T else ⟨#[49]⟩)=D)(f1:(E == 0)=false)(f2:(E != 0)=true) :
  Calls Tryz.prog 152 #[.string a] w (zab (.tuple #[zmX,.bool false]) w):=by
 subst hd;unfold zmX;cases K
 all_goals
  go_enter Tryz.func152,Tryz.ntmps152;go_wp2_with fail;refine(h.out.cp _).mono ?_;rintro e w' ⟨rfl,rfl⟩;go_wp2_with fail;refine(h.out.cut _).mono ?_;rintro e w1 ⟨rfl,hg⟩;have G1:=zHd hg;clear hg;go_wp2_with fail;refine(h.out.made _).mono ?_;rintro e w2 ⟨rfl,hg⟩;have G2:=zHd (zaa G1.out hg);clear hg;have hb:=alloc_old G2.out;have hc:=trip hb;have HG:=zHd (zaa (zGA _ _ none) G2.out);clear hb G1 G2;go_wp2;exact bodyPost_ret (v := .tuple #[.agg #[.bool false,.string ⟨#[]⟩,.string ⟨#[]⟩],.bool false]) (by simp[results,Tryz.results152,go_sem,hc]) rfl ⟨rfl,zdB HG.out (Nat.le_refl _)⟩
theorem zwx (a R M T D c:ByteArray)(N K:Bool)(w:World)(h:Hid (zmY a R M T D c N K 0))(hd:(if K then T else ⟨#[49]⟩)=D)(f1:(c.toList == a.toList)=false)(f2:(c.toList != a.toList)=true) :
  Calls Tryz.prog 152 #[.string a] w (zab (.tuple #[zmX,.bool false]) w):=by
 subst hd;unfold zmX;cases K
 all_goals
  go_enter Tryz.func152,Tryz.ntmps152;go_wp2_with fail;refine(h.out.cp _).mono ?_;rintro e w' ⟨rfl,rfl⟩;go_wp2_with fail;refine(h.out.cut _).mono ?_;rintro e w1 ⟨rfl,hg⟩;have G1:=zHd hg;clear hg;go_wp2_with fail;refine(h.out.made _).mono ?_;rintro e w2 ⟨rfl,hg⟩;have G2:=zHd (zaa G1.out hg);clear hg;have hb:=alloc_old G2.out;have hc:=trip hb;have HG:=zHd (zaa (zGA _ _ none) G2.out);clear hb G1 G2;go_wp2;exact bodyPost_ret (v := .tuple #[.agg #[.bool false,.string ⟨#[]⟩,.string ⟨#[]⟩],.bool false]) (by simp[results,Tryz.results152,go_sem,hc]) rfl ⟨rfl,zdB HG.out (Nat.le_refl _)⟩
theorem zyX (a R M T D c:ByteArray)(N K:Bool)(w:World)(h:Hid (zmY a R M T D c N K 0))(hd:(if K then T else ⟨#[49]⟩)=D)(f1:(c.toList == a.toList)=true) :
  Calls Tryz.prog 152 #[.string a] w (zab (.tuple #[.agg #[.bool N,.string M,.string D],.bool true]) w):=by
 subst hd;cases K
 all_goals
  go_enter Tryz.func152,Tryz.ntmps152;go_wp2_with fail;refine(h.out.cp _).mono ?_;rintro e w' ⟨rfl,rfl⟩;go_wp2_with fail;refine(h.out.cut _).mono ?_;rintro e w1 ⟨rfl,hg⟩;have G1:=zHd hg;clear hg;go_wp2_with fail;refine(h.out.made _).mono ?_;rintro e w2 ⟨rfl,hg⟩;have G2:=zHd (zaa G1.out hg);clear hg;have hb:=alloc_old G2.out;have hc:=trip hb;have HG:=zHd (zaa (zGA _ _ none) G2.out);clear hb G1 G2;go_wp2;exact bodyPost_ret (v := .tuple #[.agg #[.bool _,.string _,.string _],.bool true]) (by simp[results,Tryz.results152,go_sem,hc]) rfl ⟨rfl,zdB HG.out (Nat.le_refl _)⟩
theorem zyY (a:ByteArray):(zbY a).length≤a.size:=by
 unfold zbY Lib.trimPrefix;rw[Lib.size_eq]
 split
 ·rw[List.length_drop];omega
 ·exact Nat.le_refl _
theorem zCl (s:List UInt8):(Lib.cut s [47]).1.length≤s.length∧(Lib.cut s [47]).2.1.length≤s.length:=by
 unfold Lib.cut
 split
 ·simp only[List.length_take,List.length_drop];omega
 ·simp
theorem zjQ (l:List UInt8):(⟨l.toArray⟩:ByteArray).size=l.length:=List.size_toArray
theorem zrR (a:ByteArray)(ha:a.size≤maxLen)(c:ByteArray)(E:Int)(h:zhq (negA a) (numA a) (denA a) = .tuple #[.string c,.int .i64 E]) :
  zmY a ⟨(zbY a).toArray⟩ (numA a) (tailA a) (denA a) c (negA a) (zcd a) E:=by
 have hr:=zyY a;have hc:=zCl (zbY a);have h1:(numA a).size≤maxLen:=by unfold numA;rw[zjQ];omega
 have h2:(denA a).size≤maxLen:=by
  unfold denA
  split
  ·unfold tailA;rw[zjQ];omega
  ·decide
 refine⟨fun w => ?_,fun w => ?_,fun w => ?_⟩
 ·exact(Tryz.strings_CutPrefix a ⟨#[45]⟩ w).mono fun e w' ⟨h,k⟩=>⟨h,k.symm⟩
 ·have:=zFa ⟨(zbY a).toArray⟩ w (by rw[zjQ];omega)
  exact this
 ·rw[← h];exact zCj _ _ _ w h1 h2
theorem zds {a c:ByteArray}:(c.toList == a.toList)=decide (c=a):=by
 rw[Bool.eq_iff_iff,decide_eq_true_eq,beq_iff_eq,Lib.toList_data,Lib.toList_data]
 constructor
 ·intro h;exact ByteArray.ext (Array.ext' h)
 ·rintro rfl;rfl
theorem ziJ {a:ByteArray}{x:Rat}(h:zax a x)(w:World)(ha:a.size≤maxLen) :
  Calls Tryz.prog 152 #[.string a] w (zab (.tuple #[ratV x,.bool true]) w):=by
 obtain⟨h1,h2,h3,_⟩:=apart a x h.eq;have:=zyX a _ _ _ _ a _ _ w (zHd (zrR a ha a 0 (zyt h))) rfl (by simp);unfold ratV;rw[h1,h2,h3] at this;exact this
theorem zvk {a:ByteArray}(h:∀ x,¬ zax a x)(w:World)(ha:a.size≤maxLen) :
  Calls Tryz.prog 152 #[.string a] w (zab (.tuple #[zmX,.bool false]) w):=by
 rcases ztR (negA a) (numA a) (denA a) with⟨S,x,hm,hS⟩|⟨E,hm,hE⟩
 ·have hne:S≠a:=fun e=>h x (e ▸ hS)
  have f:(S.toList == a.toList)=false:=by rw[zds];simpa using hne
  exact zwx a _ _ _ _ S _ _ w (zHd (zrR a ha S 0 hm)) rfl f (by rw[bne,f];rfl)
 ·have f:(E == 0)=false:=by rcases hE with rfl|rfl <;> decide
  exact zCk a _ _ _ _ _ _ _ E w (zHd (zrR a ha _ E hm)) rfl f (by rw[bne,f];rfl)
open Go.Lib
theorem zei (u:Nat):u<10 ^ nDigits u:=by
 induction u using Nat.strongRecOn with
 | _ u ih =>
  by_cases h:u<10
  ·rw[nDigits_small h];omega
  ·rw[nDigits_big h,Nat.pow_succ]
   have:=ih (u / 10) (by omega)
   omega
theorem zej (n k:Nat)(hk:1≤k)(h:n<10 ^ k):nDigits n≤k:=by
 rcases Nat.lt_or_ge k (nDigits n) with h1|h1
 ·rcases zew n k (by omega) with h2|h2
  ·omega
  ·omega
 ·exact h1
theorem zlF (m n:Nat):nDigits (m * n)≤nDigits m+nDigits n:=by
 apply zej _ _ (by have:=nDigits_pos m;omega)
 rw[Nat.pow_add];exact Nat.mul_lt_mul'' (zei m) (zei n)
theorem zhR (m n k:Nat)(hm:nDigits m≤k)(hn:nDigits n≤k):nDigits (m+n)≤k+1:=by
 apply zej _ _ (by omega)
 have h1:=zei m;have h2:=zei n;have h3:=Nat.pow_le_pow_right (show 0<10 by omega) hm;have h4:=Nat.pow_le_pow_right (show 0<10 by omega) hn;rw[Nat.pow_succ]
 omega
def sgn (x:Rat):Bool:=decide (x.num<0)
theorem zdf (x:Rat):x.num=sg (sgn x) x.num.natAbs:=(zru x).symm
theorem zld (s:Bool)(n d:Nat):sg s (n * d)=sg s n * (d:Int):=by
 unfold sg;split <;> simp[Int.neg_mul]
theorem zvl (s:Bool)(p q:Nat):sg s (p+q)=sg s p+sg s q:=by
 unfold sg;split <;> omega
theorem zvm (s t:Bool)(p q:Nat)(h:s≠t)(hl:p<q):sg t (q - p)=sg s p+sg t q:=by
 cases s <;> cases t <;> simp_all [sg] <;> omega
theorem zvn (s t:Bool)(p q:Nat)(h:s≠t)(hl:¬ p<q):sg s (p - q)=sg s p+sg t q:=by
 cases s <;> cases t <;> simp_all [sg] <;> omega
theorem zvo (s t:Bool)(m n:Nat):sg (s != t) (m * n)=sg s m * sg t n:=by
 cases s <;> cases t <;> simp[sg,Int.neg_mul,Int.mul_neg]
theorem zga (x y:Rat)(z:Int)(h:z=sg (sgn x) (x.num.natAbs * y.den)+sg (sgn y) (y.num.natAbs * x.den)):mkRat z (x.den * y.den)=x+y:=by
 rw[Rat.add_def',h,zld,zld,← zdf,← zdf]
theorem zpM (x y:Rat):mkRat (sg (sgn x != sgn y) (x.num.natAbs * y.num.natAbs)) (x.den * y.den)=x * y:=by
 rw[Rat.mul_def',zvo,← zdf,← zdf]
theorem zyZ (x y:Rat)(h:y.num≠0):mkRat (sg (sgn x != sgn y) (x.num.natAbs * y.den)) (x.den * y.num.natAbs)=x / y:=by
 rw[Rat.div_def,Rat.mul_def',Rat.num_inv,Rat.den_inv,if_neg h,zvo,← zdf]
 congr 2
 unfold sg sgn
 by_cases hn:y.num<0
 ·rw[if_pos (by simpa using hn),Int.sign_eq_neg_one_of_neg hn];omega
 ·rw[if_neg (by simpa using hn),Int.sign_eq_one_of_pos (by omega)];omega
theorem zza (x:Rat):ratV (-x) = .agg #[.bool (!sgn x && !decide (x.num.natAbs=0)),.string (decS x.num.natAbs),.string (decS x.den)]:=by
 unfold ratV sgn;rw[Rat.neg_num,Rat.neg_den,Int.natAbs_neg]
 congr 3
 congr 1
 rw[Bool.eq_iff_iff,decide_eq_true_eq];simp only[Bool.and_eq_true,Bool.not_eq_true',decide_eq_false_iff_not]
 omega
theorem zzb {x:Rat}(h:zbd x):zbd (-x):=by
 unfold zbd at *;rw[Rat.neg_num,Rat.neg_den,Int.natAbs_neg];exact h
def cmpQ (x y:Rat):Int:=if x<y then -1 else if y<x then 1 else 0
theorem zzc (x y:Rat)(h1:sgn x=true)(h2:sgn y=false):cmpQ x y = -1:=by
 unfold sgn at h1 h2;have h1:x.num<0:=by simpa using h1
 have h2:¬ y.num<0:=by simpa using h2
 unfold cmpQ;rw[if_pos];rw[Rat.lt_iff];have:=Int.mul_neg_of_neg_of_pos h1 (show(0:Int)<y.den by have:=y.den_pos;omega);have:=Int.mul_nonneg (show 0≤y.num by omega) (show(0:Int)≤x.den by omega)
 omega
theorem zzd (x y:Rat)(h1:sgn x=false)(h2:sgn y=true):cmpQ x y=1:=by
 unfold sgn at h1 h2;have h1:¬ x.num<0:=by simpa using h1
 have h2:y.num<0:=by simpa using h2
 unfold cmpQ;have:=Int.mul_neg_of_neg_of_pos h2 (show(0:Int)<x.den by have:=x.den_pos;omega);have:=Int.mul_nonneg (show 0≤x.num by omega) (show(0:Int)≤y.den by omega);rw[if_neg (by rw[Rat.lt_iff];omega),if_pos (by rw[Rat.lt_iff];omega)]
theorem zCm (x y:Rat)(h1:sgn x=false)(h2:sgn y=false):cmpQ x y=cmpN (x.num.natAbs * y.den) (y.num.natAbs * x.den):=by
 have ex:=zdf x;have ey:=zdf y;rw[h1,sg,if_neg (by simp)] at ex;rw[h2,sg,if_neg (by simp)] at ey;unfold cmpQ cmpN;simp only[Rat.lt_iff];have e1:x.num * y.den=((x.num.natAbs * y.den:Nat):Int):=by rw[Int.natCast_mul,← ex]
 have e2:y.num * x.den=((y.num.natAbs * x.den:Nat):Int):=by rw[Int.natCast_mul,← ey]
 simp only[e1,e2,Int.ofNat_lt]
theorem zze (x y:Rat)(h1:sgn x=true)(h2:sgn y=true):cmpQ x y=cmpN (y.num.natAbs * x.den) (x.num.natAbs * y.den):=by
 have ex:=zdf x;have ey:=zdf y;rw[h1,sg,if_pos rfl] at ex;rw[h2,sg,if_pos rfl] at ey;unfold cmpQ cmpN;simp only[Rat.lt_iff];have e1:x.num * y.den = -((x.num.natAbs * y.den:Nat):Int):=by rw[Int.natCast_mul,← Int.neg_mul,← ex]
 have e2:y.num * x.den = -((y.num.natAbs * x.den:Nat):Int):=by rw[Int.natCast_mul,← Int.neg_mul,← ey]
 simp only[e1,e2];generalize x.num.natAbs * y.den=p;generalize y.num.natAbs * x.den=q
 split <;> split <;> (try split) <;> omega
theorem ziK:zax ⟨#[48]⟩ 0:=⟨by decide +kernel,by decide +kernel⟩
theorem zCn {a:ByteArray}{x:Rat}(h:zax a x):a.size≤802:=by
 rw[h.eq];have h1:=h.short.1;have h2:=h.short.2;show(ratL x).toArray.size≤_;rw[List.size_toArray];unfold ratL;rw[List.length_append,List.length_append];have:=decDigits_length x.num.natAbs;have:=decDigits_length x.den
 split <;> split <;> simp <;> omega
theorem zgI {a:ByteArray}{x:Rat}(h:zax a x):a.size≤maxLen:=by have:=zCn h;unfold maxLen;omega
open Go.RowKit
open Go.Lib (nDigits decDigits)
def Num (w:World)(g:Nat)(b:Bool)(A B:ByteArray):Prop:=w.heap[g]? = some (.cells #[.bool b,.string A,.string B] 142 (0,0))
theorem Num.cells {w:World}{g:Nat}{b:Bool}{A B:ByteArray}(h:Num w g b A B) :
  w.cell? ⟨g,0,none⟩=some (.bool b)∧w.cell? ⟨g,1,none⟩=some (.string A)∧w.cell? ⟨g,2,none⟩=some (.string B)∧w.frozen? ⟨g,0,none⟩=false∧w.frozen? ⟨g,1,none⟩=false∧w.frozen? ⟨g,2,none⟩=false:=trip h
theorem Num.grown {w w':World}{g:Nat}{b:Bool}{A B:ByteArray}(h:Num w g b A B)(hg:w.grownBy w' none):Num w' g b A B:=(hg.block _ (lt_of_block h) (by simp)).trans h
theorem Num.other {W:World}{g g' i:Nat}{b:Bool}{A B:ByteArray}{v:Value}(h:Num W g b A B)(hne:g≠g'):Num (W.setCell ⟨g',i,none⟩ v) g b A B :=
 ((zac W ⟨g',i,none⟩ v).block g (lt_of_block h) (by simpa using hne)).trans h
theorem Num.set {W:World}{g:Nat}{b b':Bool}{A B A' B':ByteArray}(h:Num W g b A B):Num (((W.setCell ⟨g,0,none⟩ (.bool b')).setCell ⟨g,1,none⟩ (.string A')).setCell ⟨g,2,none⟩ (.string B')) g b' A' B':=by
 unfold Num at h ⊢;have h1:=heap_setCell_same W g 0 _ _ (.bool b') h;have h2:=heap_setCell_same _ g 1 _ _ (.string A') h1;have h3:=heap_setCell_same _ g 2 _ _ (.string B') h2;rw[h3]
 rfl
structure Held (w W:World)(b1 b2:Bool)(A B C D:ByteArray):Prop where
 x:Num W w.heap.size b1 A B
 y:Num W (w.heap.size+1) b2 C D
 z:∃ b S T,Num W (w.heap.size+1+1) b S T
 g:w.grownBy W none
theorem Held.next {w W W':World}{b1 b2:Bool}{A B C D:ByteArray}(h:Held w W b1 b2 A B C D)(hg:W.grownBy W' none):Held w W' b1 b2 A B C D :=
 ⟨h.x.grown hg,h.y.grown hg,by obtain⟨b,S,T,k⟩:=h.z;exact⟨b,S,T,k.grown hg⟩,zaa h.g hg⟩
theorem Held.drew {w W:World}{b1 b2:Bool}{A B C D:ByteArray}(h:Held w W b1 b2 A B C D):Held w W.drew b1 b2 A B C D:=h.next (zae W none)
theorem Held.store {w W:World}{b1 b2:Bool}{A B C D:ByteArray}(h:Held w W b1 b2 A B C D)(b:Bool)(S T:ByteArray) :
  Held w (((W.setCell ⟨w.heap.size+1+1,0,none⟩ (.bool b)).setCell ⟨w.heap.size+1+1,1,none⟩ (.string S)).setCell ⟨w.heap.size+1+1,2,none⟩ (.string T)) b1 b2 A B C D:=by
 obtain⟨b0,S0,T0,k⟩:=h.z;exact⟨((h.x.other (by omega)).other (by omega)).other (by omega),((h.y.other (by omega)).other (by omega)).other (by omega),⟨b,S,T,k.set⟩,zdB h.g (by omega)⟩
def Seen (w W:World)(b1 b2:Bool)(A B C D:ByteArray):Prop :=
 W.cell? ⟨w.heap.size,0,none⟩=some (.bool b1)∧W.cell? ⟨w.heap.size,1,none⟩=some (.string A)∧W.cell? ⟨w.heap.size,2,none⟩=some (.string B) ∧
 W.cell? ⟨w.heap.size+1,0,none⟩=some (.bool b2)∧W.cell? ⟨w.heap.size+1,1,none⟩=some (.string C)∧W.cell? ⟨w.heap.size+1,2,none⟩=some (.string D)
theorem Held.seen {w W:World}{b1 b2:Bool}{A B C D:ByteArray}(h:Held w W b1 b2 A B C D):Seen w W b1 b2 A B C D:=by
 obtain⟨x0,x1,x2,_⟩:=h.x.cells;obtain⟨y0,y1,y2,_⟩:=h.y.cells;exact⟨x0,x1,x2,y0,y1,y2⟩
theorem Held.room {w W:World}{b1 b2:Bool}{A B C D:ByteArray}(h:Held w W b1 b2 A B C D):∃ b S T,
  W.cell? ⟨w.heap.size+1+1,0,none⟩=some (.bool b)∧W.cell? ⟨w.heap.size+1+1,1,none⟩=some (.string S)∧W.cell? ⟨w.heap.size+1+1,2,none⟩=some (.string T) ∧
  W.frozen? ⟨w.heap.size+1+1,0,none⟩=false∧W.frozen? ⟨w.heap.size+1+1,1,none⟩=false∧W.frozen? ⟨w.heap.size+1+1,2,none⟩=false:=by
 obtain⟨b,S,T,k⟩:=h.z;exact⟨b,S,T,k.cells⟩
theorem zcD (w:World)(o:Obj)(g:Nat)(h:g=w.heap.size):(w.alloc o).heap[g]? = some o:=by subst h;exact zau w o
theorem zbk (w:World)(o:Obj)(g:Nat)(h:g<w.heap.size):(w.alloc o).heap[g]? = w.heap[g]? := (zGA w o none).block g h (by simp)
theorem zek (w:World)(b1 b2:Bool)(A B C D:ByteArray) :
  Held w (((w.alloc (.cells #[.bool b1,.string A,.string B] 142)).alloc (.cells #[.bool b2,.string C,.string D] 142)).alloc (.cells #[.bool false,.string ⟨#[]⟩,.string ⟨#[]⟩] 142)) b1 b2 A B C D:=by
 refine⟨?_,?_,⟨false,⟨#[]⟩,⟨#[]⟩,?_⟩,?_⟩
 ·unfold Num
  rw[zbk _ _ _ (by simp;omega),zbk _ _ _ (by simp),zcD _ _ _ rfl]
 ·unfold Num
  rw[zbk _ _ _ (by simp),zcD _ _ _ (by simp)]
 ·unfold Num
  rw[zcD _ _ _ (by simp)]
 ·exact zaa (zGA _ _ none) (zaa (zGA _ _ none) (zGA _ _ none))
def mulS (A B:ByteArray):ByteArray:=decS (nv A * nv B)
def zbo (A C:ByteArray):Prop:=∀ w,Calls Tryz.prog 201 #[.string A,.string C] w (zab (.string (mulS A C)) w)
theorem zel (A C:ByteArray)(h:zbo A C)(w:World):Calls Tryz.prog 201 #[.string A,.string C] w (zab (.string (mulS A C)) w):=h w
theorem zbc (w:World)(b1 b2:Bool)(A B C D:ByteArray){W W':World}(hg:W.grownBy W' none)
  (h:(W.cell? ⟨w.heap.size,0,none⟩=some (.bool b1)∧W.cell? ⟨w.heap.size,1,none⟩=some (.string A)∧W.cell? ⟨w.heap.size,2,none⟩=some (.string B) ∧
   W.cell? ⟨w.heap.size+1,0,none⟩=some (.bool b2)∧W.cell? ⟨w.heap.size+1,1,none⟩=some (.string C)∧W.cell? ⟨w.heap.size+1,2,none⟩=some (.string D))∧Hid (Held w W b1 b2 A B C D)) :
  (W'.cell? ⟨w.heap.size,0,none⟩=some (.bool b1)∧W'.cell? ⟨w.heap.size,1,none⟩=some (.string A)∧W'.cell? ⟨w.heap.size,2,none⟩=some (.string B) ∧
   W'.cell? ⟨w.heap.size+1,0,none⟩=some (.bool b2)∧W'.cell? ⟨w.heap.size+1,1,none⟩=some (.string C)∧W'.cell? ⟨w.heap.size+1,2,none⟩=some (.string D))∧Hid (Held w W' b1 b2 A B C D) :=
 have k:=h.2.out.next hg
 ⟨k.seen,zHd k⟩
theorem zgb (w:World)(b1 b2:Bool)(A B C D:ByteArray){W:World}
  (h:(W.cell? ⟨w.heap.size,0,none⟩=some (.bool b1)∧W.cell? ⟨w.heap.size,1,none⟩=some (.string A)∧W.cell? ⟨w.heap.size,2,none⟩=some (.string B) ∧
   W.cell? ⟨w.heap.size+1,0,none⟩=some (.bool b2)∧W.cell? ⟨w.heap.size+1,1,none⟩=some (.string C)∧W.cell? ⟨w.heap.size+1,2,none⟩=some (.string D))∧Hid (Held w W b1 b2 A B C D)):∃ b S T,
  W.cell? ⟨w.heap.size+1+1,0,none⟩=some (.bool b)∧W.cell? ⟨w.heap.size+1+1,1,none⟩=some (.string S)∧W.cell? ⟨w.heap.size+1+1,2,none⟩=some (.string T) ∧
  W.frozen? ⟨w.heap.size+1+1,0,none⟩=false∧W.frozen? ⟨w.heap.size+1+1,1,none⟩=false∧W.frozen? ⟨w.heap.size+1+1,2,none⟩=false:=h.2.out.room
theorem zmZ (w:World)(b1 b2:Bool)(A B C D:ByteArray){W:World}(b:Bool)(S T:ByteArray)
  (h:(W.cell? ⟨w.heap.size,0,none⟩=some (.bool b1)∧W.cell? ⟨w.heap.size,1,none⟩=some (.string A)∧W.cell? ⟨w.heap.size,2,none⟩=some (.string B) ∧
   W.cell? ⟨w.heap.size+1,0,none⟩=some (.bool b2)∧W.cell? ⟨w.heap.size+1,1,none⟩=some (.string C)∧W.cell? ⟨w.heap.size+1,2,none⟩=some (.string D))∧Hid (Held w W b1 b2 A B C D)) :
  ((((W.setCell ⟨w.heap.size+1+1,0,none⟩ (.bool b)).setCell ⟨w.heap.size+1+1,1,none⟩ (.string S)).setCell ⟨w.heap.size+1+1,2,none⟩ (.string T)).cell? ⟨w.heap.size,0,none⟩=some (.bool b1)∧(((W.setCell ⟨w.heap.size+1+1,0,none⟩ (.bool b)).setCell ⟨w.heap.size+1+1,1,none⟩ (.string S)).setCell ⟨w.heap.size+1+1,2,none⟩ (.string T)).cell? ⟨w.heap.size,1,none⟩=some (.string A)∧(((W.setCell ⟨w.heap.size+1+1,0,none⟩ (.bool b)).setCell ⟨w.heap.size+1+1,1,none⟩ (.string S)).setCell ⟨w.heap.size+1+1,2,none⟩ (.string T)).cell? ⟨w.heap.size,2,none⟩=some (.string B) ∧
    (((W.setCell ⟨w.heap.size+1+1,0,none⟩ (.bool b)).setCell ⟨w.heap.size+1+1,1,none⟩ (.string S)).setCell ⟨w.heap.size+1+1,2,none⟩ (.string T)).cell? ⟨w.heap.size+1,0,none⟩=some (.bool b2)∧(((W.setCell ⟨w.heap.size+1+1,0,none⟩ (.bool b)).setCell ⟨w.heap.size+1+1,1,none⟩ (.string S)).setCell ⟨w.heap.size+1+1,2,none⟩ (.string T)).cell? ⟨w.heap.size+1,1,none⟩=some (.string C)∧(((W.setCell ⟨w.heap.size+1+1,0,none⟩ (.bool b)).setCell ⟨w.heap.size+1+1,1,none⟩ (.string S)).setCell ⟨w.heap.size+1+1,2,none⟩ (.string T)).cell? ⟨w.heap.size+1,2,none⟩=some (.string D))∧Hid (Held w (((W.setCell ⟨w.heap.size+1+1,0,none⟩ (.bool b)).setCell ⟨w.heap.size+1+1,1,none⟩ (.string S)).setCell ⟨w.heap.size+1+1,2,none⟩ (.string T)) b1 b2 A B C D) :=
 have k:=h.2.out.store b S T
 ⟨k.seen,zHd k⟩
theorem zjR (b1 b2 b:Bool)(A B C D S T:ByteArray)(w:World)
  (T1:zbo A C) (T2:zbo B D)
  (R:Hid (∀ w,Calls Tryz.prog 200 #[.bool (b1 != b2),.string (mulS A C),.string (mulS B D)] w (zab (.agg #[.bool b,.string S,.string T]) w))) :
  Calls Tryz.prog 161 #[.agg #[.bool b1,.string A,.string B],.agg #[.bool b2,.string C,.string D]] w (zab (.agg #[.bool b,.string S,.string T]) w):=by
 have h0:=zek w b1 b2 A B C D;obtain⟨W0,hW0⟩:∃ W0,W0=(((w.alloc (.cells #[.bool b1,.string A,.string B] 142)).alloc (.cells #[.bool b2,.string C,.string D] 142)).alloc (.cells #[.bool false,.string ⟨#[]⟩,.string ⟨#[]⟩] 142)):=⟨_,rfl⟩;rw[← hW0] at h0;have H0:=zHd h0;have HW0:=zHd hW0;clear h0 hW0;go_enter Tryz.func161,Tryz.ntmps161;go_wp2_with fail;rw[← HW0.out];have hs:=H0.out.drew.seen;unfold Seen at hs;have hh:=zHd H0.out.drew
 go_region_held3 (fun W'=>(W'.cell? ⟨w.heap.size,0,none⟩=some (.bool b1)∧W'.cell? ⟨w.heap.size,1,none⟩=some (.string A)∧W'.cell? ⟨w.heap.size,2,none⟩=some (.string B) ∧
   W'.cell? ⟨w.heap.size+1,0,none⟩=some (.bool b2)∧W'.cell? ⟨w.heap.size+1,1,none⟩=some (.string C)∧W'.cell? ⟨w.heap.size+1,2,none⟩=some (.string D))∧Hid (Held w W' b1 b2 A B C D))
  (first
   | exact⟨hs,hh⟩
   | assumption
   | exact s1
   | exact s3
   | exact zmZ w b1 b2 A B C D _ _ _ s3
   | go_keep)
  (first
   | (go_at_call 201;refine(zel _ _ ?_ _).mono ?_;assumption;rintro e w5 ⟨rfl,hg5⟩;have s1:=zbc w b1 b2 A B C D hg5 ‹_›)
   | (go_at_call 200;refine(R.out _).mono ?_;rintro e w7 ⟨rfl,hg7⟩;have s3:=zbc w b1 b2 A B C D hg7 ‹_›;obtain⟨zb,zS,zT,z0,z1,z2,z3,z4,z5⟩:=zgb w b1 b2 A B C D s3))
 have hend:=zdB (a := .bool b) (b := .string S) (c := .string T) s3.2.out.g (show w.heap.size≤w.heap.size+1+1 by omega);have HE:=zHd hend;clear hend s3 s1 hs hh;go_wp2;exact bodyPost_ret (v := .agg #[.bool _,.string _,.string _]) (by simp[results,Tryz.results161,go_sem,z0,z1,z2,z3,z4,z5]) rfl ⟨rfl,HE.out⟩
open Go.RowKit
open Go.Lib (nDigits decDigits)
theorem zrS (s b c:Bool)(A B:ByteArray)(w:World)(f0:(A.toList != [48])=c)(hb:(!s&&c)=b) :
  Calls Tryz.prog 194 #[.agg #[.bool s,.string A,.string B]] w (zab (.agg #[.bool b,.string A,.string B]) w):=by
 have f00:=ziI f0;subst hb;cases s <;> cases c <;> simp only[Bool.not_true,Bool.not_false] at f00
 all_goals
  go_enter Tryz.func194,Tryz.ntmps194;go_wp2;exact bodyPost_ret (v := .agg #[.bool _,.string A,.string B]) (by simp[results,Tryz.results194,go_sem]) rfl ⟨rfl,zaa (zGA _ _ _) (zGA _ _ _)⟩
theorem zug (x:Rat)(w:World):Calls Tryz.prog 194 #[ratV x] w (zab (ratV (-x)) w):=by
 rw[zza];exact zrS _ _ _ _ _ w (zero_str' _).2 rfl
theorem zzf (b1 b2 b:Bool)(A B C D N S T:ByteArray)(w:World)(he:(b1 == b2)=true)
  (T1:zbo A D) (T2:zbo C B) (T3:zbo B D)
  (N1:Hid (∀ w,Calls Tryz.prog 226 #[.string (mulS A D),.string (mulS C B)] w (zab (.tuple #[.string N,.int .i64 0]) w)))
  (R:Hid (∀ w,Calls Tryz.prog 200 #[.bool b1,.string N,.string (mulS B D)] w (zab (.agg #[.bool b,.string S,.string T]) w))) :
  Calls Tryz.prog 192 #[.agg #[.bool b1,.string A,.string B],.agg #[.bool b2,.string C,.string D]] w (zab (.agg #[.bool b,.string S,.string T]) w):=by
 have h0:=zek w b1 b2 A B C D;obtain⟨W0,hW0⟩:∃ W0,W0=(((w.alloc (.cells #[.bool b1,.string A,.string B] 142)).alloc (.cells #[.bool b2,.string C,.string D] 142)).alloc (.cells #[.bool false,.string ⟨#[]⟩,.string ⟨#[]⟩] 142)):=⟨_,rfl⟩;rw[← hW0] at h0;have H0:=zHd h0;have HW0:=zHd hW0;clear h0 hW0;go_enter Tryz.func192,Tryz.ntmps192;go_wp2_with fail;rw[← HW0.out];have hs:=H0.out.drew.seen;unfold Seen at hs;have hh:=zHd H0.out.drew;clear HW0
 go_region_held3 (fun W'=>(W'.cell? ⟨w.heap.size,0,none⟩=some (.bool b1)∧W'.cell? ⟨w.heap.size,1,none⟩=some (.string A)∧W'.cell? ⟨w.heap.size,2,none⟩=some (.string B) ∧
   W'.cell? ⟨w.heap.size+1,0,none⟩=some (.bool b2)∧W'.cell? ⟨w.heap.size+1,1,none⟩=some (.string C)∧W'.cell? ⟨w.heap.size+1,2,none⟩=some (.string D))∧Hid (Held w W' b1 b2 A B C D))
  (first
   | exact⟨hs,hh⟩
   | assumption
   | exact s1
   | go_keep)
  (first
   | (go_at_call 201;refine(zel _ _ ?_ _).mono ?_;assumption;rintro e w5 ⟨rfl,hg5⟩;have s1:=zbc w b1 b2 A B C D hg5 ‹_›))
 clear hs hh H0;obtain⟨⟨x0,x1,x2,y0,y1,y2⟩,hh⟩:=s1;go_wp2_with fail;refine(T3 _).mono ?_;rintro e v6 ⟨rfl,hg⟩;have s6:=zbc w b1 b2 A B C D hg ⟨⟨x0,x1,x2,y0,y1,y2⟩,hh⟩;clear x0 x1 x2 y0 y1 y2 hh hg;obtain⟨⟨x0,x1,x2,y0,y1,y2⟩,hh⟩:=s6;go_wp2_with fail;refine(N1.out _).mono ?_;rintro e v7 ⟨rfl,hg⟩;have s7:=zbc w b1 b2 A B C D hg ⟨⟨x0,x1,x2,y0,y1,y2⟩,hh⟩;clear x0 x1 x2 y0 y1 y2 hh hg;obtain⟨⟨x0,x1,x2,y0,y1,y2⟩,hh⟩:=s7;go_wp2_with fail;refine(R.out _).mono ?_;rintro e v8 ⟨rfl,hg⟩;have s8:=zbc w b1 b2 A B C D hg ⟨⟨x0,x1,x2,y0,y1,y2⟩,hh⟩;clear x0 x1 x2 y0 y1 y2 hh hg;obtain⟨zb,zS,zT,z0,z1,z2,z3,z4,z5⟩:=zgb w b1 b2 A B C D s8;have hend:=zdB (a := .bool b) (b := .string S) (c := .string T) s8.2.out.g (show w.heap.size≤w.heap.size+1+1 by omega);have HE:=zHd hend;clear hend s8;go_wp2;exact bodyPost_ret (v := .agg #[.bool _,.string _,.string _]) (by simp[results,Tryz.results192,go_sem,z0,z1,z2,z3,z4,z5]) rfl ⟨rfl,HE.out⟩
theorem zCo (b1:Bool)(b:Bool)(A B C D N S T:ByteArray)(w:World)
  (T1:zbo A D) (T2:zbo C B) (T3:zbo B D)
  (N1:Hid (∀ w,Calls Tryz.prog 226 #[.string (mulS A D),.string (mulS C B)] w (zab (.tuple #[.string N,.int .i64 0]) w)))
  (R:Hid (∀ w,Calls Tryz.prog 200 #[.bool b1,.string N,.string (mulS B D)] w (zab (.agg #[.bool b,.string S,.string T]) w))) :
  Calls Tryz.prog 192 #[.agg #[.bool b1,.string A,.string B],.agg #[.bool b1,.string C,.string D]] w (zab (.agg #[.bool b,.string S,.string T]) w) :=
 zzf b1 b1 b A B C D N S T w (by simp) T1 T2 T3 N1 R
theorem zCp (b1 b2 b:Bool)(A B C D N S T:ByteArray)(c:Int)(w:World)(hne:b1≠b2)(hc:c<0)
  (T1:zbo A D) (T2:zbo C B) (T3:zbo B D)
  (CM:Hid (∀ w,Calls Tryz.prog 227 #[.string (mulS A D),.string (mulS C B)] w fun e w'=>e = .returned (.int .i64 c)∧w.grownBy w' none))
  (SU:Hid (∀ w,Calls Tryz.prog 228 #[.string (mulS C B),.string (mulS A D)] w (zab (.tuple #[.string N,.int .i64 0]) w)))
  (R:Hid (∀ w,Calls Tryz.prog 200 #[.bool b2,.string N,.string (mulS B D)] w (zab (.agg #[.bool b,.string S,.string T]) w))) :
  Calls Tryz.prog 192 #[.agg #[.bool b1,.string A,.string B],.agg #[.bool b2,.string C,.string D]] w (zab (.agg #[.bool b,.string S,.string T]) w):=by
 have he:(b1 == b2)=false:=by simpa using hne
 have h0:=zek w b1 b2 A B C D;obtain⟨W0,hW0⟩:∃ W0,W0=(((w.alloc (.cells #[.bool b1,.string A,.string B] 142)).alloc (.cells #[.bool b2,.string C,.string D] 142)).alloc (.cells #[.bool false,.string ⟨#[]⟩,.string ⟨#[]⟩] 142)):=⟨_,rfl⟩;rw[← hW0] at h0;have H0:=zHd h0;have HW0:=zHd hW0;clear h0 hW0;go_enter Tryz.func192,Tryz.ntmps192;go_wp2_with fail;rw[← HW0.out];have hs:=H0.out.drew.seen;unfold Seen at hs;have hh:=zHd H0.out.drew;clear HW0
 go_region_held3 (fun W'=>(W'.cell? ⟨w.heap.size,0,none⟩=some (.bool b1)∧W'.cell? ⟨w.heap.size,1,none⟩=some (.string A)∧W'.cell? ⟨w.heap.size,2,none⟩=some (.string B) ∧
   W'.cell? ⟨w.heap.size+1,0,none⟩=some (.bool b2)∧W'.cell? ⟨w.heap.size+1,1,none⟩=some (.string C)∧W'.cell? ⟨w.heap.size+1,2,none⟩=some (.string D))∧Hid (Held w W' b1 b2 A B C D))
  (first
   | exact⟨hs,hh⟩
   | assumption
   | exact s1
   | go_keep)
  (first
   | (go_at_call 201;refine(zel _ _ ?_ _).mono ?_;assumption;rintro e w5 ⟨rfl,hg5⟩;have s1:=zbc w b1 b2 A B C D hg5 ‹_›))
 clear hs hh H0;obtain⟨⟨x0,x1,x2,y0,y1,y2⟩,hh⟩:=s1;go_wp2_with fail;refine(T3 _).mono ?_;rintro e v6 ⟨rfl,hg⟩;have s6:=zbc w b1 b2 A B C D hg ⟨⟨x0,x1,x2,y0,y1,y2⟩,hh⟩;clear x0 x1 x2 y0 y1 y2 hh hg;obtain⟨⟨x0,x1,x2,y0,y1,y2⟩,hh⟩:=s6;go_wp2_with fail;refine(CM.out _).mono ?_;rintro e v7 ⟨rfl,hg⟩;have s7:=zbc w b1 b2 A B C D hg ⟨⟨x0,x1,x2,y0,y1,y2⟩,hh⟩;clear x0 x1 x2 y0 y1 y2 hh hg;obtain⟨⟨x0,x1,x2,y0,y1,y2⟩,hh⟩:=s7;go_wp2_with fail;refine(SU.out _).mono ?_;rintro e v8 ⟨rfl,hg⟩;have s8:=zbc w b1 b2 A B C D hg ⟨⟨x0,x1,x2,y0,y1,y2⟩,hh⟩;clear x0 x1 x2 y0 y1 y2 hh hg;obtain⟨⟨x0,x1,x2,y0,y1,y2⟩,hh⟩:=s8;go_wp2_with fail;refine(R.out _).mono ?_;rintro e v9 ⟨rfl,hg⟩;have s9:=zbc w b1 b2 A B C D hg ⟨⟨x0,x1,x2,y0,y1,y2⟩,hh⟩;clear x0 x1 x2 y0 y1 y2 hh hg;obtain⟨zb,zS,zT,z0,z1,z2,z3,z4,z5⟩:=zgb w b1 b2 A B C D s9;have hend:=zdB (a := .bool b) (b := .string S) (c := .string T) s9.2.out.g (show w.heap.size≤w.heap.size+1+1 by omega);have HE:=zHd hend;clear hend s9;go_wp2;exact bodyPost_ret (v := .agg #[.bool _,.string _,.string _]) (by simp[results,Tryz.results192,go_sem,z0,z1,z2,z3,z4,z5]) rfl ⟨rfl,HE.out⟩
theorem zCq (b1 b2 b:Bool)(A B C D N S T:ByteArray)(c:Int)(w:World)(hne:b1≠b2)(hc:¬ c<0)
  (T1:zbo A D) (T2:zbo C B) (T3:zbo B D)
  (CM:Hid (∀ w,Calls Tryz.prog 227 #[.string (mulS A D),.string (mulS C B)] w fun e w'=>e = .returned (.int .i64 c)∧w.grownBy w' none))
  (SU:Hid (∀ w,Calls Tryz.prog 228 #[.string (mulS A D),.string (mulS C B)] w (zab (.tuple #[.string N,.int .i64 0]) w)))
  (R:Hid (∀ w,Calls Tryz.prog 200 #[.bool b1,.string N,.string (mulS B D)] w (zab (.agg #[.bool b,.string S,.string T]) w))) :
  Calls Tryz.prog 192 #[.agg #[.bool b1,.string A,.string B],.agg #[.bool b2,.string C,.string D]] w (zab (.agg #[.bool b,.string S,.string T]) w):=by
 have he:(b1 == b2)=false:=by simpa using hne
 have h0:=zek w b1 b2 A B C D;obtain⟨W0,hW0⟩:∃ W0,W0=(((w.alloc (.cells #[.bool b1,.string A,.string B] 142)).alloc (.cells #[.bool b2,.string C,.string D] 142)).alloc (.cells #[.bool false,.string ⟨#[]⟩,.string ⟨#[]⟩] 142)):=⟨_,rfl⟩;rw[← hW0] at h0;have H0:=zHd h0;have HW0:=zHd hW0;clear h0 hW0;go_enter Tryz.func192,Tryz.ntmps192;go_wp2_with fail;rw[← HW0.out];have hs:=H0.out.drew.seen;unfold Seen at hs;have hh:=zHd H0.out.drew;clear HW0
 go_region_held3 (fun W'=>(W'.cell? ⟨w.heap.size,0,none⟩=some (.bool b1)∧W'.cell? ⟨w.heap.size,1,none⟩=some (.string A)∧W'.cell? ⟨w.heap.size,2,none⟩=some (.string B) ∧
   W'.cell? ⟨w.heap.size+1,0,none⟩=some (.bool b2)∧W'.cell? ⟨w.heap.size+1,1,none⟩=some (.string C)∧W'.cell? ⟨w.heap.size+1,2,none⟩=some (.string D))∧Hid (Held w W' b1 b2 A B C D))
  (first
   | exact⟨hs,hh⟩
   | assumption
   | exact s1
   | go_keep)
  (first
   | (go_at_call 201;refine(zel _ _ ?_ _).mono ?_;assumption;rintro e w5 ⟨rfl,hg5⟩;have s1:=zbc w b1 b2 A B C D hg5 ‹_›))
 clear hs hh H0;obtain⟨⟨x0,x1,x2,y0,y1,y2⟩,hh⟩:=s1;go_wp2_with fail;refine(T3 _).mono ?_;rintro e v6 ⟨rfl,hg⟩;have s6:=zbc w b1 b2 A B C D hg ⟨⟨x0,x1,x2,y0,y1,y2⟩,hh⟩;clear x0 x1 x2 y0 y1 y2 hh hg;obtain⟨⟨x0,x1,x2,y0,y1,y2⟩,hh⟩:=s6;go_wp2_with fail;refine(CM.out _).mono ?_;rintro e v7 ⟨rfl,hg⟩;have s7:=zbc w b1 b2 A B C D hg ⟨⟨x0,x1,x2,y0,y1,y2⟩,hh⟩;clear x0 x1 x2 y0 y1 y2 hh hg;obtain⟨⟨x0,x1,x2,y0,y1,y2⟩,hh⟩:=s7;go_wp2_with fail;refine(SU.out _).mono ?_;rintro e v8 ⟨rfl,hg⟩;have s8:=zbc w b1 b2 A B C D hg ⟨⟨x0,x1,x2,y0,y1,y2⟩,hh⟩;clear x0 x1 x2 y0 y1 y2 hh hg;obtain⟨⟨x0,x1,x2,y0,y1,y2⟩,hh⟩:=s8;go_wp2_with fail;refine(R.out _).mono ?_;rintro e v9 ⟨rfl,hg⟩;have s9:=zbc w b1 b2 A B C D hg ⟨⟨x0,x1,x2,y0,y1,y2⟩,hh⟩;clear x0 x1 x2 y0 y1 y2 hh hg;obtain⟨zb,zS,zT,z0,z1,z2,z3,z4,z5⟩:=zgb w b1 b2 A B C D s9;have hend:=zdB (a := .bool b) (b := .string S) (c := .string T) s9.2.out.g (show w.heap.size≤w.heap.size+1+1 by omega);have HE:=zHd hend;clear hend s9;go_wp2;exact bodyPost_ret (v := .agg #[.bool _,.string _,.string _]) (by simp[results,Tryz.results192,go_sem,z0,z1,z2,z3,z4,z5]) rfl ⟨rfl,HE.out⟩
open Go.RowKit
open Go.Lib (nDigits decDigits)
structure Pair (w W:World)(b1 b2:Bool)(A B C D:ByteArray):Prop where
 x:Num W w.heap.size b1 A B
 y:Num W (w.heap.size+1) b2 C D
 g:w.grownBy W none
def Two (w W:World)(b1 b2:Bool)(A B C D:ByteArray):Prop :=
 (W.cell? ⟨w.heap.size,0,none⟩=some (.bool b1)∧W.cell? ⟨w.heap.size,1,none⟩=some (.string A)∧W.cell? ⟨w.heap.size,2,none⟩=some (.string B) ∧
  W.cell? ⟨w.heap.size+1,0,none⟩=some (.bool b2)∧W.cell? ⟨w.heap.size+1,1,none⟩=some (.string C)∧W.cell? ⟨w.heap.size+1,2,none⟩=some (.string D))∧Hid (Pair w W b1 b2 A B C D)
theorem Pair.next {w W W':World}{b1 b2:Bool}{A B C D:ByteArray}(h:Pair w W b1 b2 A B C D)(hg:W.grownBy W' none):Pair w W' b1 b2 A B C D :=
 ⟨h.x.grown hg,h.y.grown hg,zaa h.g hg⟩
theorem Pair.drew {w W:World}{b1 b2:Bool}{A B C D:ByteArray}(h:Pair w W b1 b2 A B C D):Pair w W.drew b1 b2 A B C D:=h.next (zae W none)
theorem Pair.two {w W:World}{b1 b2:Bool}{A B C D:ByteArray}(h:Pair w W b1 b2 A B C D):Two w W b1 b2 A B C D:=by
 obtain⟨x0,x1,x2,_⟩:=h.x.cells;obtain⟨y0,y1,y2,_⟩:=h.y.cells;exact⟨⟨x0,x1,x2,y0,y1,y2⟩,zHd h⟩
theorem zhw (w:World)(b1 b2:Bool)(A B C D:ByteArray){W W':World}(hg:W.grownBy W' none)
  (h:(W.cell? ⟨w.heap.size,0,none⟩=some (.bool b1)∧W.cell? ⟨w.heap.size,1,none⟩=some (.string A)∧W.cell? ⟨w.heap.size,2,none⟩=some (.string B) ∧
   W.cell? ⟨w.heap.size+1,0,none⟩=some (.bool b2)∧W.cell? ⟨w.heap.size+1,1,none⟩=some (.string C)∧W.cell? ⟨w.heap.size+1,2,none⟩=some (.string D))∧Hid (Pair w W b1 b2 A B C D)) :
  (W'.cell? ⟨w.heap.size,0,none⟩=some (.bool b1)∧W'.cell? ⟨w.heap.size,1,none⟩=some (.string A)∧W'.cell? ⟨w.heap.size,2,none⟩=some (.string B) ∧
   W'.cell? ⟨w.heap.size+1,0,none⟩=some (.bool b2)∧W'.cell? ⟨w.heap.size+1,1,none⟩=some (.string C)∧W'.cell? ⟨w.heap.size+1,2,none⟩=some (.string D))∧Hid (Pair w W' b1 b2 A B C D) :=
 (h.2.out.next hg).two
theorem zna (w:World)(b1 b2:Bool)(A B C D:ByteArray) :
  Pair w ((w.alloc (.cells #[.bool b1,.string A,.string B] 142)).alloc (.cells #[.bool b2,.string C,.string D] 142)) b1 b2 A B C D:=by
 refine⟨?_,?_,?_⟩
 ·unfold Num
  rw[zbk _ _ _ (by simp),zcD _ _ _ rfl]
 ·unfold Num
  rw[zcD _ _ _ (by simp)]
 ·exact zaa (zGA _ _ none) (zGA _ _ none)
theorem zjS (b1 b2:Bool)(A B C D:ByteArray)(w:World)(hne:b1≠b2) :
  Calls Tryz.prog 196 #[.agg #[.bool b1,.string A,.string B],.agg #[.bool b2,.string C,.string D]] w (zab (.int .i64 (if b1 then -1 else 1)) w):=by
 cases b1 <;> cases b2 <;> simp only[ne_eq,not_true,Bool.false_eq_true,Bool.true_eq_false,not_false_eq_true] at hne
 all_goals
  go_enter Tryz.func196,Tryz.ntmps196;go_wp2;go_ret;exact⟨rfl,zaa (zGA _ _ _) (zGA _ _ _)⟩
theorem zrT (A B C D:ByteArray)(c:Int)(w:World)
  (T1:zbo A D) (T2:zbo C B)
  (CM:Hid (∀ w,Calls Tryz.prog 227 #[.string (mulS A D),.string (mulS C B)] w fun e w'=>e = .returned (.int .i64 c)∧w.grownBy w' none)) :
  Calls Tryz.prog 196 #[.agg #[.bool false,.string A,.string B],.agg #[.bool false,.string C,.string D]] w (zab (.int .i64 c) w):=by
 have h0:=zna w false false A B C D;have H0:=zHd h0;obtain⟨hs,hh⟩:=h0.drew.two;obtain⟨⟨x0,x1,x2,y0,y1,y2⟩,hh0⟩:=h0.two;clear h0 hh0;go_enter Tryz.func196,Tryz.ntmps196;go_wp2_with fail;clear x0 x1 x2 y0 y1 y2
 go_region_held3 (fun W'=>(W'.cell? ⟨w.heap.size,0,none⟩=some (.bool false)∧W'.cell? ⟨w.heap.size,1,none⟩=some (.string A)∧W'.cell? ⟨w.heap.size,2,none⟩=some (.string B) ∧
   W'.cell? ⟨w.heap.size+1,0,none⟩=some (.bool false)∧W'.cell? ⟨w.heap.size+1,1,none⟩=some (.string C)∧W'.cell? ⟨w.heap.size+1,2,none⟩=some (.string D))∧Hid (Pair w W' false false A B C D))
  (first
   | exact⟨hs,hh⟩
   | assumption
   | exact s1
   | go_keep)
  (first
   | (go_at_call 201;refine(zel _ _ ?_ _).mono ?_;assumption;rintro e w5 ⟨rfl,hg5⟩;have s1:=zhw w false false A B C D hg5 ‹_›)
   | (go_at_call 227;refine(CM.out _).mono ?_;rintro e w5 ⟨rfl,hg5⟩;have s1:=zhw w false false A B C D hg5 ‹_›))
 have HE:=zHd s1.2.out.g;clear s1 hs hh H0;go_wp2;go_ret;exact⟨rfl,HE.out⟩
theorem zqQ (A B C D:ByteArray)(c:Int)(w:World)
  (T1:zbo C B) (T2:zbo A D)
  (CM:Hid (∀ w,Calls Tryz.prog 227 #[.string (mulS C B),.string (mulS A D)] w fun e w'=>e = .returned (.int .i64 c)∧w.grownBy w' none)) :
  Calls Tryz.prog 196 #[.agg #[.bool true,.string A,.string B],.agg #[.bool true,.string C,.string D]] w (zab (.int .i64 c) w):=by
 have h0:=zna w true true C D A B;obtain⟨hs,hh⟩:=h0.drew.two;clear h0;go_enter Tryz.func196,Tryz.ntmps196;go_wp2_with fail
 go_region_held3 (fun W'=>(W'.cell? ⟨w.heap.size,0,none⟩=some (.bool true)∧W'.cell? ⟨w.heap.size,1,none⟩=some (.string C)∧W'.cell? ⟨w.heap.size,2,none⟩=some (.string D) ∧
   W'.cell? ⟨w.heap.size+1,0,none⟩=some (.bool true)∧W'.cell? ⟨w.heap.size+1,1,none⟩=some (.string A)∧W'.cell? ⟨w.heap.size+1,2,none⟩=some (.string B))∧Hid (Pair w W' true true C D A B))
  (first
   | exact⟨hs,hh⟩
   | assumption
   | exact s1
   | go_keep)
  (first
   | (go_at_call 201;refine(zel _ _ ?_ _).mono ?_;assumption;rintro e w5 ⟨rfl,hg5⟩;have s1:=zhw w true true C D A B hg5 ‹_›)
   | (go_at_call 227;refine(CM.out _).mono ?_;rintro e w5 ⟨rfl,hg5⟩;have s1:=zhw w true true C D A B hg5 ‹_›))
 have HE:=zHd s1.2.out.g;clear s1 hs hh;go_wp2;go_ret;exact⟨rfl,HE.out⟩
theorem zle (m n:Nat)(hm:nDigits m≤1000)(hn:nDigits n≤1000):cmpV (decS m) (decS n)=cmpN m n:=by
 unfold cmpV;rw[zaM m hm,zaM n hn,zaD,zaD]
 rfl
theorem zlf (m n:Nat)(hm:nDigits m≤1000)(hn:nDigits n≤1000)(h:n≤m):subV (decS m) (decS n) = .tuple #[.string (decS (m - n)),.int .i64 0]:=by
 unfold subV;rw[zaM m hm,zaM n hn,zaD,zaD];simp only[Bool.and_self,if_true];rw[if_neg (by omega)]
end Go.Proofs.YtaogepcaoogpgaaGreatDoor
