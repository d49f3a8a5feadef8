/- Part. -/
import Derived.Test.YtiblmbpfcmcccaaGreatDoorKX03
set_option linter.unusedVariables false
set_option linter.defProp false
set_option linter.unusedSimpArgs false
set_option maxRecDepth 100000
set_option maxHeartbeats 16000000
namespace Go.Proofs.YtiblmbpfcmcccaaGreatDoor
open Go.Proofs.Tryz
open Go.RowKit
def zLn (p:Addr)(x E:Int)(older:List PanicEntry)(w:World)(hc:w.cell? p=some (.int .i64 x))(hz:w.frozen? p=false) :
  CallsD prog 229 #[.pointer (some p)] (.panicking ({ v:=.iface 28 (.int .i64 E),recovered:=false }::older)) w fun e u' w' =>
   e=.returned (.tuple #[])/\u'=.panicking ({ v:=.iface 28 (.int .i64 E),recovered:=true }::older)/\w'=w.setCell p (.int .i64 E):=by
 refine callsD_of_wpS func229 rfl fun c₀ cs hu=>?_;apply wpS_seq;apply wpS_region;simp[wpOpsS,go_sem,recoverD,hu,ntmps229,Exit.thenS];clear hu;obtain⟨fs,hfs⟩:∃ fs:List Frame,fs = { c₀ with mode:=.panicking ({ v:=.iface 28 (.int .i64 E),recovered:=true }::older) }::cs:=⟨_,rfl⟩;have HFS:=zHd hfs;rw[<- hfs];clear hfs;have h1:∀ w:World,(binOp .neq 20 (.iface 28 (.int .i64 E)) .nilIface).run prog w=.ok (.bool true) w:=fun w=>run_neq_held_nil _ _ _ _ (by kernel_rfl);have h2:∀ w:World,(Instr.typeAssert (.iface 28 (.int .i64 E)) 20 28 false).run prog w=.ok (.int .i64 E) w:=fun w=>by kernel_rfl
 refine wpS_of_wp ?_;go_wp2_with fail;clear h1 h2 hc hz;rw[HFS.out];exact⟨rfl,_,rfl,.tuple #[],by simp[results,results229],rfl,rfl,rfl⟩
def idle (p:Addr)(w:World) :
  CallsD prog 229 #[.pointer (some p)] .returning w fun e u' w'=>e=.returned (.tuple #[])/\u'=.returning/\w'=w:=by
 refine callsD_of_wpS func229 rfl fun c₀ cs hu=>?_;apply wpS_seq;apply wpS_region;simp[wpOpsS,go_sem,recoverD,hu,ntmps229,Exit.thenS];refine wpS_of_wp ?_;go_wp2;cases c₀
 simp_all [bodyPostS,results,results229]
def zfY (E:Int)(w:World)(e:Ending)(w':World):Prop:=e=.panicked [{ v:=.iface 28 (.int .i64 E),recovered:=false }]/\w.grownBy w' none
def Enters (F:Nat):Prop:=∀ (args:Array Value) (w:World),(callFunc F args).run prog w=.ok (.enter F args) w
def zaG (w:World)(o:Obj):(w.alloc o).heap[w.heap.size]?=some o:=by show(w.heap.push o)[w.heap.size]?=some o;simp
def zGK (S:ByteArray)(w w2:World)(tmps:Array Value)(ht:tmps=#[tmps.getD 0 undef,tmps.getD 1 undef,.string S,.pointer (some ⟨w.heap.size,0,none⟩),tmps.getD 4 undef,tmps.getD 5 undef,tmps.getD 6 undef])
  (hb:w2.heap[w.heap.size]?=some (.cells #[.int .i64 0] 28 (0,0))) (hg:w.grownBy w2 none) :
  Leaves prog f204 tmps (zab (.tuple #[.string S,.int .i64 0]) w) [{ target:=.fn (.func 229) #[.pointer (some ⟨w.heap.size,0,none⟩)],args:=#[] }] .returning w2:=by
 have zE:=cell_of_one hb;refine leaves_cons (f:=229) (args:=#[.pointer (some ⟨w.heap.size,0,none⟩)]) (by simp) (by simp[go_sem]) ?_;refine(idle ⟨w.heap.size,0,none⟩ _).mono ?_;rintro e u' w'' ⟨rfl,rfl,rfl⟩;rw[ht];refine⟨.tuple #[.string S,.int .i64 0],by simp[results,results204,go_sem,zE],rfl,hg⟩
def zGL (E:Int)(w w2:World)(tmps:Array Value)(ht:tmps=#[tmps.getD 0 undef,tmps.getD 1 undef,.string ⟨#[]⟩,.pointer (some ⟨w.heap.size,0,none⟩),tmps.getD 4 undef,tmps.getD 5 undef,tmps.getD 6 undef])
  (hb:w2.heap[w.heap.size]?=some (.cells #[.int .i64 0] 28 (0,0))) (hg:w.grownBy w2 none) :
  Leaves prog f204 tmps (zab (.tuple #[.string ⟨#[]⟩,.int .i64 E]) w) [{ target:=.fn (.func 229) #[.pointer (some ⟨w.heap.size,0,none⟩)],args:=#[] }] (.panicking [{ v:=.iface 28 (.int .i64 E),recovered:=false }]) w2:=by
 have zE:=cell_of_one (one_setCell (u:=.int .i64 E) hb);refine leaves_cons (f:=229) (args:=#[.pointer (some ⟨w.heap.size,0,none⟩)]) (by simp) (by simp[go_sem]) ?_;refine(zLn ⟨w.heap.size,0,none⟩ 0 E [] _ (cell_of_one hb) (free_of_one hb)).mono ?_;rintro e u' w'' ⟨rfl,rfl,rfl⟩;rw[ht];refine⟨.tuple #[.string ⟨#[]⟩,.int .i64 E],by simp[results,results204,go_sem,zE],rfl,?_⟩;exact zQbe
def alloc_old {w w2:World}{o:Obj}(hg:(w.alloc o).grownBy w2 none):w2.heap[w.heap.size]?=some o :=
 (hg.block _ (by simp) (by simp)).trans (zaG w o)
def zqn (F:Nat)(he:Enters F)(first cap:Array Value)(S:ByteArray)(w:World)
  (h:Calls prog F (first++cap) (w.alloc (.cells #[.int .i64 0] 28)) (zab (.string S) (w.alloc (.cells #[.int .i64 0] 28)))) :
  Calls prog 204 #[.func (.func F) first cap] w (zab (.tuple #[.string S,.int .i64 0]) w):=by
 have hmf := @zMF prog;have H:=zHd h;have HE:=zHd he;clear h he
 go_enter_defers func204,ntmps204
 go_wp2_with fail;rw[HE.out];refine H.out.mono ?_;rintro e w2 ⟨rfl,hg⟩;have hb:=alloc_old hg;have zE:=cell_of_one hb;have hfree:=free_of_one hb;have HB:=zHd hb;have HG:=zHd hg;clear hb hg H HE;go_wp2;exact zGK S w _ _ rfl (one_setCell HB.out) (zak (zaa (zGA _ _ none) HG.out) (zac w2 ⟨w.heap.size,0,none⟩ _) (zqab _))
def zqo (F:Nat)(he:Enters F)(first cap:Array Value)(E:Int)(w:World)
  (h:Calls prog F (first++cap) (w.alloc (.cells #[.int .i64 0] 28)) (zfY E (w.alloc (.cells #[.int .i64 0] 28)))) :
  Calls prog 204 #[.func (.func F) first cap] w (zab (.tuple #[.string ⟨#[]⟩,.int .i64 E]) w):=by
 have hmf := @zMF prog;have H:=zHd h;have HE:=zHd he;clear h he
 go_enter_defers func204,ntmps204
 go_wp2_with fail;rw[HE.out];refine H.out.mono ?_;rintro e w2 ⟨rfl,hg⟩;have hb:=alloc_old hg;have HB:=zHd hb;have HG:=zHd hg;clear hb hg H HE;exact zGL E w _ _ rfl HB.out (zaa (zGA _ _ none) HG.out)
open Go.RowKit
open Go.Lib (nDigits)
def cutV (s:ByteArray):Value:=.tuple #[.string ⟨(Lib.cut s.data.toList [47]).1.toArray⟩,.string ⟨(Lib.cut s.data.toList [47]).2.1.toArray⟩,.bool (Lib.cut s.data.toList [47]).2.2]
def zCT (s:ByteArray)(w:World)(hs:s.size<=maxLen) :
  Calls prog 224 #[.string s,.string ⟨#[47]⟩] w (zab (cutV s) w):=by
 unfold maxLen at hs;rcases Lib.indexB_cases s ⟨#[47]⟩ with hix|⟨i,hix,hroom⟩
 ·obtain⟨e1,e2,e3⟩:=Lib.cutB_miss s ⟨#[47]⟩ hix
  have HV:=zHd (show cutV s=.tuple #[.string s,.string ⟨#[]⟩,.bool false] by unfold cutV;rw[show([47]:List UInt8)=(⟨#[47]⟩:ByteArray).data.toList from rfl,e1,e2,e3];rfl);have hi:Lib.indexByte s.data.toList 47 = -1:=by rw[<- Lib.index_one];exact hix
  have hc:=fun w=>Tryz.stringslite_Index_one s 47 w;rw[hi] at hc;have HC:=zHd hc;clear hix hi hc e1 e2 e3;go_enter func224,ntmps224;go_wp2_with fail;refine(HC.out _).mono ?_;rintro e w' ⟨rfl,rfl⟩;go_wp2
  go_ret3
  exact zQaT
 obtain⟨e1,e2,e3⟩:=Lib.cutB_hit s ⟨#[47]⟩ i hix;have HV:=zHd (show cutV s=.tuple #[.string (s.extract 0 i),.string (s.extract (i+1) s.size),.bool true] by unfold cutV;rw[show([47]:List UInt8)=(⟨#[47]⟩:ByteArray).data.toList from rfl,e1,e2,e3];rfl);have hi:Lib.indexByte s.data.toList 47=i:=by rw[<- Lib.index_one];exact hix
 have hc:=fun w=>Tryz.stringslite_Index_one s 47 w;rw[hi] at hc;have HC:=zHd hc;have hroom':i+1<=s.size:=hroom;clear hix hi hc e1 e2 e3 hroom;have c1:(0:Int)<=↑i:=by omega
 have c2:(↑i:Int)<=↑s.size:=by omega
 have c3:(0:Int)<=↑i+1:=by omega
 have c4:(↑i+1:Int)<=↑s.size:=by omega
 go_enter func224,ntmps224;go_wp2_with fail;refine(HC.out _).mono ?_;rintro e w' ⟨rfl,rfl⟩;go_wp2
 go_quiet (fail)
 go_wp2
 go_ret3
 exact⟨by rw[HV.out];rfl,zcg _ _ _⟩
def zJV (s:ByteArray)(w:World)(hs:s.size<=maxLen) :
  Calls prog 197 #[.string s,.string ⟨#[47]⟩] w (zab (cutV s) w):=by
 have hc:=fun w=>zCT s w hs;unfold cutV at hc ⊢;obtain⟨A,hA⟩:∃ A:ByteArray,(⟨(Lib.cut s.data.toList [47]).1.toArray⟩:ByteArray)=A:=⟨_,rfl⟩;obtain⟨B,hB⟩:∃ B:ByteArray,(⟨(Lib.cut s.data.toList [47]).2.1.toArray⟩:ByteArray)=B:=⟨_,rfl⟩;obtain⟨C,hC⟩:∃ C:Bool,(Lib.cut s.data.toList [47]).2.2=C:=⟨_,rfl⟩;rw[hA,hB,hC] at hc ⊢;have HC:=zHd hc;clear hc hA hB hC;go_enter func197,ntmps197;go_wp2_with fail;refine(HC.out _).mono ?_;rintro e w' ⟨rfl,hg⟩;have HG:=zHd hg;clear hg;go_wp2
 go_ret3
 exact⟨rfl,HG.out⟩
def zgJ (n:Nat):((zai n).toList==[49])=decide (n=1)/\((zai n).toList != [49]) = !decide (n=1):=by
 have e:((zai n).toList==[49])=decide (n=1):=by
  rw[Bool.eq_iff_iff,zqca,beq_iff_eq,Lib.toList_data];constructor
  ·intro h
   apply znR;rw[zyT];unfold zai at h ⊢;simp at h;rw[h]
  rintro rfl;rw[zyT]
 exact⟨e,by rw[bne,e]⟩
def zero_str' (n:Nat):((zai n).toList==[48])=decide (n=0)/\((zai n).toList != [48]) = !decide (n=0):=by
 have e:((zai n).toList==[48])=decide (n=0):=by
  rw[Bool.eq_iff_iff,zqca,beq_iff_eq,Lib.toList_data];constructor
  ·intro h
   apply znR;rw[zpb];unfold zai at h ⊢;simp at h;rw[h]
  rintro rfl;rw[zpb]
 exact⟨e,by rw[bne,e]⟩
def zvq (m n:Nat)(hm:nDigits m<=1000)(hn:nDigits n<=1000)(h:nDigits (m*n)<=1000):zew (zai m) (zai n)=.tuple #[.string (zai (m*n)),.int .i64 0] :=
 zGz _ _ _ (zaZ m hm) (zaZ n hn) (zaZ _ h) (by rw[zaS,zaS,zaS])
def zaV (n:Nat)(h:nDigits n<=1000):(zai n).size<=maxLen:=zbo (zaZ n h)
def zCU (m n:Nat)(w:World)(hm:nDigits m<=1000)(hn:nDigits n<=1000)(h:nDigits (m*n)<=1000) :
  Calls prog 208 #[.string (zai m),.string (zai n)] w (zab (.string (zai (m*n))) w):=by
 have f1:=(zgJ m).1;have f2:=(zgJ n).1
 by_cases h1:m=1
 ·subst h1
  simp only[decide_true] at f1;rw[Nat.one_mul];clear f2 h;generalize zai 1=A at *;generalize zai n=B at *;go_enter func208,ntmps208;exact zQaN
 simp only[h1,decide_false] at f1
 by_cases h2:n=1
 ·subst h2
  simp only[decide_true] at f2;rw[Nat.mul_one];clear h h1;generalize zai 1=B at *;generalize zai m=A at *;go_enter func208,ntmps208;exact zQaN
 simp only[h2,decide_false] at f2;have hc:=fun w=>zJQ (zai m) (zai n) w (zaV m hm) (zaV n hn);rw[zvq m n hm hn h] at hc;generalize zai m=A at *;generalize zai n=B at *;generalize zai (m*n)=C at *;have HC:=zHd hc;clear hc h1 h2 h;go_enter func208,ntmps208;go_wp2_with fail;refine(HC.out _).mono ?_;rintro e w' ⟨rfl,hg⟩;have HG:=zHd hg;clear hg;go_wp2;exact zQbJ
def zGM (m n:Nat)(hm:nDigits m<=1000)(hn:nDigits n<=1000):zeI (zai m) (zai n)=.tuple #[.string (zai (Nat.gcd m n)),.int .i64 0]:=by
 unfold zeI;rw[zaZ m hm,zaZ n hn,zaS,zaS];rfl
def zpd (m n:Nat)(hm:nDigits m<=1000)(hn:nDigits n<=1000)(h0:n≠0):zdq (zai m) (zai n)=.tuple #[.string (zai (m/n)),.string (zai (m%n)),.int .i64 0]:=by
 unfold zdq;rw[zaZ m hm,zaZ n hn,zaS,zaS];simp only[Bool.and_self,if_true];rw[if_neg h0]
def zrU {w:World}{g:Nat}{a b c:Value}(h:w.heap[g]?=some (.cells #[a,b,c] 166 (0,0))) :
  w.cell? ⟨g,0,none⟩=some a/\w.cell? ⟨g,1,none⟩=some b/\w.cell? ⟨g,2,none⟩=some c/\w.frozen? ⟨g,0,none⟩=false/\w.frozen? ⟨g,1,none⟩=false/\w.frozen? ⟨g,2,none⟩=false :=
 ⟨by rw[zqbw w g 0 _ _ (0,0) h];rfl,by rw[zqbw w g 1 _ _ (0,0) h];rfl,by rw[zqbw w g 2 _ _ (0,0) h];rfl,zqbx w g 0 _ _ h,zqbx w g 1 _ _ h,zqbx w g 2 _ _ h⟩
def zfk {w w1:World}{g:Nat}{a b c:Value}(h:w.grownBy w1 none)(hg:w.heap.size<=g):w.grownBy (((w1.setCell ⟨g,0,none⟩ a).setCell ⟨g,1,none⟩ b).setCell ⟨g,2,none⟩ c) none :=
 zak (zak (zak h (zac w1 ⟨g,0,none⟩ a) hg) (zac _ ⟨g,1,none⟩ b) hg) (zac _ ⟨g,2,none⟩ c) hg
def zlm {A:ByteArray}{c:Bool}(f:(A.toList != [48])=c):(A.toList==[48]) = !c:=by
 rw[<- f,bne,Bool.not_not]
def zvr (neg b c:Bool)(A B:ByteArray)(w:World)(f0:(A.toList != [48])=c)(hb:(neg&&c)=b)(f1:(B.toList==[49])=true) :
  Calls prog 207 #[.bool neg,.string A,.string B] w (zab (.agg #[.bool b,.string A,.string B]) w):=by
 have f00:=zlm f0;subst hb;cases neg <;> cases c <;> simp only[Bool.not_true,Bool.not_false] at f00
 all_goals
  go_enter func207,ntmps207;go_wp2;exact zqby (v:=.agg #[.bool _,.string A,.string B]) (by simp[results,results207,go_sem]) rfl ⟨rfl,zGA _ _ _⟩
def zvs (neg b c:Bool)(A B G:ByteArray)(w:World)(f0:(A.toList != [48])=c)(hb:(neg&&c)=b)(f1:(B.toList==[49])=false)(f2:(G.toList==[49])=true)
  (C:Hid (∀ w,Calls prog 230 #[.string A,.string B] w (zab (.tuple #[.string G,.int .i64 0]) w))) :
  Calls prog 207 #[.bool neg,.string A,.string B] w (zab (.agg #[.bool b,.string A,.string B]) w):=by
 have f00:=zlm f0;subst hb;cases neg <;> cases c <;> simp only[Bool.not_true,Bool.not_false] at f00
 all_goals
  go_enter func207,ntmps207;go_wp2_with fail;refine(C.out _).mono ?_;rintro e w1 ⟨rfl,hg⟩;have hb:=alloc_old hg;have hc:=zrU hb;have G1:=zHd (zaa (zGA _ _ none) hg);have HB:=zHd hb;clear hg hb;go_wp2;exact zqby (v:=.agg #[.bool _,.string A,.string B]) (by simp[results,results207,go_sem,hc]) rfl ⟨rfl,zfk G1.out (zqab _)⟩
def zAn (neg b c:Bool)(A B G Q1 R1 Q2 R2:ByteArray)(w:World)(f0:(A.toList != [48])=c)(hb:(neg&&c)=b)(f1:(B.toList==[49])=false)(f2:(G.toList==[49])=false)
  (C:Hid (∀ w,Calls prog 230 #[.string A,.string B] w (zab (.tuple #[.string G,.int .i64 0]) w)))
  (D1:Hid (∀ w,Calls prog 231 #[.string A,.string G] w (zab (.tuple #[.string Q1,.string R1,.int .i64 0]) w)))
  (D2:Hid (∀ w,Calls prog 231 #[.string B,.string G] w (zab (.tuple #[.string Q2,.string R2,.int .i64 0]) w))) :
  Calls prog 207 #[.bool neg,.string A,.string B] w (zab (.agg #[.bool b,.string Q1,.string Q2]) w):=by
 have f00:=zlm f0;subst hb;cases neg <;> cases c <;> simp only[Bool.not_true,Bool.not_false] at f00
 all_goals
  go_enter func207,ntmps207;go_wp2_with fail;refine(C.out _).mono ?_;rintro e w1 ⟨rfl,hg⟩;have hb:=alloc_old hg;have G1:=zHd (zaa (zGA _ _ none) hg);have HB:=zHd hb;clear hg hb;go_wp2_with fail;refine(D1.out _).mono ?_;rintro e w2 ⟨rfl,hg⟩;have G2:=zHd hg;clear hg;go_wp2_with fail;refine(D2.out _).mono ?_;rintro e w3 ⟨rfl,hg⟩;have G3:=zHd (zaa G2.out hg);clear hg;have hlt:=lt_of_block HB.out;have hc:=zrU ((G3.out.block _ hlt (by simp)).trans HB.out);clear hlt;go_wp2;exact zqby (v:=.agg #[.bool _,.string Q1,.string Q2]) (by simp[results,results207,go_sem,hc]) rfl ⟨rfl,zfk (zaa G1.out G3.out) (zqab _)⟩
def zqp (neg:Bool)(n d:Nat)(w:World)(hd:d≠0)(hn:nDigits n<=1000)(hdd:nDigits d<=1000) :
  Calls prog 207 #[.bool neg,.string (zai n),.string (zai d)] w (zab (zdW (mkRat (sg neg n) d)) w):=by
 have f0:=(zero_str' n).2;have f1:=(zgJ d).1;have hg0:Nat.gcd n d≠0:=by have:=Nat.gcd_pos_of_pos_right n (Nat.pos_of_ne_zero hd);omega
 have hgl:Nat.gcd n d<=d:=Nat.le_of_dvd (Nat.pos_of_ne_zero hd) (Nat.gcd_dvd_right n d);have hgd:nDigits (Nat.gcd n d)<=1000:=zqam (zbA hgl) hdd;rw[zJE neg n d hd]
 by_cases h1:d=1
 ·subst h1
  rw[Nat.gcd_one_right,Nat.div_one,Nat.div_one];exact zvr neg _ _ _ _ w f0 rfl (by simpa using f1)
 have hc:=fun w=>zJT (zai n) (zai d) w (zaV n hn) (zaV d hdd);rw[zGM n d hn hdd] at hc;have f2:=(zgJ (Nat.gcd n d)).1;have f1':((zai d).toList==[49])=false:=by rw[f1];simpa using h1
 by_cases h2:Nat.gcd n d=1
 ·rw[h2] at f2 hc ⊢
  rw[Nat.div_one,Nat.div_one];exact zvs neg _ _ _ _ _ w f0 rfl f1' (by simpa using f2) (zHd hc)
 have hd1:=fun w=>zyS (zai n) (zai (Nat.gcd n d)) w (zaV n hn) (zaV _ hgd);have hd2:=fun w=>zyS (zai d) (zai (Nat.gcd n d)) w (zaV d hdd) (zaV _ hgd);rw[zpd n _ hn hgd hg0] at hd1;rw[zpd d _ hdd hgd hg0] at hd2;exact zAn neg _ _ _ _ _ _ _ _ _ w f0 rfl f1' (by rw[f2];simpa using h2) (zHd hc) (zHd hd1) (zHd hd2)
open Go.RowKit
open Go.Lib (nDigits decDigits)
def zGN (b:Bool)(A B S:ByteArray)(w:World)(h:max (A.size:Int) (B.size:Int)<=400)(f1:(B.toList==[49])=true)(hS:Hid ((if b then ⟨#[45]⟩++A else A)=S)) :
  Calls prog 206 #[.agg #[.bool b,.string A,.string B]] w (zab (.string S) w):=by
 cases b
 all_goals
  exact zQbu
def zCV (b:Bool)(A B S:ByteArray)(w:World)(h:max (A.size:Int) (B.size:Int)<=400)(f1:(B.toList==[49])=false)(hS:Hid ((if b then ⟨#[45]⟩++A else A)++(⟨#[47]⟩++B)=S)) :
  Calls prog 206 #[.agg #[.bool b,.string A,.string B]] w (zab (.string S) w):=by
 cases b
 all_goals
  exact zQbu
def zCW (b:Bool)(A B:ByteArray)(w:World)(h:400<max (A.size:Int) (B.size:Int)) :
  Calls prog 206 #[.agg #[.bool b,.string A,.string B]] w (zfY 2 w):=by
 go_enter func206,ntmps206;go_wp2;exact⟨rfl,rfl,zGA _ _ _⟩
def zln (a b:ByteArray):(a++b).data.toList=a.data.toList++b.data.toList:=by
 rw[ByteArray.data_append,Array.toList_append]
def ztr (x:Rat):zeE x=(if decide (x.num<0) then ⟨#[45]⟩++zai x.num.natAbs else zai x.num.natAbs)++(if x.den=1 then ⟨#[]⟩ else (⟨#[47]⟩++zai x.den)):=by
 apply ByteArray.ext;apply Array.ext';rw[zln];unfold zeE zhc
 by_cases h1:x.num<0 <;> by_cases h2:x.den=1 <;> simp[h1,h2,zln,zai]
def zyV (x:Rat)(w:World)(h:zbr x):Calls prog 206 #[zdW x] w (zab (.string (zeE x)) w):=by
 have hx:max ((zai x.num.natAbs).size:Int) ((zai x.den).size:Int)<=400:=by
  rw[zcs,zcs];have:=h.1;have:=h.2;omega
 have f1:=(zgJ x.den).1;have e:=ztr x;unfold zdW
 by_cases h1:x.den=1
 ·rw[if_pos h1] at e
  exact zGN _ _ _ _ w hx (by rw[f1];simpa using h1) (zHd (by rw[e];apply ByteArray.ext;apply Array.ext';rw[zln];simp))
 rw[if_neg h1] at e;exact zCV _ _ _ _ w hx (by rw[f1];simpa using h1) (zHd e.symm)
def zvt (x:Rat)(w:World)(h:¬ zbr x):Calls prog 206 #[zdW x] w (zfY 2 w):=by
 have hx:400<max ((zai x.num.natAbs).size:Int) ((zai x.den).size:Int):=by
  rw[zcs,zcs];unfold zbr at h;omega
 exact zCW _ _ _ w hx
def zoG:Enters 206:=enters_of func206 (by kernel_rfl) rfl
def zxO (x:Rat)(w:World):Calls prog 204 #[.func (.func 206) #[zdW x] #[]] w (zab (zcV x) w):=by
 by_cases h:zbr x
 ·rw[ziX h]
  exact zqn _ zoG _ _ _ w (zyV x _ h)
 rw[zgE h];exact zqo _ zoG _ _ _ w (zvt x _ h)
open Go.RowKit
open Go.Lib (nDigits decDigits)
def zbx (x:Rat):∃ S E,zcV x=.tuple #[.string S,.int .i64 E]:=by
 rcases zpW x with⟨S,h,_⟩|⟨h,_⟩;exact⟨_,_,h⟩;exact⟨_,_,h⟩
def zCX (neg:Bool)(num den:ByteArray)(w:World)(V:Hid (zjO num false)) :
  Calls prog 198 #[.bool neg,.string num,.string den] w (zab (.tuple #[.string ⟨#[]⟩,.int .i64 1]) w):=by
 go_enter func198,ntmps198;go_wp2_with fail;refine(V.out _).mono ?_;rintro e w' ⟨rfl,rfl⟩;exact zQaY
def zCY (neg:Bool)(num den:ByteArray)(w:World)(V:Hid (zjO num true))(U:Hid (zjO den false)) :
  Calls prog 198 #[.bool neg,.string num,.string den] w (zab (.tuple #[.string ⟨#[]⟩,.int .i64 1]) w):=by
 go_enter func198,ntmps198;exact zQax
def zCZ (neg:Bool)(num den:ByteArray)(w:World)(V:Hid (zjO num true))(U:Hid (zjO den true))(f:(den.toList==[48])=true) :
  Calls prog 198 #[.bool neg,.string num,.string den] w (zab (.tuple #[.string ⟨#[]⟩,.int .i64 1]) w):=by
 go_enter func198,ntmps198;exact zQax
def zJW (neg:Bool)(num den S:ByteArray)(N:Value)(E:Int)(w:World)(V:Hid (zjO num true))(U:Hid (zjO den true))(f:(den.toList==[48])=false)
  (R:Hid (∀ w,Calls prog 207 #[.bool neg,.string num,.string den] w (zab N w)))
  (F:Hid (∀ w,Calls prog 204 #[.func (.func 206) #[N] #[]] w (zab (.tuple #[.string S,.int .i64 E]) w))) :
  Calls prog 198 #[.bool neg,.string num,.string den] w (zab (.tuple #[.string S,.int .i64 E]) w):=by
 have hmf := @zMF prog;go_enter func198,ntmps198;go_wp2_with fail;refine(V.out _).mono ?_;rintro e w' ⟨rfl,rfl⟩;go_wp2_with fail;refine(U.out _).mono ?_;rintro e w' ⟨rfl,rfl⟩;go_wp2_with fail;refine(R.out _).mono ?_;rintro e w1 ⟨rfl,hg⟩;have G1:=zHd hg;clear hg;go_wp2_with fail;refine(F.out _).mono ?_;rintro e w2 ⟨rfl,hg⟩;have G2:=zHd (zaa G1.out hg);clear hg;go_wp2;go_ret2;exact⟨rfl,G2.out⟩
def zGO (neg:Bool)(num den:ByteArray)(w:World)(hn:num.size<=maxLen)(hd:den.size<=maxLen) :
  Calls prog 198 #[.bool neg,.string num,.string den] w (zab (zhd neg num den) w):=by
 have va:=zJj num hn;have vb:=zJj den hd;unfold zhd;cases ha:zao num
 ·rw[ha] at va
  exact zCX neg num den w (zHd va)
 cases hb:zao den
 ·rw[ha] at va
  rw[hb] at vb;exact zCY neg num den w (zHd va) (zHd vb)
 rw[ha] at va;rw[hb] at vb;have hz:=(zem den hb).1
 by_cases h0:nv den=0
 ·rw[h0] at hz ⊢
  exact zCZ neg num den w (zHd va) (zHd vb) (by simpa using hz)
 simp only[h0,Bool.and_self,Bool.true_and,decide_false,Bool.not_false,if_true];have hr:=fun w=>zqp neg (nv num) (nv den) w h0 (zbZ num ha).2 (zbZ den hb).2;rw[<- (zbZ num ha).1,<- (zbZ den hb).1] at hr;have hf:=fun w=>zxO (mkRat (sg neg (nv num)) (nv den)) w;obtain⟨S,E,hE⟩:=zbx (mkRat (sg neg (nv num)) (nv den));rw[hE] at hf ⊢;exact zJW neg num den S _ E w (zHd va) (zHd vb) (by rw[hz];simpa using h0) (zHd hr) (zHd hf)
open Go.RowKit
open Go.Lib (nDigits decDigits)
def zqq:Value:=.agg #[.bool false,.string ⟨#[]⟩,.string ⟨#[]⟩]
structure zqr (a R M T D c:ByteArray)(N K:Bool)(E:Int):Prop where
 cp:∀ w,Calls prog 196 #[.string a,.string ⟨#[45]⟩] w fun e w'=>e=.returned (.tuple #[.string R,.bool N])/\w=w'
 cut:∀ w,Calls prog 197 #[.string R,.string ⟨#[47]⟩] w (zab (.tuple #[.string M,.string T,.bool K]) w)
 made:∀ w,Calls prog 198 #[.bool N,.string M,.string D] w (zab (.tuple #[.string c,.int .i64 E]) w)
def zGP (a R M T D c:ByteArray)(N K:Bool)(E:Int)(w:World)(h:Hid (zqr a R M T D c N K E))(hd:(if K then T else ⟨#[49]⟩)=D)(f1:(E==0)=false)(f2:(E != 0)=true) :
  Calls prog 161 #[.string a] w (zab (.tuple #[zqq,.bool false]) w):=by
 subst hd;unfold zqq;cases K
 all_goals
  exact zQas
def zAo (a R M T D c:ByteArray)(N K:Bool)(w:World)(h:Hid (zqr a R M T D c N K 0))(hd:(if K then T else ⟨#[49]⟩)=D)(f1:(c.toList==a.toList)=false)(f2:(c.toList != a.toList)=true) :
  Calls prog 161 #[.string a] w (zab (.tuple #[zqq,.bool false]) w):=by
 subst hd;unfold zqq;cases K
 all_goals
  exact zQas
def zDa (a R M T D c:ByteArray)(N K:Bool)(w:World)(h:Hid (zqr a R M T D c N K 0))(hd:(if K then T else ⟨#[49]⟩)=D)(f1:(c.toList==a.toList)=true) :
  Calls prog 161 #[.string a] w (zab (.tuple #[.agg #[.bool N,.string M,.string D],.bool true]) w):=by
 subst hd;cases K
 all_goals
  go_enter func161,ntmps161;go_wp2_with fail;refine(h.out.cp _).mono ?_;rintro e w' ⟨rfl,rfl⟩;go_wp2_with fail;refine(h.out.cut _).mono ?_;rintro e w1 ⟨rfl,hg⟩;have G1:=zHd hg;clear hg;go_wp2_with fail;refine(h.out.made _).mono ?_;rintro e w2 ⟨rfl,hg⟩;have G2:=zHd (zaa G1.out hg);clear hg;have hb:=alloc_old G2.out;have hc:=zrU hb;have HG:=zHd (zaa (zGA _ _ none) G2.out);clear hb G1 G2;go_wp2;exact zqby (v:=.tuple #[.agg #[.bool _,.string _,.string _],.bool true]) (by simp[results,results161,go_sem,hc]) rfl ⟨rfl,zfk HG.out (zqab _)⟩
def zDb (a:ByteArray):(zcW a).length<=a.size:=by
 unfold zcW Lib.trimPrefix;rw[Lib.size_eq];split;rw[List.length_drop];omega;exact zqab _
def zGQ (s:List UInt8):(Lib.cut s [47]).1.length<=s.length/\(Lib.cut s [47]).2.1.length<=s.length:=by
 unfold Lib.cut;split;simp only[zqan,List.length_drop];omega;simp
def zmF (l:List UInt8):(⟨l.toArray⟩:ByteArray).size=l.length:=List.size_toArray
def zvu (a:ByteArray)(ha:a.size<=maxLen)(c:ByteArray)(E:Int)(h:zhd (zcL a) (zcM a) (zcy a)=.tuple #[.string c,.int .i64 E]) :
  zqr a ⟨(zcW a).toArray⟩ (zcM a) (tailA a) (zcy a) c (zcL a) (zdd a) E:=by
 have hr:=zDb a;have hc:=zGQ (zcW a);have h1:(zcM a).size<=maxLen:=by unfold zcM;rw[zmF];omega
 have h2:(zcy a).size<=maxLen:=by
  unfold zcy;split;unfold tailA;rw[zmF];omega;decide
 refine⟨fun w=>?_,fun w=>?_,fun w=>?_⟩;exact(Tryz.strings_CutPrefix a ⟨#[45]⟩ w).mono fun e w' ⟨h,k⟩=>⟨h,k.symm⟩
 ·have:=zJV ⟨(zcW a).toArray⟩ w (by rw[zmF];omega)
  exact this
 rw[<- h];exact zGO _ _ _ w h1 h2
def zez {a c:ByteArray}:(c.toList==a.toList)=decide (c=a):=by
 rw[Bool.eq_iff_iff,zqca,beq_iff_eq,Lib.toList_data,Lib.toList_data];constructor
 ·intro h;exact ByteArray.ext (Array.ext' h)
 rintro rfl;rfl
def zlo {a:ByteArray}{x:Rat}(h:zaA a x)(w:World)(ha:a.size<=maxLen) :
  Calls prog 161 #[.string a] w (zab (.tuple #[zdW x,.bool true]) w):=by
 obtain⟨h1,h2,h3,_⟩:=apart a x h.eq;have:=zDa a _ _ _ _ a _ _ w (zHd (zvu a ha a 0 (zCw h))) rfl (by simp);unfold zdW;rw[h1,h2,h3] at this;exact this
def zyW {a:ByteArray}(h:∀ x,¬ zaA a x)(w:World)(ha:a.size<=maxLen) :
  Calls prog 161 #[.string a] w (zab (.tuple #[zqq,.bool false]) w):=by
 rcases zxB (zcL a) (zcM a) (zcy a) with⟨S,x,hm,hS⟩|⟨E,hm,hE⟩
 ·have hne:S≠a:=fun e=>h x (e▸hS)
  have f:(S.toList==a.toList)=false:=by rw[zez];simpa using hne
  exact zAo a _ _ _ _ S _ _ w (zHd (zvu a ha S 0 hm)) rfl f (by rw[bne,f];rfl)
 have f:(E==0)=false:=by rcases hE with rfl|rfl <;> decide
 exact zGP a _ _ _ _ _ _ _ E w (zHd (zvu a ha _ E hm)) rfl f (by rw[bne,f];rfl)
open Go.Lib
def zfZ (u:Nat):u<10 ^ nDigits u:=by
 induction u using Nat.strongRecOn with
 | _ u ih =>
  by_cases h:u<10
  rw[nDigits_small h];omega;rw[nDigits_big h,zqbp];have:=ih (u/10) (by omega);omega
def zga (n k:Nat)(hk:1<=k)(h:n<10 ^ k):nDigits n<=k:=by
 rcases Nat.lt_or_ge k (nDigits n) with h1|h1
 ·rcases zgi n k (by omega) with h2|h2
  ·omega
  omega
 exact h1
def zoH (m n:Nat):nDigits (m*n)<=nDigits m+nDigits n:=by
 apply zga _ _ (by have:=nDigits_pos m;omega);rw[Nat.pow_add];exact Nat.mul_lt_mul'' (zfZ m) (zfZ n)
def zhZ (m n k:Nat)(hm:nDigits m<=k)(hn:nDigits n<=k):nDigits (m+n)<=k+1:=by
 apply zga _ _ (by omega);have h1:=zfZ m;have h2:=zfZ n;have h3:=zqay (show 0<10 by omega) hm;have h4:=zqay (show 0<10 by omega) hn;rw[zqbp];omega
def sgn (x:Rat):Bool:=decide (x.num<0)
def zei (x:Rat):x.num=sg (sgn x) x.num.natAbs:=(zuY x).symm
def zoc (s:Bool)(n d:Nat):sg s (n*d)=sg s n*(d:Int):=by
 unfold sg;split <;> simp[Int.neg_mul]
def zyX (s:Bool)(p q:Nat):sg s (p+q)=sg s p+sg s q:=by
 unfold sg;split <;> omega
def zyY (s t:Bool)(p q:Nat)(h:s≠t)(hl:p<q):sg t (q-p)=sg s p+sg t q:=by
 cases s <;> cases t <;> simp_all [sg] <;> omega
def zyZ (s t:Bool)(p q:Nat)(h:s≠t)(hl:¬ p<q):sg s (p-q)=sg s p+sg t q:=by
 cases s <;> cases t <;> simp_all [sg] <;> omega
def zza (s t:Bool)(m n:Nat):sg (s != t) (m*n)=sg s m*sg t n:=by
 cases s <;> cases t <;> simp[sg,Int.neg_mul,Int.mul_neg]
def zgK (x y:Rat)(z:Int)(h:z=sg (sgn x) (x.num.natAbs*y.den)+sg (sgn y) (y.num.natAbs*x.den)):mkRat z (x.den*y.den)=x+y:=by
 rw[Rat.add_def',h,zoc,zoc,<- zei,<- zei]
def zmG (x y:Rat):mkRat (sg (sgn x != sgn y) (x.num.natAbs*y.num.natAbs)) (x.den*y.den)=x*y:=by
 rw[Rat.mul_def',zza,<- zei,<- zei]
def zmH (x y:Rat)(h:y.num≠0):mkRat (sg (sgn x != sgn y) (x.num.natAbs*y.den)) (x.den*y.num.natAbs)=x/y:=by
 rw[Rat.div_def,Rat.mul_def',Rat.num_inv,Rat.den_inv,if_neg h,zza,<- zei];congr 2;unfold sg sgn
 by_cases hn:y.num<0
 rw[if_pos (by simpa using hn),Int.sign_eq_neg_one_of_neg hn];omega;rw[if_neg (by simpa using hn),Int.sign_eq_one_of_pos (by omega)];omega
def zDc (x:Rat):zdW (-x)=.agg #[.bool (!sgn x && !decide (x.num.natAbs=0)),.string (zai x.num.natAbs),.string (zai x.den)]:=by
 unfold zdW sgn;rw[Rat.neg_num,Rat.neg_den,Int.natAbs_neg];congr 3;congr 1;rw[Bool.eq_iff_iff,zqca];simp only[zqbb,Bool.not_eq_true',decide_eq_false_iff_not];omega
def zmI {x:Rat}(h:zbr x):zbr (-x):=by
 unfold zbr at *;rw[Rat.neg_num,Rat.neg_den,Int.natAbs_neg];exact h
def zcz (x y:Rat):Int:=if x<y then -1 else if y<x then 1 else 0
def zDd (x y:Rat)(h1:sgn x=true)(h2:sgn y=false):zcz x y = -1:=by
 unfold sgn at h1 h2;have h1:x.num<0:=by simpa using h1
 have h2:¬ y.num<0:=by simpa using h2
 unfold zcz;rw[if_pos];rw[Rat.lt_iff];have:=Int.mul_neg_of_neg_of_pos h1 (show(0:Int)<y.den by have:=y.den_pos;omega);have:=Int.mul_nonneg (show 0<=y.num by omega) (show(0:Int)<=x.den by omega);omega
def zDe (x y:Rat)(h1:sgn x=false)(h2:sgn y=true):zcz x y=1:=by
 unfold sgn at h1 h2;have h1:¬ x.num<0:=by simpa using h1
 have h2:y.num<0:=by simpa using h2
 unfold zcz;have:=Int.mul_neg_of_neg_of_pos h2 (show(0:Int)<x.den by have:=x.den_pos;omega);have:=Int.mul_nonneg (show 0<=x.num by omega) (show(0:Int)<=y.den by omega);rw[if_neg (by rw[Rat.lt_iff];omega),if_pos (by rw[Rat.lt_iff];omega)]
def zGR (x y:Rat)(h1:sgn x=false)(h2:sgn y=false):zcz x y=zbF (x.num.natAbs*y.den) (y.num.natAbs*x.den):=by
 have ex:=zei x;have ey:=zei y;rw[h1,sg,if_neg (by simp)] at ex;rw[h2,sg,if_neg (by simp)] at ey;unfold zcz zbF;simp only[Rat.lt_iff];have e1:x.num*y.den=((x.num.natAbs*y.den:Nat):Int):=by rw[Int.natCast_mul,<- ex]
 have e2:y.num*x.den=((y.num.natAbs*x.den:Nat):Int):=by rw[Int.natCast_mul,<- ey]
 simp only[e1,e2,Int.ofNat_lt]
def zDf (x y:Rat)(h1:sgn x=true)(h2:sgn y=true):zcz x y=zbF (y.num.natAbs*x.den) (x.num.natAbs*y.den):=by
 have ex:=zei x;have ey:=zei y;rw[h1,sg,if_pos rfl] at ex;rw[h2,sg,if_pos rfl] at ey;unfold zcz zbF;simp only[Rat.lt_iff];have e1:x.num*y.den = -((x.num.natAbs*y.den:Nat):Int):=by rw[Int.natCast_mul,<- Int.neg_mul,<- ex]
 have e2:y.num*x.den = -((y.num.natAbs*x.den:Nat):Int):=by rw[Int.natCast_mul,<- Int.neg_mul,<- ey]
 simp only[e1,e2];generalize x.num.natAbs*y.den=p;generalize y.num.natAbs*x.den=q;split <;> split <;> (try split) <;> omega
def zlp:zaA ⟨#[48]⟩ 0:=⟨by decide +kernel,by decide +kernel⟩
def zGS {a:ByteArray}{x:Rat}(h:zaA a x):a.size<=802:=by
 rw[h.eq];have h1:=h.short.1;have h2:=h.short.2;show(zhc x).toArray.size<=_;rw[List.size_toArray];unfold zhc;rw[zqag,zqag];have:=decDigits_length x.num.natAbs;have:=decDigits_length x.den;split <;> split <;> simp <;> omega
def zkO {a:ByteArray}{x:Rat}(h:zaA a x):a.size<=maxLen:=by have:=zGS h;unfold maxLen;omega
open Go.RowKit
open Go.Lib (nDigits decDigits)
def Num (w:World)(g:Nat)(b:Bool)(A B:ByteArray):Prop:=w.heap[g]?=some (.cells #[.bool b,.string A,.string B] 166 (0,0))
def Num.cells {w:World}{g:Nat}{b:Bool}{A B:ByteArray}(h:Num w g b A B) :
  w.cell? ⟨g,0,none⟩=some (.bool b)/\w.cell? ⟨g,1,none⟩=some (.string A)/\w.cell? ⟨g,2,none⟩=some (.string B)/\w.frozen? ⟨g,0,none⟩=false/\w.frozen? ⟨g,1,none⟩=false/\w.frozen? ⟨g,2,none⟩=false:=zrU h
def Num.grown {w w':World}{g:Nat}{b:Bool}{A B:ByteArray}(h:Num w g b A B)(hg:w.grownBy w' none):Num w' g b A B:=(hg.block _ (lt_of_block h) (by simp)).trans h
def Num.other {W:World}{g g' i:Nat}{b:Bool}{A B:ByteArray}{v:Value}(h:Num W g b A B)(hne:g≠g'):Num (W.setCell ⟨g',i,none⟩ v) g b A B :=
 ((zac W ⟨g',i,none⟩ v).block g (lt_of_block h) (by simpa using hne)).trans h
def Num.set {W:World}{g:Nat}{b b':Bool}{A B A' B':ByteArray}(h:Num W g b A B):Num (((W.setCell ⟨g,0,none⟩ (.bool b')).setCell ⟨g,1,none⟩ (.string A')).setCell ⟨g,2,none⟩ (.string B')) g b' A' B':=by
 unfold Num at h ⊢;have h1:=heap_setCell_same W g 0 _ _ (.bool b') h;have h2:=heap_setCell_same _ g 1 _ _ (.string A') h1;have h3:=heap_setCell_same _ g 2 _ _ (.string B') h2;rw[h3];rfl
structure zdL (w W:World)(b1 b2:Bool)(A B C D:ByteArray):Prop where
 x:Num W w.heap.size b1 A B
 y:Num W (w.heap.size+1) b2 C D
 z:∃ b S T,Num W (w.heap.size+1+1) b S T
 g:w.grownBy W none
def zdL.next {w W W':World}{b1 b2:Bool}{A B C D:ByteArray}(h:zdL w W b1 b2 A B C D)(hg:W.grownBy W' none):zdL w W' b1 b2 A B C D :=
 ⟨h.x.grown hg,h.y.grown hg,by obtain⟨b,S,T,k⟩:=h.z;exact⟨b,S,T,k.grown hg⟩,zaa h.g hg⟩
def zdL.drew {w W:World}{b1 b2:Bool}{A B C D:ByteArray}(h:zdL w W b1 b2 A B C D):zdL w W.drew b1 b2 A B C D:=h.next (zaf W none)
def zdL.store {w W:World}{b1 b2:Bool}{A B C D:ByteArray}(h:zdL w W b1 b2 A B C D)(b:Bool)(S T:ByteArray) :
  zdL w (((W.setCell ⟨w.heap.size+1+1,0,none⟩ (.bool b)).setCell ⟨w.heap.size+1+1,1,none⟩ (.string S)).setCell ⟨w.heap.size+1+1,2,none⟩ (.string T)) b1 b2 A B C D:=by
 obtain⟨b0,S0,T0,k⟩:=h.z;exact⟨((h.x.other (by omega)).other (by omega)).other (by omega),((h.y.other (by omega)).other (by omega)).other (by omega),⟨b,S,T,k.set⟩,zfk h.g (by omega)⟩
def Seen (w W:World)(b1 b2:Bool)(A B C D:ByteArray):Prop :=
 W.cell? ⟨w.heap.size,0,none⟩=some (.bool b1)/\W.cell? ⟨w.heap.size,1,none⟩=some (.string A)/\W.cell? ⟨w.heap.size,2,none⟩=some (.string B) /\
 W.cell? ⟨w.heap.size+1,0,none⟩=some (.bool b2)/\W.cell? ⟨w.heap.size+1,1,none⟩=some (.string C)/\W.cell? ⟨w.heap.size+1,2,none⟩=some (.string D)
def zdL.seen {w W:World}{b1 b2:Bool}{A B C D:ByteArray}(h:zdL w W b1 b2 A B C D):Seen w W b1 b2 A B C D:=by
 obtain⟨x0,x1,x2,_⟩:=h.x.cells;obtain⟨y0,y1,y2,_⟩:=h.y.cells;exact⟨x0,x1,x2,y0,y1,y2⟩
def zdL.room {w W:World}{b1 b2:Bool}{A B C D:ByteArray}(h:zdL w W b1 b2 A B C D):∃ b S T,
  W.cell? ⟨w.heap.size+1+1,0,none⟩=some (.bool b)/\W.cell? ⟨w.heap.size+1+1,1,none⟩=some (.string S)/\W.cell? ⟨w.heap.size+1+1,2,none⟩=some (.string T) /\
  W.frozen? ⟨w.heap.size+1+1,0,none⟩=false/\W.frozen? ⟨w.heap.size+1+1,1,none⟩=false/\W.frozen? ⟨w.heap.size+1+1,2,none⟩=false:=by
 obtain⟨b,S,T,k⟩:=h.z;exact⟨b,S,T,k.cells⟩
def zdX (w:World)(o:Obj)(g:Nat)(h:g=w.heap.size):(w.alloc o).heap[g]?=some o:=by subst h;exact zaG w o
def zbK (w:World)(o:Obj)(g:Nat)(h:g<w.heap.size):(w.alloc o).heap[g]?=w.heap[g]?:=(zGA w o none).block g h (by simp)
def zgb (w:World)(b1 b2:Bool)(A B C D:ByteArray) :
  zdL w (((w.alloc (.cells #[.bool b1,.string A,.string B] 166)).alloc (.cells #[.bool b2,.string C,.string D] 166)).alloc (.cells #[.bool false,.string ⟨#[]⟩,.string ⟨#[]⟩] 166)) b1 b2 A B C D:=by
 refine⟨?_,?_,⟨false,⟨#[]⟩,⟨#[]⟩,?_⟩,?_⟩
 ·unfold Num
  rw[zbK _ _ _ (by simp;omega),zbK _ _ _ (by simp),zdX _ _ _ rfl]
 ·unfold Num
  rw[zbK _ _ _ (by simp),zdX _ _ _ (by simp)]
 ·unfold Num
  rw[zdX _ _ _ (by simp)]
 exact zaa (zGA _ _ none) (zaa (zGA _ _ none) (zGA _ _ none))
def zdf (A B:ByteArray):ByteArray:=zai (nv A*nv B)
def zbT (A C:ByteArray):Prop:=∀ w,Calls prog 208 #[.string A,.string C] w (zab (.string (zdf A C)) w)
def zgc (A C:ByteArray)(h:zbT A C)(w:World):Calls prog 208 #[.string A,.string C] w (zab (.string (zdf A C)) w):=h w
def zby (w:World)(b1 b2:Bool)(A B C D:ByteArray){W W':World}(hg:W.grownBy W' none)
  (h:(W.cell? ⟨w.heap.size,0,none⟩=some (.bool b1)/\W.cell? ⟨w.heap.size,1,none⟩=some (.string A)/\W.cell? ⟨w.heap.size,2,none⟩=some (.string B) /\
   W.cell? ⟨w.heap.size+1,0,none⟩=some (.bool b2)/\W.cell? ⟨w.heap.size+1,1,none⟩=some (.string C)/\W.cell? ⟨w.heap.size+1,2,none⟩=some (.string D))/\Hid (zdL w W b1 b2 A B C D)) :
  (W'.cell? ⟨w.heap.size,0,none⟩=some (.bool b1)/\W'.cell? ⟨w.heap.size,1,none⟩=some (.string A)/\W'.cell? ⟨w.heap.size,2,none⟩=some (.string B) /\
   W'.cell? ⟨w.heap.size+1,0,none⟩=some (.bool b2)/\W'.cell? ⟨w.heap.size+1,1,none⟩=some (.string C)/\W'.cell? ⟨w.heap.size+1,2,none⟩=some (.string D))/\Hid (zdL w W' b1 b2 A B C D) :=
 have k:=h.2.out.next hg
 ⟨k.seen,zHd k⟩
def zim (w:World)(b1 b2:Bool)(A B C D:ByteArray){W:World}
  (h:(W.cell? ⟨w.heap.size,0,none⟩=some (.bool b1)/\W.cell? ⟨w.heap.size,1,none⟩=some (.string A)/\W.cell? ⟨w.heap.size,2,none⟩=some (.string B) /\
   W.cell? ⟨w.heap.size+1,0,none⟩=some (.bool b2)/\W.cell? ⟨w.heap.size+1,1,none⟩=some (.string C)/\W.cell? ⟨w.heap.size+1,2,none⟩=some (.string D))/\Hid (zdL w W b1 b2 A B C D)):∃ b S T,
  W.cell? ⟨w.heap.size+1+1,0,none⟩=some (.bool b)/\W.cell? ⟨w.heap.size+1+1,1,none⟩=some (.string S)/\W.cell? ⟨w.heap.size+1+1,2,none⟩=some (.string T) /\
  W.frozen? ⟨w.heap.size+1+1,0,none⟩=false/\W.frozen? ⟨w.heap.size+1+1,1,none⟩=false/\W.frozen? ⟨w.heap.size+1+1,2,none⟩=false:=h.2.out.room
def zqs (w:World)(b1 b2:Bool)(A B C D:ByteArray){W:World}(b:Bool)(S T:ByteArray)
  (h:(W.cell? ⟨w.heap.size,0,none⟩=some (.bool b1)/\W.cell? ⟨w.heap.size,1,none⟩=some (.string A)/\W.cell? ⟨w.heap.size,2,none⟩=some (.string B) /\
   W.cell? ⟨w.heap.size+1,0,none⟩=some (.bool b2)/\W.cell? ⟨w.heap.size+1,1,none⟩=some (.string C)/\W.cell? ⟨w.heap.size+1,2,none⟩=some (.string D))/\Hid (zdL w W b1 b2 A B C D)) :
  ((((W.setCell ⟨w.heap.size+1+1,0,none⟩ (.bool b)).setCell ⟨w.heap.size+1+1,1,none⟩ (.string S)).setCell ⟨w.heap.size+1+1,2,none⟩ (.string T)).cell? ⟨w.heap.size,0,none⟩=some (.bool b1)/\(((W.setCell ⟨w.heap.size+1+1,0,none⟩ (.bool b)).setCell ⟨w.heap.size+1+1,1,none⟩ (.string S)).setCell ⟨w.heap.size+1+1,2,none⟩ (.string T)).cell? ⟨w.heap.size,1,none⟩=some (.string A)/\(((W.setCell ⟨w.heap.size+1+1,0,none⟩ (.bool b)).setCell ⟨w.heap.size+1+1,1,none⟩ (.string S)).setCell ⟨w.heap.size+1+1,2,none⟩ (.string T)).cell? ⟨w.heap.size,2,none⟩=some (.string B) /\
    (((W.setCell ⟨w.heap.size+1+1,0,none⟩ (.bool b)).setCell ⟨w.heap.size+1+1,1,none⟩ (.string S)).setCell ⟨w.heap.size+1+1,2,none⟩ (.string T)).cell? ⟨w.heap.size+1,0,none⟩=some (.bool b2)/\(((W.setCell ⟨w.heap.size+1+1,0,none⟩ (.bool b)).setCell ⟨w.heap.size+1+1,1,none⟩ (.string S)).setCell ⟨w.heap.size+1+1,2,none⟩ (.string T)).cell? ⟨w.heap.size+1,1,none⟩=some (.string C)/\(((W.setCell ⟨w.heap.size+1+1,0,none⟩ (.bool b)).setCell ⟨w.heap.size+1+1,1,none⟩ (.string S)).setCell ⟨w.heap.size+1+1,2,none⟩ (.string T)).cell? ⟨w.heap.size+1,2,none⟩=some (.string D))/\Hid (zdL w (((W.setCell ⟨w.heap.size+1+1,0,none⟩ (.bool b)).setCell ⟨w.heap.size+1+1,1,none⟩ (.string S)).setCell ⟨w.heap.size+1+1,2,none⟩ (.string T)) b1 b2 A B C D) :=
 have k:=h.2.out.store b S T
 ⟨k.seen,zHd k⟩
def zmJ (b1 b2 b:Bool)(A B C D S T:ByteArray)(w:World)
  (T1:zbT A C) (T2:zbT B D)
  (R:Hid (∀ w,Calls prog 207 #[.bool (b1 != b2),.string (zdf A C),.string (zdf B D)] w (zab (.agg #[.bool b,.string S,.string T]) w))) :
  Calls prog 170 #[.agg #[.bool b1,.string A,.string B],.agg #[.bool b2,.string C,.string D]] w (zab (.agg #[.bool b,.string S,.string T]) w):=by
 have h0:=zgb w b1 b2 A B C D;obtain⟨W0,hW0⟩:∃ W0,W0=(((w.alloc (.cells #[.bool b1,.string A,.string B] 166)).alloc (.cells #[.bool b2,.string C,.string D] 166)).alloc (.cells #[.bool false,.string ⟨#[]⟩,.string ⟨#[]⟩] 166)):=⟨_,rfl⟩;rw[<- hW0] at h0;have H0:=zHd h0;have HW0:=zHd hW0;clear h0 hW0;go_enter func170,ntmps170;go_wp2_with fail;rw[<- HW0.out];have hs:=H0.out.drew.seen;unfold Seen at hs;have hh:=zHd H0.out.drew
 go_region_held3 (fun W'=>(W'.cell? ⟨w.heap.size,0,none⟩=some (.bool b1)/\W'.cell? ⟨w.heap.size,1,none⟩=some (.string A)/\W'.cell? ⟨w.heap.size,2,none⟩=some (.string B) /\
   W'.cell? ⟨w.heap.size+1,0,none⟩=some (.bool b2)/\W'.cell? ⟨w.heap.size+1,1,none⟩=some (.string C)/\W'.cell? ⟨w.heap.size+1,2,none⟩=some (.string D))/\Hid (zdL w W' b1 b2 A B C D))
  (first
   | exact⟨hs,hh⟩
   | assumption
   | exact s1
   | exact s3
   | exact zqs w b1 b2 A B C D _ _ _ s3
   | go_keep)
  (first
   | (go_at_call 208;refine(zgc _ _ ?_ _).mono ?_;assumption;rintro e w5 ⟨rfl,hg5⟩;have s1:=zby w b1 b2 A B C D hg5 ‹_›)
   | (go_at_call 207;refine(R.out _).mono ?_;rintro e w7 ⟨rfl,hg7⟩;have s3:=zby w b1 b2 A B C D hg7 ‹_›;obtain⟨zb,zS,zT,z0,z1,z2,z3,z4,z5⟩:=zim w b1 b2 A B C D s3))
 have hend:=zfk (a:=.bool b) (b:=.string S) (c:=.string T) s3.2.out.g (show w.heap.size<=w.heap.size+1+1 by omega);have HE:=zHd hend;clear hend s3 s1 hs hh;go_wp2;exact zqby (v:=.agg #[.bool _,.string _,.string _]) (by simp[results,results170,go_sem,z0,z1,z2,z3,z4,z5]) rfl ⟨rfl,HE.out⟩
open Go.RowKit
open Go.Lib (nDigits decDigits)
def zvv (s b c:Bool)(A B:ByteArray)(w:World)(f0:(A.toList != [48])=c)(hb:(!s&&c)=b) :
  Calls prog 201 #[.agg #[.bool s,.string A,.string B]] w (zab (.agg #[.bool b,.string A,.string B]) w):=by
 have f00:=zlm f0;subst hb;cases s <;> cases c <;> simp only[Bool.not_true,Bool.not_false] at f00
 all_goals
  go_enter func201,ntmps201;go_wp2;exact zqby (v:=.agg #[.bool _,.string A,.string B]) (by simp[results,results201,go_sem]) rfl ⟨rfl,zaa (zGA _ _ _) (zGA _ _ _)⟩
def zxP (x:Rat)(w:World):Calls prog 201 #[zdW x] w (zab (zdW (-x)) w):=by
 rw[zDc];exact zvv _ _ _ _ _ w (zero_str' _).2 rfl
def zDg (b1 b2 b:Bool)(A B C D N S T:ByteArray)(w:World)(he:(b1==b2)=true)
  (T1:zbT A D) (T2:zbT C B) (T3:zbT B D)
  (N1:Hid (∀ w,Calls prog 226 #[.string (zdf A D),.string (zdf C B)] w (zab (.tuple #[.string N,.int .i64 0]) w)))
  (R:Hid (∀ w,Calls prog 207 #[.bool b1,.string N,.string (zdf B D)] w (zab (.agg #[.bool b,.string S,.string T]) w))) :
  Calls prog 199 #[.agg #[.bool b1,.string A,.string B],.agg #[.bool b2,.string C,.string D]] w (zab (.agg #[.bool b,.string S,.string T]) w):=by
 have h0:=zgb w b1 b2 A B C D;obtain⟨W0,hW0⟩:∃ W0,W0=(((w.alloc (.cells #[.bool b1,.string A,.string B] 166)).alloc (.cells #[.bool b2,.string C,.string D] 166)).alloc (.cells #[.bool false,.string ⟨#[]⟩,.string ⟨#[]⟩] 166)):=⟨_,rfl⟩;rw[<- hW0] at h0;have H0:=zHd h0;have HW0:=zHd hW0;clear h0 hW0;go_enter func199,ntmps199;go_wp2_with fail;rw[<- HW0.out];have hs:=H0.out.drew.seen;unfold Seen at hs;have hh:=zHd H0.out.drew;clear HW0
 go_region_held3 (fun W'=>(W'.cell? ⟨w.heap.size,0,none⟩=some (.bool b1)/\W'.cell? ⟨w.heap.size,1,none⟩=some (.string A)/\W'.cell? ⟨w.heap.size,2,none⟩=some (.string B) /\
   W'.cell? ⟨w.heap.size+1,0,none⟩=some (.bool b2)/\W'.cell? ⟨w.heap.size+1,1,none⟩=some (.string C)/\W'.cell? ⟨w.heap.size+1,2,none⟩=some (.string D))/\Hid (zdL w W' b1 b2 A B C D))
  (first
   | exact⟨hs,hh⟩
   | assumption
   | exact s1
   | go_keep)
  (first
   | (go_at_call 208;refine(zgc _ _ ?_ _).mono ?_;assumption;rintro e w5 ⟨rfl,hg5⟩;have s1:=zby w b1 b2 A B C D hg5 ‹_›))
 clear hs hh H0;obtain⟨⟨x0,x1,x2,y0,y1,y2⟩,hh⟩:=s1;go_wp2_with fail;refine(T3 _).mono ?_;rintro e v6 ⟨rfl,hg⟩;have s6:=zby w b1 b2 A B C D hg ⟨⟨x0,x1,x2,y0,y1,y2⟩,hh⟩;clear x0 x1 x2 y0 y1 y2 hh hg;obtain⟨⟨x0,x1,x2,y0,y1,y2⟩,hh⟩:=s6;go_wp2_with fail;refine(N1.out _).mono ?_;rintro e v7 ⟨rfl,hg⟩;have s7:=zby w b1 b2 A B C D hg ⟨⟨x0,x1,x2,y0,y1,y2⟩,hh⟩;clear x0 x1 x2 y0 y1 y2 hh hg;obtain⟨⟨x0,x1,x2,y0,y1,y2⟩,hh⟩:=s7;go_wp2_with fail;refine(R.out _).mono ?_;rintro e v8 ⟨rfl,hg⟩;have s8:=zby w b1 b2 A B C D hg ⟨⟨x0,x1,x2,y0,y1,y2⟩,hh⟩;clear x0 x1 x2 y0 y1 y2 hh hg;obtain⟨zb,zS,zT,z0,z1,z2,z3,z4,z5⟩:=zim w b1 b2 A B C D s8;have hend:=zfk (a:=.bool b) (b:=.string S) (c:=.string T) s8.2.out.g (show w.heap.size<=w.heap.size+1+1 by omega);have HE:=zHd hend;clear hend s8;go_wp2;exact zqby (v:=.agg #[.bool _,.string _,.string _]) (by simp[results,results199,go_sem,z0,z1,z2,z3,z4,z5]) rfl ⟨rfl,HE.out⟩
def zGT (b1:Bool)(b:Bool)(A B C D N S T:ByteArray)(w:World)
  (T1:zbT A D) (T2:zbT C B) (T3:zbT B D)
  (N1:Hid (∀ w,Calls prog 226 #[.string (zdf A D),.string (zdf C B)] w (zab (.tuple #[.string N,.int .i64 0]) w)))
  (R:Hid (∀ w,Calls prog 207 #[.bool b1,.string N,.string (zdf B D)] w (zab (.agg #[.bool b,.string S,.string T]) w))) :
  Calls prog 199 #[.agg #[.bool b1,.string A,.string B],.agg #[.bool b1,.string C,.string D]] w (zab (.agg #[.bool b,.string S,.string T]) w) :=
 zDg b1 b1 b A B C D N S T w (by simp) T1 T2 T3 N1 R
def zGU (b1 b2 b:Bool)(A B C D N S T:ByteArray)(c:Int)(w:World)(hne:b1≠b2)(hc:c<0)
  (T1:zbT A D) (T2:zbT C B) (T3:zbT B D)
  (CM:Hid (∀ w,Calls prog 227 #[.string (zdf A D),.string (zdf C B)] w fun e w'=>e=.returned (.int .i64 c)/\w.grownBy w' none))
  (SU:Hid (∀ w,Calls prog 228 #[.string (zdf C B),.string (zdf A D)] w (zab (.tuple #[.string N,.int .i64 0]) w)))
  (R:Hid (∀ w,Calls prog 207 #[.bool b2,.string N,.string (zdf B D)] w (zab (.agg #[.bool b,.string S,.string T]) w))) :
  Calls prog 199 #[.agg #[.bool b1,.string A,.string B],.agg #[.bool b2,.string C,.string D]] w (zab (.agg #[.bool b,.string S,.string T]) w):=by
 have he:(b1==b2)=false:=by simpa using hne
 have h0:=zgb w b1 b2 A B C D;obtain⟨W0,hW0⟩:∃ W0,W0=(((w.alloc (.cells #[.bool b1,.string A,.string B] 166)).alloc (.cells #[.bool b2,.string C,.string D] 166)).alloc (.cells #[.bool false,.string ⟨#[]⟩,.string ⟨#[]⟩] 166)):=⟨_,rfl⟩;rw[<- hW0] at h0;have H0:=zHd h0;have HW0:=zHd hW0;clear h0 hW0;go_enter func199,ntmps199;go_wp2_with fail;rw[<- HW0.out];have hs:=H0.out.drew.seen;unfold Seen at hs;have hh:=zHd H0.out.drew;clear HW0
 go_region_held3 (fun W'=>(W'.cell? ⟨w.heap.size,0,none⟩=some (.bool b1)/\W'.cell? ⟨w.heap.size,1,none⟩=some (.string A)/\W'.cell? ⟨w.heap.size,2,none⟩=some (.string B) /\
   W'.cell? ⟨w.heap.size+1,0,none⟩=some (.bool b2)/\W'.cell? ⟨w.heap.size+1,1,none⟩=some (.string C)/\W'.cell? ⟨w.heap.size+1,2,none⟩=some (.string D))/\Hid (zdL w W' b1 b2 A B C D))
  (first
   | exact⟨hs,hh⟩
   | assumption
   | exact s1
   | go_keep)
  (first
   | (go_at_call 208;refine(zgc _ _ ?_ _).mono ?_;assumption;rintro e w5 ⟨rfl,hg5⟩;have s1:=zby w b1 b2 A B C D hg5 ‹_›))
 exact zQah
def zGV (b1 b2 b:Bool)(A B C D N S T:ByteArray)(c:Int)(w:World)(hne:b1≠b2)(hc:¬ c<0)
  (T1:zbT A D) (T2:zbT C B) (T3:zbT B D)
  (CM:Hid (∀ w,Calls prog 227 #[.string (zdf A D),.string (zdf C B)] w fun e w'=>e=.returned (.int .i64 c)/\w.grownBy w' none))
  (SU:Hid (∀ w,Calls prog 228 #[.string (zdf A D),.string (zdf C B)] w (zab (.tuple #[.string N,.int .i64 0]) w)))
  (R:Hid (∀ w,Calls prog 207 #[.bool b1,.string N,.string (zdf B D)] w (zab (.agg #[.bool b,.string S,.string T]) w))) :
  Calls prog 199 #[.agg #[.bool b1,.string A,.string B],.agg #[.bool b2,.string C,.string D]] w (zab (.agg #[.bool b,.string S,.string T]) w):=by
 have he:(b1==b2)=false:=by simpa using hne
 have h0:=zgb w b1 b2 A B C D;obtain⟨W0,hW0⟩:∃ W0,W0=(((w.alloc (.cells #[.bool b1,.string A,.string B] 166)).alloc (.cells #[.bool b2,.string C,.string D] 166)).alloc (.cells #[.bool false,.string ⟨#[]⟩,.string ⟨#[]⟩] 166)):=⟨_,rfl⟩;rw[<- hW0] at h0;have H0:=zHd h0;have HW0:=zHd hW0;clear h0 hW0;go_enter func199,ntmps199;go_wp2_with fail;rw[<- HW0.out];have hs:=H0.out.drew.seen;unfold Seen at hs;have hh:=zHd H0.out.drew;clear HW0
 go_region_held3 (fun W'=>(W'.cell? ⟨w.heap.size,0,none⟩=some (.bool b1)/\W'.cell? ⟨w.heap.size,1,none⟩=some (.string A)/\W'.cell? ⟨w.heap.size,2,none⟩=some (.string B) /\
   W'.cell? ⟨w.heap.size+1,0,none⟩=some (.bool b2)/\W'.cell? ⟨w.heap.size+1,1,none⟩=some (.string C)/\W'.cell? ⟨w.heap.size+1,2,none⟩=some (.string D))/\Hid (zdL w W' b1 b2 A B C D))
  (first
   | exact⟨hs,hh⟩
   | assumption
   | exact s1
   | go_keep)
  (first
   | (go_at_call 208;refine(zgc _ _ ?_ _).mono ?_;assumption;rintro e w5 ⟨rfl,hg5⟩;have s1:=zby w b1 b2 A B C D hg5 ‹_›))
 exact zQah
open Go.RowKit
open Go.Lib (nDigits decDigits)
structure zhh (w W:World)(b1 b2:Bool)(A B C D:ByteArray):Prop where
 x:Num W w.heap.size b1 A B
 y:Num W (w.heap.size+1) b2 C D
 g:w.grownBy W none
def Two (w W:World)(b1 b2:Bool)(A B C D:ByteArray):Prop :=
 (W.cell? ⟨w.heap.size,0,none⟩=some (.bool b1)/\W.cell? ⟨w.heap.size,1,none⟩=some (.string A)/\W.cell? ⟨w.heap.size,2,none⟩=some (.string B) /\
  W.cell? ⟨w.heap.size+1,0,none⟩=some (.bool b2)/\W.cell? ⟨w.heap.size+1,1,none⟩=some (.string C)/\W.cell? ⟨w.heap.size+1,2,none⟩=some (.string D))/\Hid (zhh w W b1 b2 A B C D)
def zhh.next {w W W':World}{b1 b2:Bool}{A B C D:ByteArray}(h:zhh w W b1 b2 A B C D)(hg:W.grownBy W' none):zhh w W' b1 b2 A B C D :=
 ⟨h.x.grown hg,h.y.grown hg,zaa h.g hg⟩
def zhh.drew {w W:World}{b1 b2:Bool}{A B C D:ByteArray}(h:zhh w W b1 b2 A B C D):zhh w W.drew b1 b2 A B C D:=h.next (zaf W none)
def zhh.two {w W:World}{b1 b2:Bool}{A B C D:ByteArray}(h:zhh w W b1 b2 A B C D):Two w W b1 b2 A B C D:=by
 obtain⟨x0,x1,x2,_⟩:=h.x.cells;obtain⟨y0,y1,y2,_⟩:=h.y.cells;exact⟨⟨x0,x1,x2,y0,y1,y2⟩,zHd h⟩
def zjR (w:World)(b1 b2:Bool)(A B C D:ByteArray){W W':World}(hg:W.grownBy W' none)
  (h:(W.cell? ⟨w.heap.size,0,none⟩=some (.bool b1)/\W.cell? ⟨w.heap.size,1,none⟩=some (.string A)/\W.cell? ⟨w.heap.size,2,none⟩=some (.string B) /\
   W.cell? ⟨w.heap.size+1,0,none⟩=some (.bool b2)/\W.cell? ⟨w.heap.size+1,1,none⟩=some (.string C)/\W.cell? ⟨w.heap.size+1,2,none⟩=some (.string D))/\Hid (zhh w W b1 b2 A B C D)) :
  (W'.cell? ⟨w.heap.size,0,none⟩=some (.bool b1)/\W'.cell? ⟨w.heap.size,1,none⟩=some (.string A)/\W'.cell? ⟨w.heap.size,2,none⟩=some (.string B) /\
   W'.cell? ⟨w.heap.size+1,0,none⟩=some (.bool b2)/\W'.cell? ⟨w.heap.size+1,1,none⟩=some (.string C)/\W'.cell? ⟨w.heap.size+1,2,none⟩=some (.string D))/\Hid (zhh w W' b1 b2 A B C D) :=
 (h.2.out.next hg).two
def zqt (w:World)(b1 b2:Bool)(A B C D:ByteArray) :
  zhh w ((w.alloc (.cells #[.bool b1,.string A,.string B] 166)).alloc (.cells #[.bool b2,.string C,.string D] 166)) b1 b2 A B C D:=by
 refine⟨?_,?_,?_⟩
 ·unfold Num
  rw[zbK _ _ _ (by simp),zdX _ _ _ rfl]
 ·unfold Num
  rw[zdX _ _ _ (by simp)]
 exact zaa (zGA _ _ none) (zGA _ _ none)
def zmK (b1 b2:Bool)(A B C D:ByteArray)(w:World)(hne:b1≠b2) :
  Calls prog 203 #[.agg #[.bool b1,.string A,.string B],.agg #[.bool b2,.string C,.string D]] w (zab (.int .i64 (if b1 then -1 else 1)) w):=by
 cases b1 <;> cases b2 <;> simp only[ne_eq,not_true,Bool.false_eq_true,Bool.true_eq_false,not_false_eq_true] at hne
 all_goals
  go_enter func203,ntmps203;go_wp2;go_ret;exact⟨rfl,zaa (zGA _ _ _) (zGA _ _ _)⟩
def zvw (A B C D:ByteArray)(c:Int)(w:World)
  (T1:zbT A D) (T2:zbT C B)
  (CM:Hid (∀ w,Calls prog 227 #[.string (zdf A D),.string (zdf C B)] w fun e w'=>e=.returned (.int .i64 c)/\w.grownBy w' none)) :
  Calls prog 203 #[.agg #[.bool false,.string A,.string B],.agg #[.bool false,.string C,.string D]] w (zab (.int .i64 c) w):=by
 have h0:=zqt w false false A B C D;have H0:=zHd h0;obtain⟨hs,hh⟩:=h0.drew.two;obtain⟨⟨x0,x1,x2,y0,y1,y2⟩,hh0⟩:=h0.two;clear h0 hh0;go_enter func203,ntmps203;go_wp2_with fail;clear x0 x1 x2 y0 y1 y2
 go_region_held3 (fun W'=>(W'.cell? ⟨w.heap.size,0,none⟩=some (.bool false)/\W'.cell? ⟨w.heap.size,1,none⟩=some (.string A)/\W'.cell? ⟨w.heap.size,2,none⟩=some (.string B) /\
   W'.cell? ⟨w.heap.size+1,0,none⟩=some (.bool false)/\W'.cell? ⟨w.heap.size+1,1,none⟩=some (.string C)/\W'.cell? ⟨w.heap.size+1,2,none⟩=some (.string D))/\Hid (zhh w W' false false A B C D))
  (first
   | exact⟨hs,hh⟩
   | assumption
   | exact s1
   | go_keep)
  (first
   | (go_at_call 208;refine(zgc _ _ ?_ _).mono ?_;assumption;rintro e w5 ⟨rfl,hg5⟩;have s1:=zjR w false false A B C D hg5 ‹_›)
   | (go_at_call 227;refine(CM.out _).mono ?_;rintro e w5 ⟨rfl,hg5⟩;have s1:=zjR w false false A B C D hg5 ‹_›))
 have HE:=zHd s1.2.out.g;clear s1 hs hh H0;go_wp2;go_ret;exact⟨rfl,HE.out⟩
def zus (A B C D:ByteArray)(c:Int)(w:World)
  (T1:zbT C B) (T2:zbT A D)
  (CM:Hid (∀ w,Calls prog 227 #[.string (zdf C B),.string (zdf A D)] w fun e w'=>e=.returned (.int .i64 c)/\w.grownBy w' none)) :
  Calls prog 203 #[.agg #[.bool true,.string A,.string B],.agg #[.bool true,.string C,.string D]] w (zab (.int .i64 c) w):=by
 have h0:=zqt w true true C D A B;obtain⟨hs,hh⟩:=h0.drew.two;clear h0;go_enter func203,ntmps203;go_wp2_with fail
 go_region_held3 (fun W'=>(W'.cell? ⟨w.heap.size,0,none⟩=some (.bool true)/\W'.cell? ⟨w.heap.size,1,none⟩=some (.string C)/\W'.cell? ⟨w.heap.size,2,none⟩=some (.string D) /\
   W'.cell? ⟨w.heap.size+1,0,none⟩=some (.bool true)/\W'.cell? ⟨w.heap.size+1,1,none⟩=some (.string A)/\W'.cell? ⟨w.heap.size+1,2,none⟩=some (.string B))/\Hid (zhh w W' true true C D A B))
  (first
   | exact⟨hs,hh⟩
   | assumption
   | exact s1
   | go_keep)
  (first
   | (go_at_call 208;refine(zgc _ _ ?_ _).mono ?_;assumption;rintro e w5 ⟨rfl,hg5⟩;have s1:=zjR w true true C D A B hg5 ‹_›)
   | (go_at_call 227;refine(CM.out _).mono ?_;rintro e w5 ⟨rfl,hg5⟩;have s1:=zjR w true true C D A B hg5 ‹_›))
 have HE:=zHd s1.2.out.g;clear s1 hs hh;go_wp2;go_ret;exact⟨rfl,HE.out⟩
def zod (m n:Nat)(hm:nDigits m<=1000)(hn:nDigits n<=1000):zeG (zai m) (zai n)=zbF m n:=by
 unfold zeG;rw[zaZ m hm,zaZ n hn,zaS,zaS];rfl
def zoe (m n:Nat)(hm:nDigits m<=1000)(hn:nDigits n<=1000)(h:n<=m):zdJ (zai m) (zai n)=.tuple #[.string (zai (m-n)),.int .i64 0]:=by
 unfold zdJ;rw[zaZ m hm,zaZ n hn,zaS,zaS];simp only[Bool.and_self,if_true];rw[if_neg (by omega)]
open Go.RowKit
open Go.Lib (nDigits decDigits)
def Fun (w:World)(g F:Nat):Prop:=w.heap[g]?=some (.cells #[.func (.func F) #[] #[]] 171 (0,0))
def Fun.grown {w w':World}{g F:Nat}(h:Fun w g F)(hg:w.grownBy w' none):Fun w' g F:=(hg.block _ (lt_of_block h) (by simp)).trans h
def zJX (F g0 g1 g2:Nat)(b1 b2:Bool)(A B C D S:ByteArray)(N:Value)(w:World)(hE:Enters F)(h0:Fun w g0 F)(h1:Num w g1 b1 A B)(h2:Num w g2 b2 C D)
  (M:Hid (∀ w,Calls prog F #[.agg #[.bool b1,.string A,.string B],.agg #[.bool b2,.string C,.string D]] w (zab N w)))
  (X:Hid (∀ w,Calls prog 206 #[N] w (zab (.string S) w))) :
  Calls prog 205 #[.pointer (some ⟨g0,0,none⟩),.pointer (some ⟨g1,0,none⟩),.pointer (some ⟨g2,0,none⟩)] w (zab (.string S) w):=by
 have c0:=cell_of_one h0;obtain⟨x0,x1,x2,_⟩:=h1.cells;obtain⟨y0,y1,y2,_⟩:=h2.cells;have HE:=zHd hE;clear h0 h1 h2 hE;go_enter func205,ntmps205;go_wp2_with fail;rw[HE.out];refine(M.out _).mono ?_;rintro e w1 ⟨rfl,hg⟩;have G1:=zHd hg;clear hg;go_wp2_with fail;refine(X.out _).mono ?_;rintro e w2 ⟨rfl,hg⟩;have G2:=zHd (zaa G1.out hg);clear hg;go_wp2;go_ret;exact⟨rfl,G2.out⟩
def zGW (F g0 g1 g2:Nat)(b1 b2:Bool)(A B C D:ByteArray)(N:Value)(w:World)(hE:Enters F)(h0:Fun w g0 F)(h1:Num w g1 b1 A B)(h2:Num w g2 b2 C D)
  (M:Hid (∀ w,Calls prog F #[.agg #[.bool b1,.string A,.string B],.agg #[.bool b2,.string C,.string D]] w (zab N w)))
  (X:Hid (∀ w,Calls prog 206 #[N] w (zfY 2 w))) :
  Calls prog 205 #[.pointer (some ⟨g0,0,none⟩),.pointer (some ⟨g1,0,none⟩),.pointer (some ⟨g2,0,none⟩)] w (zfY 2 w):=by
 have c0:=cell_of_one h0;obtain⟨x0,x1,x2,_⟩:=h1.cells;obtain⟨y0,y1,y2,_⟩:=h2.cells;have HE:=zHd hE;clear h0 h1 h2 hE;go_enter func205,ntmps205;go_wp2_with fail;rw[HE.out];refine(M.out _).mono ?_;rintro e w1 ⟨rfl,hg⟩;have G1:=zHd hg;clear hg;go_wp2_with fail;refine(X.out _).mono ?_;rintro e w2 ⟨rfl,hg⟩;exact⟨rfl,rfl,zaa G1.out hg⟩
def zqu:Enters 205:=enters_of func205 (by kernel_rfl) rfl
def zMe (F:Nat)(b1 b2:Bool)(A B C D S:ByteArray)(E:Int):Prop:=∀ (g0 g1 g2:Nat) (w:World),Fun w g0 F->Num w g1 b1 A B->Num w g2 b2 C D ->
  Calls prog 204 #[.func (.func 205) #[] #[.pointer (some ⟨g0,0,none⟩),.pointer (some ⟨g1,0,none⟩),.pointer (some ⟨g2,0,none⟩)]] w (zab (.tuple #[.string S,.int .i64 E]) w)
def zqv (F:Nat)(a b:ByteArray)(b1 b2:Bool)(A B C D S:ByteArray)(E:Int)(w:World)
  (R1:Hid (∀ w,Calls prog 161 #[.string a] w (zab (.tuple #[.agg #[.bool b1,.string A,.string B],.bool true]) w)))
  (R2:Hid (∀ w,Calls prog 161 #[.string b] w (zab (.tuple #[.agg #[.bool b2,.string C,.string D],.bool true]) w)))
  (K:Hid (zMe F b1 b2 A B C D S E)) :
  Calls prog 168 #[.string a,.string b,.func (.func F) #[] #[]] w (zab (.tuple #[.string S,.int .i64 E]) w):=by
 have hmf := @zMF prog;go_enter func168,ntmps168;go_wp2_with fail;refine(R1.out _).mono ?_;rintro e w1 ⟨rfl,hg⟩;have hb:=alloc_old hg;have F1:=zHd (show Fun w1 w.heap.size F from hb);have G1:=zHd (zaa (zGA _ _ none) hg);clear hg hb;go_wp2_with fail;refine(R2.out _).mono ?_;rintro e w2 ⟨rfl,hg⟩;have hb:=alloc_old hg;have N1:=zHd (show Num w2 w1.heap.size b1 A B from hb);have hgg:=zaa (zGA _ _ none) hg;have F2:=zHd (F1.out.grown hgg);have G2:=zHd (zaa G1.out hgg);clear hg hb hgg F1 G1;go_wp2_with fail;refine(K.out _ _ _ _ (F2.out.grown (zGA _ _ none)) (N1.out.grown (zGA _ _ none)) (zaG _ _)).mono ?_;rintro e w3 ⟨rfl,hg⟩;have G3:=zHd (zaa G2.out (zaa (zGA _ _ none) hg));clear hg;go_wp2;go_ret2;exact⟨rfl,G3.out⟩
def zqw (F:Nat)(x y r:Rat):Prop:=∀ w,Calls prog F #[zdW x,zdW y] w (zab (zdW r) w)
def zgq {F:Nat}{a b:ByteArray}{x y r:Rat}(hE:Enters F)(ha:zaA a x)(hb:zaA b y)(M:zqw F x y r)(w:World) :
  Calls prog 168 #[.string a,.string b,.func (.func F) #[] #[]] w (zab (zcV r) w):=by
 have r1:=fun w=>zlo ha w (zkO ha);have r2:=fun w=>zlo hb w (zkO hb)
 by_cases h:zbr r
 ·rw[ziX h]
  refine zqv F a b _ _ _ _ _ _ _ _ w (zHd r1) (zHd r2) (zHd fun g0 g1 g2 w f n1 n2=>?_);have k:=zGA w (.cells #[.int .i64 0] 28) none;exact zqn _ zqu #[] _ _ w (zJX F g0 g1 g2 _ _ _ _ _ _ _ _ _ hE (f.grown k) (n1.grown k) (n2.grown k) (zHd M) (zHd fun w=>zyV r w h))
 rw[zgE h];refine zqv F a b _ _ _ _ _ _ _ _ w (zHd r1) (zHd r2) (zHd fun g0 g1 g2 w f n1 n2=>?_);have k:=zGA w (.cells #[.int .i64 0] 28) none;exact zqo _ zqu #[] _ _ w (zGW F g0 g1 g2 _ _ _ _ _ _ _ _ hE (f.grown k) (n1.grown k) (n2.grown k) (zHd M) (zHd fun w=>zvt r w h))
def zeo (a:ByteArray):Prop:=∀ x,¬ zaA a x
def zLo (a:ByteArray):(∃ x,zaA a x)∨zeo a:=by
 by_cases h:∃ x,zaA a x
 exact .inl h;exact .inr fun x k=>h ⟨x,k⟩
def zqx (a:ByteArray)(ha:a.size<=maxLen):∃ b A B k,(∀ w,Calls prog 161 #[.string a] w (zab (.tuple #[.agg #[.bool b,.string A,.string B],.bool k]) w))/\(zeo a->k=false):=by
 rcases zLo a with⟨x,h⟩|h;exact⟨_,_,_,true,fun w=>zlo h w ha,fun n=>absurd h (n x)⟩;exact⟨_,_,_,false,fun w=>zyW h w ha,fun _=>rfl⟩
open Go.RowKit
open Go.Lib (nDigits decDigits)
def zbU {x y:Nat}(hx:nDigits x<=400)(hy:nDigits y<=400):nDigits (x*y)<=800:=by have:=zoH x y;omega
def zgd (m n:Nat)(hm:nDigits m<=400)(hn:nDigits n<=400):zbT (zai m) (zai n):=fun w=>by
 have:=zbU hm hn;unfold zdf;rw[zaS,zaS];exact zCU m n w (by omega) (by omega) (by omega)
def zcd (m n:Nat):zdf (zai m) (zai n)=zai (m*n):=by unfold zdf;rw[zaS,zaS]
def zhi (neg:Bool)(n d:Nat)(hd:d≠0)(hn:nDigits n<=1000)(hdd:nDigits d<=1000){r:Rat}(hr:mkRat (sg neg n) d=r) :
  Hid (∀ w,Calls prog 207 #[.bool neg,.string (zai n),.string (zai d)] w (zab (zdW r) w)) :=
 zHd fun w=>by rw[<- hr];exact zqp neg n d w hd hn hdd
def zge (x y:Rat):x.den*y.den≠0:=Nat.mul_ne_zero x.den_nz y.den_nz
def zut (x y:Rat)(hx:zbr x)(hy:zbr y):zqw 170 x y (x*y):=fun w=>by
 have d1:=zbU hx.1 hy.1;have d2:=zbU hx.2 hy.2;have R:=zhi (sgn x != sgn y) _ _ (zge x y) (by omega) (by omega) (zmG x y);rw[<- zcd,<- zcd] at R;exact zmJ _ _ _ _ _ _ _ _ _ w (zgd _ _ hx.1 hy.1) (zgd _ _ hx.2 hy.2) R
def zxQ (x y:Rat)(hx:zbr x)(hy:zbr y)(h:y.num≠0)(w:World) :
  Calls prog 170 #[zdW x,.agg #[.bool (sgn y),.string (zai y.den),.string (zai y.num.natAbs)]] w (zab (zdW (x/y)) w):=by
 have d1:=zbU hx.1 hy.2;have d2:=zbU hx.2 hy.1;have R:=zhi (sgn x != sgn y) _ _ (Nat.mul_ne_zero x.den_nz (show y.num.natAbs≠0 by omega)) (by omega) (by omega) (zmH x y h);rw[<- zcd,<- zcd] at R;exact zmJ _ _ _ _ _ _ _ _ _ w (zgd _ _ hx.1 hy.2) (zgd _ _ hx.2 hy.1) R
def zts (x y:Rat)(hx:zbr x)(hy:zbr y):zqw 199 x y (x+y):=fun w=>by
 have d1:=zbU hx.1 hy.2;have d2:=zbU hy.1 hx.2;have d3:=zbU hx.2 hy.2;have t1:=zgd _ _ hx.1 hy.2;have t2:=zgd _ _ hy.1 hx.2;have t3:=zgd _ _ hx.2 hy.2
 by_cases hs:sgn x=sgn y
 ·have d4:=zhZ _ _ _ d1 d2
  have R:=zhi (sgn x) (x.num.natAbs*y.den+y.num.natAbs*x.den) _ (zge x y) (by omega) (by omega) (zgK x y _ (by rw[<- hs,zyX]));have ad:=fun w=>zJP (zai (x.num.natAbs*y.den)) (zai (y.num.natAbs*x.den)) w (zaV _ (by omega)) (zaV _ (by omega));rw[zvi _ _ (zai (x.num.natAbs*y.den+y.num.natAbs*x.den)) (zaZ _ (by omega)) (zaZ _ (by omega)) (zaZ _ (by omega)) (by rw[zaS,zaS,zaS])] at ad;rw[<- zcd x.den] at R;rw[<- zcd x.num.natAbs y.den,<- zcd y.num.natAbs x.den] at ad;have:=zGT (sgn x) _ _ _ _ _ _ _ _ w t1 t2 t3 (zHd ad) R;unfold zdW;rw[show decide (y.num<0)=sgn x from hs.symm];exact this
 by_cases hl:x.num.natAbs*y.den<y.num.natAbs*x.den
 ·have d4:=zbA (Nat.sub_le (y.num.natAbs*x.den) (x.num.natAbs*y.den))
  have R:=zhi (sgn y) (y.num.natAbs*x.den-x.num.natAbs*y.den) _ (zge x y) (by omega) (by omega) (zgK x y _ (by rw[zyY _ _ _ _ hs hl]));have cm:=fun w=>znX (zai (x.num.natAbs*y.den)) (zai (y.num.natAbs*x.den)) w (zaV _ (by omega)) (zaV _ (by omega));have su:=fun w=>zyR (zai (y.num.natAbs*x.den)) (zai (x.num.natAbs*y.den)) w (zaV _ (by omega)) (zaV _ (by omega));rw[zoe _ _ (by omega) (by omega) (by omega)] at su;obtain⟨c,hc,hc0⟩:∃ c:Int,zeG (zai (x.num.natAbs*y.den)) (zai (y.num.natAbs*x.den))=c/\c<0:=⟨_,rfl,by rw[zod _ _ (by omega) (by omega)];exact(zfn _ _).2 hl⟩;rw[hc] at cm;rw[<- zcd x.den] at R;rw[<- zcd x.num.natAbs y.den,<- zcd y.num.natAbs x.den] at su cm;exact zGU _ _ _ _ _ _ _ _ _ _ c w hs hc0 t1 t2 t3 (zHd cm) (zHd su) R
 have d4:=zbA (Nat.sub_le (x.num.natAbs*y.den) (y.num.natAbs*x.den));have R:=zhi (sgn x) (x.num.natAbs*y.den-y.num.natAbs*x.den) _ (zge x y) (by omega) (by omega) (zgK x y _ (by rw[zyZ _ _ _ _ hs hl]));have cm:=fun w=>znX (zai (x.num.natAbs*y.den)) (zai (y.num.natAbs*x.den)) w (zaV _ (by omega)) (zaV _ (by omega));have su:=fun w=>zyR (zai (x.num.natAbs*y.den)) (zai (y.num.natAbs*x.den)) w (zaV _ (by omega)) (zaV _ (by omega));rw[zoe _ _ (by omega) (by omega) (by omega)] at su;obtain⟨c,hc,hc0⟩:∃ c:Int,zeG (zai (x.num.natAbs*y.den)) (zai (y.num.natAbs*x.den))=c/\¬ c<0:=⟨_,rfl,by rw[zod _ _ (by omega) (by omega),zfn];exact hl⟩;rw[hc] at cm;rw[<- zcd x.den] at R;rw[<- zcd x.num.natAbs y.den,<- zcd y.num.natAbs x.den] at su cm;exact zGV _ _ _ _ _ _ _ _ _ _ c w hs hc0 t1 t2 t3 (zHd cm) (zHd su) R
def zDh (b1 b2 b3 b:Bool)(A B C D C3 D3 S T:ByteArray)(w:World)
  (NG:Hid (∀ w,Calls prog 201 #[.agg #[.bool b2,.string C,.string D]] w (zab (.agg #[.bool b3,.string C3,.string D3]) w)))
  (SM:Hid (∀ w,Calls prog 199 #[.agg #[.bool b1,.string A,.string B],.agg #[.bool b3,.string C3,.string D3]] w (zab (.agg #[.bool b,.string S,.string T]) w))) :
  Calls prog 200 #[.agg #[.bool b1,.string A,.string B],.agg #[.bool b2,.string C,.string D]] w (zab (.agg #[.bool b,.string S,.string T]) w):=by
 have h0:=zgb w b1 b2 A B C D;obtain⟨W0,hW0⟩:∃ W0,W0=(((w.alloc (.cells #[.bool b1,.string A,.string B] 166)).alloc (.cells #[.bool b2,.string C,.string D] 166)).alloc (.cells #[.bool false,.string ⟨#[]⟩,.string ⟨#[]⟩] 166)):=⟨_,rfl⟩;rw[<- hW0] at h0;have H0:=zHd h0;have HW0:=zHd hW0;clear h0 hW0;go_enter func200,ntmps200;go_wp2_with fail;rw[<- HW0.out];have hs:=H0.out.drew.seen;unfold Seen at hs;have hh:=zHd H0.out.drew;clear HW0
 go_region_held3 (fun W'=>(W'.cell? ⟨w.heap.size,0,none⟩=some (.bool b1)/\W'.cell? ⟨w.heap.size,1,none⟩=some (.string A)/\W'.cell? ⟨w.heap.size,2,none⟩=some (.string B) /\
   W'.cell? ⟨w.heap.size+1,0,none⟩=some (.bool b2)/\W'.cell? ⟨w.heap.size+1,1,none⟩=some (.string C)/\W'.cell? ⟨w.heap.size+1,2,none⟩=some (.string D))/\Hid (zdL w W' b1 b2 A B C D))
  (first
   | exact⟨hs,hh⟩
   | assumption
   | exact s1
   | exact s3
   | exact zqs w b1 b2 A B C D _ _ _ s3
   | go_keep)
  (first
   | (go_at_call 201;refine(NG.out _).mono ?_;rintro e w5 ⟨rfl,hg5⟩;have s1:=zby w b1 b2 A B C D hg5 ‹_›)
   | (go_at_call 199;refine(SM.out _).mono ?_;rintro e w7 ⟨rfl,hg7⟩;have s3:=zby w b1 b2 A B C D hg7 ‹_›;obtain⟨zb,zS,zT,z0,z1,z2,z3,z4,z5⟩:=zim w b1 b2 A B C D s3))
 have hend:=zfk (a:=.bool b) (b:=.string S) (c:=.string T) s3.2.out.g (show w.heap.size<=w.heap.size+1+1 by omega);have HE:=zHd hend;clear hend s3 s1 hs hh;go_wp2;exact zqby (v:=.agg #[.bool _,.string _,.string _]) (by simp[results,results200,go_sem,z0,z1,z2,z3,z4,z5]) rfl ⟨rfl,HE.out⟩
def zDi (b1 b2 b:Bool)(A B C D S T:ByteArray)(w:World)(f1:(C.toList==[48])=false)
  (PR:Hid (∀ w,Calls prog 170 #[.agg #[.bool b1,.string A,.string B],.agg #[.bool b2,.string D,.string C]] w (zab (.agg #[.bool b,.string S,.string T]) w))) :
  Calls prog 169 #[.agg #[.bool b1,.string A,.string B],.agg #[.bool b2,.string C,.string D]] w (zab (.agg #[.bool b,.string S,.string T]) w):=by
 have h0:=zgb w b1 b2 A B C D;have H0:=zHd h0;clear h0;go_enter func169,ntmps169;go_wp2_with fail;refine(PR.out _).mono ?_;rintro e w1 ⟨rfl,hg⟩;have k:=H0.out.next hg;obtain⟨zb,zS,zT,z0,z1,z2,z3,z4,z5⟩:=k.room;have hend:=zfk (a:=.bool b) (b:=.string S) (c:=.string T) k.g (show w.heap.size<=w.heap.size+1+1 by omega);have HE:=zHd hend;clear hend k hg H0;go_wp2;exact zqby (v:=.agg #[.bool _,.string _,.string _]) (by simp[results,results169,go_sem,z0,z1,z2,z3,z4,z5]) rfl ⟨rfl,HE.out⟩
def zDj (x y:Rat)(hx:zbr x)(hy:zbr y):zqw 200 x y (x-y):=fun w=>by
 rw[Rat.sub_eq_add_neg];exact zDh _ _ _ _ _ _ _ _ _ _ _ _ w (zHd fun w=>zxP y w) (zHd fun w=>zts x (-y) hx (zmI hy) w)
def zDk (x y:Rat)(hx:zbr x)(hy:zbr y)(h:y.num≠0):zqw 169 x y (x/y):=fun w =>
 zDi _ _ _ _ _ _ _ _ _ w (by rw[(zero_str' _).1];simpa using h) (zHd fun w=>zxQ x y hx hy h w)
def zAp:Enters 199:=enters_of func199 (by kernel_rfl) rfl
def zrV:Enters 170:=enters_of func170 (by kernel_rfl) rfl
def zAq:Enters 200:=enters_of func200 (by kernel_rfl) rfl
def zAr:Enters 169:=enters_of func169 (by kernel_rfl) rfl
def zGX (a b S:ByteArray)(E:Int)(w:World)(O:Hid (∀ w,Calls prog 168 #[.string a,.string b,.func (.func 199) #[] #[]] w (zab (.tuple #[.string S,.int .i64 E]) w))) :
  Calls prog 162 #[.string a,.string b] w (zab (.tuple #[.string S,.int .i64 E]) w):=by
 go_enter func162,ntmps162;go_wp2_with fail;refine(O.out _).mono ?_;exact zQaj
def zzb {a b:ByteArray}{x y:Rat}(ha:zaA a x)(hb:zaA b y)(w:World) :
  Calls prog 162 #[.string a,.string b] w (zab (zcV (x+y)) w):=by
 obtain⟨S,E,e⟩:=zbx (x+y);have O:=fun w=>zgq zAp ha hb (zts x y ha.short hb.short) w;rw[e] at O ⊢;exact zGX a b S E w (zHd O)
def zGY (a b S:ByteArray)(E:Int)(w:World)(O:Hid (∀ w,Calls prog 168 #[.string a,.string b,.func (.func 200) #[] #[]] w (zab (.tuple #[.string S,.int .i64 E]) w))) :
  Calls prog 163 #[.string a,.string b] w (zab (.tuple #[.string S,.int .i64 E]) w):=by
 go_enter func163,ntmps163;go_wp2_with fail;refine(O.out _).mono ?_;exact zQaj
def zJY {a b:ByteArray}{x y:Rat}(ha:zaA a x)(hb:zaA b y)(w:World) :
  Calls prog 163 #[.string a,.string b] w (zab (zcV (x-y)) w):=by
 obtain⟨S,E,e⟩:=zbx (x-y);have O:=fun w=>zgq zAq ha hb (zDj x y ha.short hb.short) w;rw[e] at O ⊢;exact zGY a b S E w (zHd O)
def zGZ (a b S:ByteArray)(E:Int)(w:World)(O:Hid (∀ w,Calls prog 168 #[.string a,.string b,.func (.func 170) #[] #[]] w (zab (.tuple #[.string S,.int .i64 E]) w))) :
  Calls prog 167 #[.string a,.string b] w (zab (.tuple #[.string S,.int .i64 E]) w):=by
 go_enter func167,ntmps167;go_wp2_with fail;refine(O.out _).mono ?_;exact zQaj
def zJZ {a b:ByteArray}{x y:Rat}(ha:zaA a x)(hb:zaA b y)(w:World) :
  Calls prog 167 #[.string a,.string b] w (zab (zcV (x*y)) w):=by
 obtain⟨S,E,e⟩:=zbx (x*y);have O:=fun w=>zgq zrV ha hb (zut x y ha.short hb.short) w;rw[e] at O ⊢;exact zGZ a b S E w (zHd O)
def zHa (a b S:ByteArray)(E:Int)(w:World)(O:Hid (∀ w,Calls prog 168 #[.string a,.string b,.func (.func 169) #[] #[]] w (zab (.tuple #[.string S,.int .i64 E]) w))) :
  Calls prog 132 #[.string a,.string b] w (zab (.tuple #[.string S,.int .i64 E]) w):=by
 go_enter func132,ntmps132;go_wp2_with fail;refine(O.out _).mono ?_;exact zQaj
def zKa {a b:ByteArray}{x y:Rat}(ha:zaA a x)(hb:zaA b y)(h:y.num≠0)(w:World) :
  Calls prog 132 #[.string a,.string b] w (zab (zcV (x/y)) w):=by
 obtain⟨S,E,e⟩:=zbx (x/y);have O:=fun w=>zgq zAr ha hb (zDk x y ha.short hb.short h) w;rw[e] at O ⊢;exact zHa a b S E w (zHd O)
open Go.RowKit
open Go.Lib (nDigits decDigits)
open Go.RowKit
open Go.Lib (nDigits decDigits)
def zgL (a:ByteArray)(b:Bool)(A B:ByteArray)(k:Bool):Prop:=∀ w,Calls prog 161 #[.string a] w (zab (.tuple #[.agg #[.bool b,.string A,.string B],.bool k]) w)
def zqy (a:ByteArray)(b:Bool)(A B:ByteArray)(k:Bool)(w:World)(R:Hid (zgL a b A B k)) :
  Calls prog 121 #[.string a] w (zab (.bool k) w):=by
 go_enter func121,ntmps121;go_wp2_with fail;refine(R.out _).mono ?_;exact zQau
def zqz (a:ByteArray)(b:Bool)(A B:ByteArray)(k:Bool)(w:World)(R:Hid (zgL a b A B k)) :
  Calls prog 166 #[.string a] w (zab (.tuple #[.bool b,.string A,.string B,.bool k]) w):=by
 go_enter func166,ntmps166;go_wp2_with fail;refine(R.out _).mono ?_;rintro e w1 ⟨rfl,hg⟩;have G1:=zHd hg;clear hg;go_wp2_with fail
 go_quiet (fail)
 go_wp2;exact zqby (v:=.tuple #[.bool _,.string _,.string _,.bool _]) (by simp[results,results166,go_sem]) rfl ⟨rfl,zaa G1.out (zaa (zGA _ _ none) (zcg _ _ _))⟩
def zLp (a b:ByteArray)(b1 b2 k1 k2:Bool)(A B C D:ByteArray)(w:World)(hk:(k1&&k2)=false)(R1:Hid (zgL a b1 A B k1))(R2:Hid (zgL b b2 C D k2)) :
  Calls prog 165 #[.string a,.string b] w (zab (.int .i64 0) w):=by
 cases k1 <;> cases k2 <;> simp only[Bool.and_self,Bool.and_true,Bool.true_and,Bool.true_eq_false] at hk
 all_goals
  go_enter func165,ntmps165;go_wp2_with fail;refine(R1.out _).mono ?_;rintro e w1 ⟨rfl,hg⟩;have G1:=zHd hg;clear hg;go_wp2_with fail;refine(R2.out _).mono ?_;rintro e w2 ⟨rfl,hg⟩;have G2:=zHd (zaa G1.out (zaa (zGA _ _ none) hg));clear hg;go_wp2;go_ret;exact⟨rfl,zaa G2.out (zGA _ _ none)⟩
def zKb (a b:ByteArray)(b1 b2:Bool)(A B C D:ByteArray)(c:Int)(w:World)(R1:Hid (zgL a b1 A B true))(R2:Hid (zgL b b2 C D true))
  (CP:Hid (∀ w,Calls prog 203 #[.agg #[.bool b1,.string A,.string B],.agg #[.bool b2,.string C,.string D]] w (zab (.int .i64 c) w))) :
  Calls prog 165 #[.string a,.string b] w (zab (.int .i64 c) w):=by
 go_enter func165,ntmps165;go_wp2_with fail;refine(R1.out _).mono ?_;rintro e w1 ⟨rfl,hg⟩;have G1:=zHd hg;clear hg;go_wp2_with fail;refine(R2.out _).mono ?_;rintro e w2 ⟨rfl,hg⟩;have hb:=alloc_old hg;have N1:=(show Num w2 w1.heap.size b1 A B from hb).grown (zGA w2 (.cells #[.bool b2,.string C,.string D] 166) none);obtain⟨x0,x1,x2,_⟩:=N1.cells;have G2:=zHd (zaa G1.out (zaa (zGA _ _ none) hg));clear hg hb N1;go_wp2_with fail;refine(CP.out _).mono ?_;rintro e w3 ⟨rfl,hg⟩;have G3:=zHd (zaa G2.out (zaa (zGA _ _ none) hg));clear hg x0 x1 x2;go_wp2;go_ret;exact⟨rfl,G3.out⟩
def zjS {a:ByteArray}{x:Rat}(h:zaA a x):zgL a (sgn x) (zai x.num.natAbs) (zai x.den) true:=fun w=>zlo h w (zkO h)
def zvx {a:ByteArray}(h:zeo a)(ha:a.size<=maxLen):zgL a false ⟨#[]⟩ ⟨#[]⟩ false:=fun w=>zyW h w ha
def zmL {a:ByteArray}{x:Rat}(h:zaA a x)(w:World):Calls prog 121 #[.string a] w (zab (.bool true) w):=zqy a _ _ _ _ w (zHd (zjS h))
def zia {a:ByteArray}(h:zeo a)(ha:a.size<=maxLen)(w:World):Calls prog 121 #[.string a] w (zab (.bool false) w):=zqy a _ _ _ _ w (zHd (zvx h ha))
def zDl (x:Rat):Value:=.tuple #[.bool (sgn x),.string (zai x.num.natAbs),.string (zai x.den),.bool true]
def zej:Value:=.tuple #[.bool false,.string ⟨#[]⟩,.string ⟨#[]⟩,.bool false]
def zDm {a:ByteArray}{x:Rat}(h:zaA a x)(w:World):Calls prog 166 #[.string a] w (zab (zDl x) w):=zqz a _ _ _ _ w (zHd (zjS h))
def zHb {a:ByteArray}(h:zeo a)(ha:a.size<=maxLen)(w:World):Calls prog 166 #[.string a] w (zab zej w):=zqz a _ _ _ _ w (zHd (zvx h ha))
def zzc (m n:Nat)(hm:nDigits m<=1000)(hn:nDigits n<=1000):∀ w,Calls prog 227 #[.string (zai m),.string (zai n)] w fun e w'=>e=.returned (.int .i64 (zbF m n))/\w.grownBy w' none:=fun w=>by
 have:=znX (zai m) (zai n) w (zaV m hm) (zaV n hn);rw[zod m n hm hn] at this;exact this
def zxR (x y:Rat)(hx:zbr x)(hy:zbr y)(w:World):Calls prog 203 #[zdW x,zdW y] w (zab (.int .i64 (zcz x y)) w):=by
 have d1:=zbU hx.1 hy.2;have d2:=zbU hy.1 hx.2;have t1:=zgd _ _ hx.1 hy.2;have t2:=zgd _ _ hy.1 hx.2;unfold zdW;rw[show decide (x.num<0)=sgn x from rfl,show decide (y.num<0)=sgn y from rfl];cases h1:sgn x <;> cases h2:sgn y
 ·rw[zGR x y h1 h2]
  have cm:=zzc (x.num.natAbs*y.den) (y.num.natAbs*x.den) (by omega) (by omega);rw[<- zcd x.num.natAbs y.den,<- zcd y.num.natAbs x.den] at cm;exact zvw _ _ _ _ _ w t1 t2 (zHd cm)
 rw[zDe x y h1 h2];exact zmK false true _ _ _ _ w (by decide);rw[zDd x y h1 h2];exact zmK true false _ _ _ _ w (by decide);rw[zDf x y h1 h2];have cm:=zzc (y.num.natAbs*x.den) (x.num.natAbs*y.den) (by omega) (by omega);rw[<- zcd x.num.natAbs y.den,<- zcd y.num.natAbs x.den] at cm;exact zus _ _ _ _ _ w t2 t1 (zHd cm)
def zqA {a b:ByteArray}{x y:Rat}(ha:zaA a x)(hb:zaA b y)(w:World):Calls prog 165 #[.string a,.string b] w (zab (.int .i64 (zcz x y)) w) :=
 zKb a b _ _ _ _ _ _ _ w (zHd (zjS ha)) (zHd (zjS hb)) (zHd fun w=>zxR x y ha.short hb.short w)
def zin {a b:ByteArray}(ha:a.size<=maxLen)(hb:b.size<=maxLen)(h:zeo a∨zeo b)(w:World):Calls prog 165 #[.string a,.string b] w (zab (.int .i64 0) w):=by
 obtain⟨b1,A,B,k1,r1,n1⟩:=zqx a ha;obtain⟨b2,C,D,k2,r2,n2⟩:=zqx b hb;refine zLp a b _ _ k1 k2 _ _ _ _ w ?_ (zHd r1) (zHd r2);rcases h with h|h;rw[n1 h];rfl;rw[n2 h,Bool.and_false]
def zxS (s chars:List UInt8):(Lib.indexAny s chars = -1/\∀ x∈s,chars.contains x=false)∨(∃ (i:Nat) (c:UInt8),Lib.indexAny s chars=i/\s[i]?=some c/\chars.contains c=true):=by
 induction s with
 | nil=>exact .inl ⟨rfl,by simp⟩
 | cons b l ih =>
  by_cases h:chars.contains b=true
  exact .inr ⟨0,b,by rw[Lib.indexAny,if_pos h];rfl,rfl,h⟩;rcases ih with⟨h1,h2⟩|⟨i,c,h1,h2,h3⟩
  ·refine .inl ⟨by rw[Lib.indexAny,if_neg h,h1];rfl,?_⟩
   intro x hx;rcases List.mem_cons.1 hx with rfl|hx
   simpa using h;exact h2 x hx
  refine .inr ⟨i+1,c,?_,by simpa using h2,h3⟩;rw[Lib.indexAny,if_neg h,h1,if_neg (fun e=>by have:=beq_iff_eq.1 e;omega)]
  push_cast
  rfl
def zvy (l:List UInt8)(i:Nat):(⟨l.toArray⟩:ByteArray).extract 0 i=⟨(l.take i).toArray⟩:=by
 apply ByteArray.ext;rw[ByteArray.data_extract];simp[List.extract_eq_take_drop]
def extract_drop (l:List UInt8)(i:Nat):(⟨l.toArray⟩:ByteArray).extract i (⟨l.toArray⟩:ByteArray).size=⟨(l.drop i).toArray⟩:=by
 apply ByteArray.ext;rw[ByteArray.data_extract];simp[List.extract_eq_take_drop,ByteArray.size];rw[zqaf (by simp)]
open Go.RowKit
open Go.Lib (nDigits decDigits)
open Go.RowKit
def zbQ (P:Prop)(Q:Value->World->Prop)(w:World)(e:Ending)(w':World):Prop:=(P/\∃ v,e=.returned v/\Q v w'/\w.grownBy w' none)∨(¬ P/\zfY 2 w e w')
def zar (w:World)(g off n:Nat)(L:Nat->Value):Prop:=g<w.heap.size/\∀ j,j<n->w.cell? ⟨g,off+j,none⟩=some (L j)
def zaK (w:World)(v:Value)(n:Nat)(L:Nat->Value):Prop :=
 ∃ A cap,v=.slice A n cap/\n<=cap/\cap<=maxLen/\∀ j,j<n->∃ ad,A=some ad/\ad.block<w.heap.size/\w.cell? (ad.add j)=some (L j)
def zcn (g off j:Nat):(⟨g,off,none⟩:Addr).add j=⟨g,off+j,none⟩:=by unfold Addr.add;split <;> simp_all
def zar.row {w:World}{g off n cap:Nat}{L:Nat->Value}(h:zar w g off n L)(h1:n<=cap)(h2:cap<=maxLen):zaK w (.slice (some ⟨g,off,none⟩) n cap) n L :=
 ⟨_,cap,rfl,h1,h2,fun j hj=>⟨_,rfl,h.1,by rw[zcn];exact h.2 j hj⟩⟩
def zaw (ad:Addr)(j:Nat):(ad.add j).block=ad.block:=by unfold Addr.add;split <;> rfl
def zaL {w w':World}{ad:Addr}(h:w'.heap[ad.block]?=w.heap[ad.block]?):w'.cell? ad=w.cell? ad:=by
 unfold World.cell?;rw[h]
def zar.keep {w w':World}{g off n:Nat}{L:Nat->Value}(h:zar w g off n L)(hs:w.heap.size<=w'.heap.size)(hb:w'.heap[g]?=w.heap[g]?):zar w' g off n L :=
 ⟨zqba h.1 hs,fun j hj=>(zaL (ad:=⟨g,off+j,none⟩) hb).trans (h.2 j hj)⟩
def zar.grown {w w':World}{g off n:Nat}{L:Nat->Value}(h:zar w g off n L)(hg:w.grownBy w' none):zar w' g off n L:=h.keep hg.size (hg.block g h.1 (by simp))
def zar.grownB {w w':World}{g off n b:Nat}{L:Nat->Value}(h:zar w g off n L)(hg:w.grownBy w' (some b))(hb:g≠b):zar w' g off n L:=h.keep hg.size (hg.block g h.1 (by simpa using hb))
def zaK.grown {w w':World}{v:Value}{n:Nat}{L:Nat->Value}(h:zaK w v n L)(hg:w.grownBy w' none):zaK w' v n L:=by
 obtain⟨A,cap,rfl,h1,h2,h3⟩:=h;refine⟨A,cap,rfl,h1,h2,fun j hj=>?_⟩;obtain⟨ad,rfl,hb,hc⟩:=h3 j hj;exact⟨ad,rfl,zqba hb hg.size,(zaL (ad:=ad.add j) (by rw[zaw];exact hg.block ad.block hb (by simp))).trans hc⟩
structure zaD (T:TypeId)(z:Value)(n:Nat)(zs:List Value)(w wr:World):Prop where
 row:wr.heap[w.heap.size]?=some (.cells (zs++List.replicate (n-zs.length) z).toArray T (0,0))
 gr:w.grownBy wr none
 le:zs.length<=n
def zaD.cell {T:TypeId}{z:Value}{n:Nat}{zs:List Value}{w wr:World}(h:zaD T z n zs w wr)(hk:zs.length<n):wr.cell? ⟨w.heap.size,zs.length,none⟩=some z:=by
 rw[zqbw wr w.heap.size zs.length _ _ (0,0) h.row,zqap,zqaq (zqab _),zqbr,show n-zs.length=(n-zs.length-1)+1 by omega];rfl
def zaD.free {T:TypeId}{z:Value}{n:Nat}{zs:List Value}{w wr:World}(h:zaD T z n zs w wr)(k:Nat):wr.frozen? ⟨w.heap.size,k,none⟩=false:=zqbx wr _ _ _ _ h.row
def zaD.put {T:TypeId}{z:Value}{n:Nat}{zs:List Value}{w wr:World}(h:zaD T z n zs w wr)(hk:zs.length<n)(u:Value):zaD T z n (zs++[u]) w (wr.setCell ⟨w.heap.size,zs.length,none⟩ u):=by
 refine⟨?_,zak h.gr (zac _ _ _) (zqab _),by simp;omega⟩;have h1:=heap_setCell_same wr w.heap.size zs.length _ _ u h.row;rw[h1];congr 2;apply Array.toList_inj.1;simp only[Array.toList_setIfInBounds,zqbj];rw[List.set_append_right _ _ (zqab _),zqbr,show n-zs.length=(n-(zs++[u]).length)+1 by simp;omega,List.replicate_succ,List.set_cons_zero];rfl
def zaD.grown {T:TypeId}{z:Value}{n:Nat}{zs:List Value}{w wr w':World}(h:zaD T z n zs w wr)(hg:wr.grownBy w' none):zaD T z n zs w w' :=
 ⟨(hg.block _ (zqad.1 h.row).1 (by simp)).trans h.row,zaa h.gr hg,h.le⟩
def zaD.rowAt {T:TypeId}{z:Value}{n:Nat}{zs:List Value}{w wr:World}(h:zaD T z n zs w wr)(hn:zs.length=n):zar wr w.heap.size 0 n (fun j=>zs.getD j z):=by
 refine⟨(zqad.1 h.row).1,fun j hj=>?_⟩;rw[zqat,zqbw wr w.heap.size j _ _ (0,0) h.row];have e:(zs++List.replicate (n-zs.length) z)=zs:=by rw[hn,zqbr];simp
 dsimp only;rw[e,zqap,zqaa,zqac (by omega)];rfl
def zaD.start {T:TypeId}{z:Value}{n:Nat}{w w1:World}(zO:w1.ownsRow w.heap.size T 1 (.slice (some ⟨w.heap.size,0,none⟩) n n) n (madeCells #[z] n).toList)(hgr:w.grownBy w1 none):zaD T z n [] w w1:=by
 refine⟨?_,hgr,zqaw _⟩;rcases zO.2 with⟨h',_⟩|⟨g',cap',cur,h',hb,hg,_,_,hs,ht⟩
 simp at h';simp only[Value.slice.injEq,Option.some.injEq,Addr.mk.injEq,and_true,true_and] at h';obtain⟨rfl,rfl⟩:=h';rw[zqaf (by rw[zqbs,hs];simp),toList_madeCells_one] at ht;rw[hg];congr 2;apply Array.toList_inj.1;rw[ht];simp
def zfa:(prog.info? 9).map (fun i=>(i.zero,i.size,i.bytes))=some (some (.string ⟨#[]⟩),1,16):=by kernel_rfl
def zfb:(prog.info? 27).map (fun i=>(i.zero,i.size,i.bytes))=some (some (.slice none 0 0),1,24):=by kernel_rfl
def zlq (P:Prop)(H m:Nat)(L:Nat->Value)(w:World)(e:Ending)(w':World):Prop :=
 zbQ P (fun v w'=>∃ g off c,v=.slice (some ⟨g,off,none⟩) m c/\m<=c/\c<=maxLen/\(g<H∨w.heap.size<=g)/\zar w' g off m L) w e w'
def zfE (w:World)(H g n m:Nat)(zs:List Value)(A:Nat->Nat->Value):Prop :=
 zs.length=n/\zar w g 0 n (fun j=>zs.getD j (.slice none 0 0))/\∀ i,i<n->∃ gi off c,zs.getD i (.slice none 0 0)=.slice (some ⟨gi,off,none⟩) m c/\m<=c/\c<=maxLen/\gi≠g/\zar w gi off m (A i)
def zlr (P:Prop)(n m:Nat)(A:Nat->Nat->Value)(w:World)(e:Ending)(w':World):Prop :=
 zbQ P (fun v w'=>∃ zs,v=.slice (some ⟨w.heap.size,0,none⟩) n n/\zfE w' w.heap.size w.heap.size n m zs A) w e w'
def zls (P:Prop)(n:Nat)(G:Nat->ByteArray)(w:World)(e:Ending)(w':World):Prop :=
 zbQ P (fun v w'=>v=.slice (some ⟨w.heap.size,0,none⟩) n n/\zar w' w.heap.size 0 n (fun i=>.string (G i))) w e w'
def zhj (G:Nat->ByteArray)(k:Nat):List Value:=(List.range k).map (fun i=>.string (G i))
def zjT (G:Nat->ByteArray)(k:Nat):(zhj G k).length=k:=by simp[zhj]
def zlu (G:Nat->ByteArray)(k:Nat):zhj G k++[.string (G k)]=zhj G (k+1):=by simp[zhj,List.range_succ]
def zDn (G:Nat->ByteArray){n j:Nat}(z:Value)(h:j<n):(zhj G n).getD j z=.string (G j):=by
 unfold zhj;rw[zqaa,zqaj,zqbe h];rfl
def zaD.strs {n:Nat}{G:Nat->ByteArray}{w wr:World}(h:zaD 9 (.string ⟨#[]⟩) n (zhj G n) w wr):zar wr w.heap.size 0 n (fun i=>.string (G i)):=by
 have h1:=h.rowAt (zjT G n);refine⟨h1.1,fun j hj=>(h1.2 j hj).trans ?_⟩;dsimp only;rw[zDn G _ hj]
def zvz (P:Prop)(V:Value)(w:World)(e:Ending)(w':World):Prop:=(P/\zab V w e w')∨(¬ P/\zfY 2 w e w')
def zkq (F:Nat)(he:Enters F)(first cap:Array Value)(n:Nat)(V:Nat->Value)(m:Nat)(P:Nat->Prop)(A:Nat->Nat->Value)(lv:Value)(w:World)(hn:n<=10000)(hl:zaK w lv n V)
  (hF:∀ i,i<n->∀ w',w.grownBy w' none->Calls prog F (first++#[V i]++cap) w' (zlq (P i) w.heap.size m (A i) w')) :
  Calls prog 72 #[lv,.func (.func F) first cap] w (zlr (∀ i,i<n->P i) n m A w):=by
 obtain⟨Ad,c,rfl,h1,h2,h3⟩:=hl;obtain⟨i0,hi,hz0,hz1,hz2⟩:=info_parts zfb;have HE:=zHd he;have HF:=zHd hF;have HL:=zHd h3;have HN:=zHd hn;clear he hF h3 h1 h2 hn;go_enter func72,ntmps72;go_wp2_with (at_make;refine wpList_make_full _ rfl _ _ 41 rfl w.heap.size 27 i0 (.slice none 0 0) 1 underlying41 hi hz0 hz1 _ _ _ _ n rfl rfl ?c0 ?c1 ?c2 (by have:=HN.out;unfold maxLen;omega) (zqab _) ?_)
 case c0=>omega
 case c1=>omega
 case c2=>have:=HN.out;first|omega|(rw[hz2];omega)
 intro w1 zO hgr;have zF:=zaD.start zO hgr;have HW:=zHd zF;clear zO hgr zF;go_wp2
 go_loopw [13] (fun iv wr=>∃ zs:List Value,iv=.int .i64 (zs.length:Int)/\zaD 27 (.slice none 0 0) n zs w wr/\∀ i,i<zs.length->∃ gi off c,zs.getD i (.slice none 0 0)=.slice (some ⟨gi,off,none⟩) m c/\m<=c/\c<=maxLen/\gi≠w.heap.size/\zar wr gi off m (A i)/\P i) (fun iv _=>n-(intOf iv).toNat)
 case atStart=>exact⟨[],rfl,HW.out,fun i hi=>absurd hi (by simp)⟩
 case round =>
  obtain⟨zs,rfl,zF,zR⟩:=hrel;obtain⟨k,hzk⟩:∃ k,zs.length=k:=⟨_,rfl⟩;have hle:=zF.le
  by_cases hk:k<n
  ·obtain⟨ad,rfl,hb,hc⟩:=HL.out k hk
   have hc2:wr.cell? (ad.add k)=some (V k):=(zaL (ad:=ad.add k) (by rw[zaw];exact zF.gr.block ad.block hb (by simp))).trans hc;have t1:decide (k<n)=true:=by simpa using hk
   have t1':decide ((k:Int)<(n:Int))=true:=by simpa using hk
   have hik:(k:Int)<(n:Int):=by omega
   have n1:IntKind.i64.wrap ((k:Int)+1)=(k:Int)+1:=by have:=HN.out;rw[zqah];omega
   have HFL:=zHd zF;have HK:=zHd (zAI hk (zAI hzk hle));have HR:=zHd zR;rw[hzk];clear zR;clear zF hk hle hzk hb hc;go_wp2_with fail;rw[HE.out];refine(HF.out k HK.out.1 wr HFL.out.gr).mono ?_;rintro e w' (⟨hpk,v,rfl,⟨g,off,c2,rfl,hm1,hm2,hgl,zW⟩,hg⟩|⟨hnp,rfl,hg⟩)
   ·have HPK:=zHd hpk
    clear hpk;have hf2:=HFL.out.grown hg;have hcl:=hf2.cell (by rw[HK.out.2.1];exact HK.out.1);have hfr:=hf2.free k;rw[HK.out.2.1] at hcl;have HF2:=zHd hf2;have HG:=zHd hg;have HROW:=zHd (zAI hm1 (zAI hm2 (zAI hgl zW)));clear hf2 hg hm1 hm2 hgl zW;go_wp2;obtain⟨hk,hzk,hle⟩:=HK.out;have zp:=HF2.out.put (by rw[hzk];exact hk) (.slice (some ⟨g,off,none⟩) m c2);rw[hzk] at zp;obtain⟨hm1,hm2,hgl,zW⟩:=HROW.out
    have hne:g≠w.heap.size:=by
     rcases hgl with h|h;omega;exact zQbK
    refine⟨⟨zs++[.slice (some ⟨g,off,none⟩) m c2],by simp[hzk],zp,fun i hi=>?_⟩,by simp[intOf];omega⟩
    by_cases hik2:i<zs.length
    ·obtain⟨gi,oi,ci,e1,e2,e3,e4,e5,e6⟩:=HR.out i hik2
     exact zQaL
    exact zQaC
   exact zQaH
  have hkn:k=n:=by omega
  subst hkn;have t1:decide (k<k)=false:=by simp
  have t1':decide ((k:Int)<(k:Int))=false:=by simp
  exact zQao
def zxT (F:Nat)(he:Enters F)(first cap:Array Value)(n:Nat)(V:Nat->Value)(P:Nat->Prop)(G:Nat->ByteArray)(lv:Value)(w:World)(hn:n<=10000)(hl:zaK w lv n V)
  (hF:∀ i,i<n->∀ w',w.grownBy w' none->Calls prog F (first++#[V i]++cap) w' (zvz (P i) (.string (G i)) w')) :
  Calls prog 146 #[lv,.func (.func F) first cap] w (zls (∀ i,i<n->P i) n G w):=by
 obtain⟨Ad,c,rfl,h1,h2,h3⟩:=hl;obtain⟨i0,hi,hz0,hz1,hz2⟩:=info_parts zfa;have HE:=zHd he;have HF:=zHd hF;have HL:=zHd h3;have HN:=zHd hn;clear he hF h3 h1 h2 hn;go_enter func146,ntmps146;go_wp2_with (at_make;refine wpList_make_full _ rfl _ _ 27 rfl w.heap.size 9 i0 (.string ⟨#[]⟩) 1 underlying27 hi hz0 hz1 _ _ _ _ n rfl rfl ?c0 ?c1 ?c2 (by have:=HN.out;unfold maxLen;omega) (zqab _) ?_)
 case c0=>omega
 case c1=>omega
 case c2=>have:=HN.out;first|omega|(rw[hz2];omega)
 intro w1 zO hgr;have zF:=zaD.start zO hgr;have HW:=zHd zF;clear zO hgr zF;go_wp2
 go_loopw [13] (fun iv wr=>∃ k:Nat,iv=.int .i64 (k:Int)/\k<=n/\zaD 9 (.string ⟨#[]⟩) n (zhj G k) w wr/\∀ i,i<k->P i) (fun iv _=>n-(intOf iv).toNat)
 case atStart=>exact⟨0,rfl,zqaw _,HW.out,fun i hi=>absurd hi (by omega)⟩
 case round =>
  obtain⟨k,rfl,hle,zF,hps⟩:=hrel;have HPS:=zHd hps;clear hps;have hzk:=zjT G k
  by_cases hk:k<n
  ·obtain⟨ad,rfl,hb,hc⟩:=HL.out k hk
   have hc2:wr.cell? (ad.add k)=some (V k):=(zaL (ad:=ad.add k) (by rw[zaw];exact zF.gr.block ad.block hb (by simp))).trans hc;have t1:decide (k<n)=true:=by simpa using hk
   have t1':decide ((k:Int)<(n:Int))=true:=by simpa using hk
   have hik:(k:Int)<(n:Int):=by omega
   have n1:IntKind.i64.wrap ((k:Int)+1)=(k:Int)+1:=by have:=HN.out;rw[zqah];omega
   have HFL:=zHd zF;have HK:=zHd (zAI hk (zAI hzk hle));clear zF hk hle hzk hb hc;go_wp2_with fail;rw[HE.out];refine(HF.out k HK.out.1 wr HFL.out.gr).mono ?_;rintro e w' (⟨hpk,rfl,hg⟩|⟨hnp,rfl,hg⟩)
   ·have HPK:=zHd hpk
    clear hpk;have hf2:=HFL.out.grown hg;have hcl:=hf2.cell (by rw[HK.out.2.1];exact HK.out.1);have hfr:=hf2.free k;rw[HK.out.2.1] at hcl;have HF2:=zHd hf2;have HG:=zHd hg;clear hf2 hg;go_wp2;obtain⟨hk,hzk,hle⟩:=HK.out;have zp:=HF2.out.put (by rw[hzk];exact hk) (.string (G k));rw[hzk,zlu] at zp;refine⟨⟨k+1,by simp,hk,zp,fun i hi=>?_⟩,by simp[intOf];omega⟩
    by_cases e:i=k
    subst e;exact HPK.out;exact HPS.out i (by omega)
   exact zQaH
  have hkn:k=n:=by omega
  subst hkn;have t1:decide (k<k)=false:=by simp
  have t1':decide ((k:Int)<(k:Int))=false:=by simp
  exact zQaP
def zmj (F:Nat)(he:Enters F)(first cap:Array Value)(n:Nat)(V:Nat->Value)(P:Nat->Prop)(G:Nat->ByteArray)(lv:Value)(w:World)(hn:n<=10000)(hl:zaK w lv n V)
  (hF:∀ i,i<n->∀ w',w.grownBy w' none->Calls prog F (first++#[V i]++cap) w' (zvz (P i) (.string (G i)) w')) :
  Calls prog 84 #[lv,.func (.func F) first cap] w (zls (∀ i,i<n->P i) n G w):=by
 obtain⟨Ad,c,rfl,h1,h2,h3⟩:=hl;obtain⟨i0,hi,hz0,hz1,hz2⟩:=info_parts zfa;have HE:=zHd he;have HF:=zHd hF;have HL:=zHd h3;have HN:=zHd hn;clear he hF h3 h1 h2 hn;go_enter func84,ntmps84;go_wp2_with (at_make;refine wpList_make_full _ rfl _ _ 27 rfl w.heap.size 9 i0 (.string ⟨#[]⟩) 1 underlying27 hi hz0 hz1 _ _ _ _ n rfl rfl ?c0 ?c1 ?c2 (by have:=HN.out;unfold maxLen;omega) (zqab _) ?_)
 case c0=>omega
 case c1=>omega
 case c2=>have:=HN.out;first|omega|(rw[hz2];omega)
 intro w1 zO hgr;have zF:=zaD.start zO hgr;have HW:=zHd zF;clear zO hgr zF;go_wp2
 go_loopw [13] (fun iv wr=>∃ k:Nat,iv=.int .i64 (k:Int)/\k<=n/\zaD 9 (.string ⟨#[]⟩) n (zhj G k) w wr/\∀ i,i<k->P i) (fun iv _=>n-(intOf iv).toNat)
 case atStart=>exact⟨0,rfl,zqaw _,HW.out,fun i hi=>absurd hi (by omega)⟩
 case round =>
  obtain⟨k,rfl,hle,zF,hps⟩:=hrel;have HPS:=zHd hps;clear hps;have hzk:=zjT G k
  by_cases hk:k<n
  ·obtain⟨ad,rfl,hb,hc⟩:=HL.out k hk
   have hc2:wr.cell? (ad.add k)=some (V k):=(zaL (ad:=ad.add k) (by rw[zaw];exact zF.gr.block ad.block hb (by simp))).trans hc;have t1:decide (k<n)=true:=by simpa using hk
   have t1':decide ((k:Int)<(n:Int))=true:=by simpa using hk
   have hik:(k:Int)<(n:Int):=by omega
   have n1:IntKind.i64.wrap ((k:Int)+1)=(k:Int)+1:=by have:=HN.out;rw[zqah];omega
   have HFL:=zHd zF;have HK:=zHd (zAI hk (zAI hzk hle));clear zF hk hle hzk hb hc;go_wp2_with fail;rw[HE.out];refine(HF.out k HK.out.1 wr HFL.out.gr).mono ?_;rintro e w' (⟨hpk,rfl,hg⟩|⟨hnp,rfl,hg⟩)
   ·have HPK:=zHd hpk
    clear hpk;have hf2:=HFL.out.grown hg;have hcl:=hf2.cell (by rw[HK.out.2.1];exact HK.out.1);have hfr:=hf2.free k;rw[HK.out.2.1] at hcl;have HF2:=zHd hf2;have HG:=zHd hg;clear hf2 hg;go_wp2;obtain⟨hk,hzk,hle⟩:=HK.out;have zp:=HF2.out.put (by rw[hzk];exact hk) (.string (G k));rw[hzk,zlu] at zp;refine⟨⟨k+1,by simp,hk,zp,fun i hi=>?_⟩,by simp[intOf];omega⟩
    by_cases e:i=k
    subst e;exact HPK.out;exact HPS.out i (by omega)
   exact zQaH
  have hkn:k=n:=by omega
  subst hkn;have t1:decide (k<k)=false:=by simp
  have t1':decide ((k:Int)<(k:Int))=false:=by simp
  exact zQaP
def zmk (F:Nat)(he:Enters F)(first cap:Array Value)(n m2:Nat)(V V2:Nat->Value)(P:Nat->Prop)(G:Nat->ByteArray)(lv rv:Value)(w:World)(hn:n<=10000)(hl:zaK w lv n V)(hr:zaK w rv m2 V2)(hm2:n<=m2)
  (hF:∀ i,i<n->∀ w',w.grownBy w' none->Calls prog F (first++(#[V i,V2 i]++cap)) w' (zvz (P i) (.string (G i)) w')) :
  Calls prog 79 #[lv,rv,.func (.func F) first cap] w (zls (∀ i,i<n->P i) n G w):=by
 obtain⟨Ad,c,rfl,h1,h2,h3⟩:=hl;obtain⟨Ad2,c',rfl,h1',h2',h3'⟩:=hr;obtain⟨i0,hi,hz0,hz1,hz2⟩:=info_parts zfa;have HE:=zHd he;have HF:=zHd hF;have HL:=zHd h3;have HN:=zHd hn;clear he hF h3 h1 h2 hn;have HL2:=zHd h3';have HM2:=zHd hm2;clear h1' h2' h3' hm2;go_enter func79,ntmps79;go_wp2_with (at_make;refine wpList_make_full _ rfl _ _ 27 rfl w.heap.size 9 i0 (.string ⟨#[]⟩) 1 underlying27 hi hz0 hz1 _ _ _ _ n rfl rfl ?c0 ?c1 ?c2 (by have:=HN.out;unfold maxLen;omega) (zqab _) ?_)
 case c0=>omega
 case c1=>omega
 case c2=>have:=HN.out;first|omega|(rw[hz2];omega)
 intro w1 zO hgr;have zF:=zaD.start zO hgr;have HW:=zHd zF;clear zO hgr zF;go_wp2
 go_loopw [15] (fun iv wr=>∃ k:Nat,iv=.int .i64 (k:Int)/\k<=n/\zaD 9 (.string ⟨#[]⟩) n (zhj G k) w wr/\∀ i,i<k->P i) (fun iv _=>n-(intOf iv).toNat)
 case atStart=>exact⟨0,rfl,zqaw _,HW.out,fun i hi=>absurd hi (by omega)⟩
 case round =>
  obtain⟨k,rfl,hle,zF,hps⟩:=hrel;have HPS:=zHd hps;clear hps;have hzk:=zjT G k
  by_cases hk:k<n
  ·obtain⟨ad,rfl,hb,hc⟩:=HL.out k hk
   have hc2:wr.cell? (ad.add k)=some (V k):=(zaL (ad:=ad.add k) (by rw[zaw];exact zF.gr.block ad.block hb (by simp))).trans hc;obtain⟨ad2,rfl,hb2,hc3⟩:=HL2.out k (zqba hk HM2.out);have hc4:wr.cell? (ad2.add k)=some (V2 k):=(zaL (ad:=ad2.add k) (by rw[zaw];exact zF.gr.block ad2.block hb2 (by simp))).trans hc3;have hik2':(k:Int)<(m2:Int):=by have:=HM2.out;omega
   clear hb2 hc3;have t1:decide (k<n)=true:=by simpa using hk
   have t1':decide ((k:Int)<(n:Int))=true:=by simpa using hk
   have hik:(k:Int)<(n:Int):=by omega
   have n1:IntKind.i64.wrap ((k:Int)+1)=(k:Int)+1:=by have:=HN.out;rw[zqah];omega
   have HFL:=zHd zF;have HK:=zHd (zAI hk (zAI hzk hle));clear zF hk hle hzk hb hc;go_wp2_with fail;rw[HE.out];refine(HF.out k HK.out.1 wr HFL.out.gr).mono ?_;rintro e w' (⟨hpk,rfl,hg⟩|⟨hnp,rfl,hg⟩)
   ·have HPK:=zHd hpk
    clear hpk;have hf2:=HFL.out.grown hg;have hcl:=hf2.cell (by rw[HK.out.2.1];exact HK.out.1);have hfr:=hf2.free k;rw[HK.out.2.1] at hcl;have HF2:=zHd hf2;have HG:=zHd hg;clear hf2 hg;go_wp2;obtain⟨hk,hzk,hle⟩:=HK.out;have zp:=HF2.out.put (by rw[hzk];exact hk) (.string (G k));rw[hzk,zlu] at zp;refine⟨⟨k+1,by simp,hk,zp,fun i hi=>?_⟩,by simp[intOf];omega⟩
    by_cases e:i=k
    subst e;exact HPK.out;exact HPS.out i (by omega)
   exact zQaH
  have hkn:k=n:=by omega
  subst hkn;have t1:decide (k<k)=false:=by simp
  have t1':decide ((k:Int)<(k:Int))=false:=by simp
  exact zQaP
def zuu (F:Nat)(he:Enters F)(first cap:Array Value)(n m2:Nat)(V V2:Nat->Value)(m:Nat)(P:Nat->Prop)(A:Nat->Nat->Value)(lv rv:Value)(w:World)(hn:n<=10000)(hl:zaK w lv n V)(hr:zaK w rv m2 V2)(hm2:n<=m2)
  (hF:∀ i,i<n->∀ w',w.grownBy w' none->Calls prog F (first++(#[V i,V2 i]++cap)) w' (zlq (P i) w.heap.size m (A i) w')) :
  Calls prog 70 #[lv,rv,.func (.func F) first cap] w (zlr (∀ i,i<n->P i) n m A w):=by
 obtain⟨Ad,c,rfl,h1,h2,h3⟩:=hl;obtain⟨Ad2,c',rfl,h1',h2',h3'⟩:=hr;obtain⟨i0,hi,hz0,hz1,hz2⟩:=info_parts zfb;have HE:=zHd he;have HF:=zHd hF;have HL:=zHd h3;have HN:=zHd hn;clear he hF h3 h1 h2 hn;have HL2:=zHd h3';have HM2:=zHd hm2;clear h1' h2' h3' hm2;go_enter func70,ntmps70;go_wp2_with (at_make;refine wpList_make_full _ rfl _ _ 41 rfl w.heap.size 27 i0 (.slice none 0 0) 1 underlying41 hi hz0 hz1 _ _ _ _ n rfl rfl ?c0 ?c1 ?c2 (by have:=HN.out;unfold maxLen;omega) (zqab _) ?_)
 case c0=>omega
 case c1=>omega
 case c2=>have:=HN.out;first|omega|(rw[hz2];omega)
 intro w1 zO hgr;have zF:=zaD.start zO hgr;have HW:=zHd zF;clear zO hgr zF;go_wp2
 go_loopw [15] (fun iv wr=>∃ zs:List Value,iv=.int .i64 (zs.length:Int)/\zaD 27 (.slice none 0 0) n zs w wr/\∀ i,i<zs.length->∃ gi off c,zs.getD i (.slice none 0 0)=.slice (some ⟨gi,off,none⟩) m c/\m<=c/\c<=maxLen/\gi≠w.heap.size/\zar wr gi off m (A i)/\P i) (fun iv _=>n-(intOf iv).toNat)
 case atStart=>exact⟨[],rfl,HW.out,fun i hi=>absurd hi (by simp)⟩
 case round =>
  obtain⟨zs,rfl,zF,zR⟩:=hrel;obtain⟨k,hzk⟩:∃ k,zs.length=k:=⟨_,rfl⟩;have hle:=zF.le
  by_cases hk:k<n
  ·obtain⟨ad,rfl,hb,hc⟩:=HL.out k hk
   have hc2:wr.cell? (ad.add k)=some (V k):=(zaL (ad:=ad.add k) (by rw[zaw];exact zF.gr.block ad.block hb (by simp))).trans hc;obtain⟨ad2,rfl,hb2,hc3⟩:=HL2.out k (zqba hk HM2.out);have hc4:wr.cell? (ad2.add k)=some (V2 k):=(zaL (ad:=ad2.add k) (by rw[zaw];exact zF.gr.block ad2.block hb2 (by simp))).trans hc3;have hik2':(k:Int)<(m2:Int):=by have:=HM2.out;omega
   clear hb2 hc3;have t1:decide (k<n)=true:=by simpa using hk
   have t1':decide ((k:Int)<(n:Int))=true:=by simpa using hk
   have hik:(k:Int)<(n:Int):=by omega
   have n1:IntKind.i64.wrap ((k:Int)+1)=(k:Int)+1:=by have:=HN.out;rw[zqah];omega
   have HFL:=zHd zF;have HK:=zHd (zAI hk (zAI hzk hle));have HR:=zHd zR;rw[hzk];clear zR;clear zF hk hle hzk hb hc;go_wp2_with fail;rw[HE.out];refine(HF.out k HK.out.1 wr HFL.out.gr).mono ?_;rintro e w' (⟨hpk,v,rfl,⟨g,off,c2,rfl,hm1,hm2,hgl,zW⟩,hg⟩|⟨hnp,rfl,hg⟩)
   ·have HPK:=zHd hpk
    clear hpk;have hf2:=HFL.out.grown hg;have hcl:=hf2.cell (by rw[HK.out.2.1];exact HK.out.1);have hfr:=hf2.free k;rw[HK.out.2.1] at hcl;have HF2:=zHd hf2;have HG:=zHd hg;have HROW:=zHd (zAI hm1 (zAI hm2 (zAI hgl zW)));clear hf2 hg hm1 hm2 hgl zW;go_wp2;obtain⟨hk,hzk,hle⟩:=HK.out;have zp:=HF2.out.put (by rw[hzk];exact hk) (.slice (some ⟨g,off,none⟩) m c2);rw[hzk] at zp;obtain⟨hm1,hm2,hgl,zW⟩:=HROW.out
    have hne:g≠w.heap.size:=by
     rcases hgl with h|h;omega;exact zQbK
    refine⟨⟨zs++[.slice (some ⟨g,off,none⟩) m c2],by simp[hzk],zp,fun i hi=>?_⟩,by simp[intOf];omega⟩
    by_cases hik2:i<zs.length
    ·obtain⟨gi,oi,ci,e1,e2,e3,e4,e5,e6⟩:=HR.out i hik2
     exact zQaL
    exact zQaC
   exact zQaH
  have hkn:k=n:=by omega
  subst hkn;have t1:decide (k<k)=false:=by simp
  have t1':decide ((k:Int)<(k:Int))=false:=by simp
  exact zQao
def zvA (F:Nat)(he:Enters F)(first cap:Array Value)(n m2:Nat)(V V2:Nat->Value)(m:Nat)(P:Nat->Prop)(A:Nat->Nat->Value)(lv rv:Value)(w:World)(hn:n<=10000)(hl:zaK w lv n V)(hr:zaK w rv m2 V2)(hm2:n<=m2)
  (hF:∀ i,i<n->∀ w',w.grownBy w' none->Calls prog F (first++(#[V i,V2 i]++cap)) w' (zlq (P i) w.heap.size m (A i) w')) :
  Calls prog 77 #[lv,rv,.func (.func F) first cap] w (zlr (∀ i,i<n->P i) n m A w):=by
 obtain⟨Ad,c,rfl,h1,h2,h3⟩:=hl;obtain⟨Ad2,c',rfl,h1',h2',h3'⟩:=hr;obtain⟨i0,hi,hz0,hz1,hz2⟩:=info_parts zfb;have HE:=zHd he;have HF:=zHd hF;have HL:=zHd h3;have HN:=zHd hn;clear he hF h3 h1 h2 hn;have HL2:=zHd h3';have HM2:=zHd hm2;clear h1' h2' h3' hm2;go_enter func77,ntmps77;go_wp2_with (at_make;refine wpList_make_full _ rfl _ _ 41 rfl w.heap.size 27 i0 (.slice none 0 0) 1 underlying41 hi hz0 hz1 _ _ _ _ n rfl rfl ?c0 ?c1 ?c2 (by have:=HN.out;unfold maxLen;omega) (zqab _) ?_)
 case c0=>omega
 case c1=>omega
 case c2=>have:=HN.out;first|omega|(rw[hz2];omega)
 intro w1 zO hgr;have zF:=zaD.start zO hgr;have HW:=zHd zF;clear zO hgr zF;go_wp2
 go_loopw [15] (fun iv wr=>∃ zs:List Value,iv=.int .i64 (zs.length:Int)/\zaD 27 (.slice none 0 0) n zs w wr/\∀ i,i<zs.length->∃ gi off c,zs.getD i (.slice none 0 0)=.slice (some ⟨gi,off,none⟩) m c/\m<=c/\c<=maxLen/\gi≠w.heap.size/\zar wr gi off m (A i)/\P i) (fun iv _=>n-(intOf iv).toNat)
 case atStart=>exact⟨[],rfl,HW.out,fun i hi=>absurd hi (by simp)⟩
 case round =>
  obtain⟨zs,rfl,zF,zR⟩:=hrel;obtain⟨k,hzk⟩:∃ k,zs.length=k:=⟨_,rfl⟩;have hle:=zF.le
  by_cases hk:k<n
  ·obtain⟨ad,rfl,hb,hc⟩:=HL.out k hk
   have hc2:wr.cell? (ad.add k)=some (V k):=(zaL (ad:=ad.add k) (by rw[zaw];exact zF.gr.block ad.block hb (by simp))).trans hc;obtain⟨ad2,rfl,hb2,hc3⟩:=HL2.out k (zqba hk HM2.out);have hc4:wr.cell? (ad2.add k)=some (V2 k):=(zaL (ad:=ad2.add k) (by rw[zaw];exact zF.gr.block ad2.block hb2 (by simp))).trans hc3;have hik2':(k:Int)<(m2:Int):=by have:=HM2.out;omega
   clear hb2 hc3;have t1:decide (k<n)=true:=by simpa using hk
   have t1':decide ((k:Int)<(n:Int))=true:=by simpa using hk
   have hik:(k:Int)<(n:Int):=by omega
   have n1:IntKind.i64.wrap ((k:Int)+1)=(k:Int)+1:=by have:=HN.out;rw[zqah];omega
   have HFL:=zHd zF;have HK:=zHd (zAI hk (zAI hzk hle));have HR:=zHd zR;rw[hzk];clear zR;clear zF hk hle hzk hb hc;go_wp2_with fail;rw[HE.out];refine(HF.out k HK.out.1 wr HFL.out.gr).mono ?_;rintro e w' (⟨hpk,v,rfl,⟨g,off,c2,rfl,hm1,hm2,hgl,zW⟩,hg⟩|⟨hnp,rfl,hg⟩)
   ·have HPK:=zHd hpk
    clear hpk;have hf2:=HFL.out.grown hg;have hcl:=hf2.cell (by rw[HK.out.2.1];exact HK.out.1);have hfr:=hf2.free k;rw[HK.out.2.1] at hcl;have HF2:=zHd hf2;have HG:=zHd hg;have HROW:=zHd (zAI hm1 (zAI hm2 (zAI hgl zW)));clear hf2 hg hm1 hm2 hgl zW;go_wp2;obtain⟨hk,hzk,hle⟩:=HK.out;have zp:=HF2.out.put (by rw[hzk];exact hk) (.slice (some ⟨g,off,none⟩) m c2);rw[hzk] at zp;obtain⟨hm1,hm2,hgl,zW⟩:=HROW.out
    have hne:g≠w.heap.size:=by
     rcases hgl with h|h;omega;exact zQbK
    refine⟨⟨zs++[.slice (some ⟨g,off,none⟩) m c2],by simp[hzk],zp,fun i hi=>?_⟩,by simp[intOf];omega⟩
    by_cases hik2:i<zs.length
    ·obtain⟨gi,oi,ci,e1,e2,e3,e4,e5,e6⟩:=HR.out i hik2
     exact zQaL
    exact zQaC
   exact zQaH
  have hkn:k=n:=by omega
  subst hkn;have t1:decide (k<k)=false:=by simp
  have t1':decide ((k:Int)<(k:Int))=false:=by simp
  exact zQao
end Go.Proofs.YtiblmbpfcmcccaaGreatDoor
