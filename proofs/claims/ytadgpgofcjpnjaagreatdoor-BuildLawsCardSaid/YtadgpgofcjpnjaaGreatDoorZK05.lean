/- Part. -/
import Derived.Test.YtadgpgofcjpnjaaGreatDoorZK04
set_option linter.unusedVariables false
set_option linter.defProp false
set_option linter.unusedSimpArgs false
set_option maxRecDepth 100000
set_option maxHeartbeats 16000000
namespace Go.Proofs.YtadgpgofcjpnjaaGreatDoor
open Go.Proofs.Tryz
open Go.RowKit
def zGW (p:Addr)(x E:Int)(older:List PanicEntry)(w:World)(hc:w.cell? p=some (.int .i64 x))(hz:w.frozen? p=false) :
  CallsD prog 174 #[.pointer (some p)] (.panicking ({ v:=.iface 30 (.int .i64 E),recovered:=false }::older)) w fun e u' w' =>
   e=.returned (.tuple #[])/\u'=.panicking ({ v:=.iface 30 (.int .i64 E),recovered:=true }::older)/\w'=w.setCell p (.int .i64 E):=by
 refine callsD_of_wpS func174 rfl fun c₀ cs hu=>?_;apply wpS_seq;apply wpS_region;simp[wpOpsS,go_sem,recoverD,hu,ntmps174,Exit.thenS];clear hu;obtain⟨fs,hfs⟩:∃ fs:List Frame,fs = { c₀ with mode:=.panicking ({ v:=.iface 30 (.int .i64 E),recovered:=true }::older) }::cs:=⟨_,rfl⟩;have HFS:=zHd hfs;rw[<- hfs];clear hfs;have h1:∀ w:World,(binOp .neq 20 (.iface 30 (.int .i64 E)) .nilIface).run prog w=.ok (.bool true) w:=fun w=>run_neq_held_nil _ _ _ _ (by kernel_rfl);have h2:∀ w:World,(Instr.typeAssert (.iface 30 (.int .i64 E)) 20 30 false).run prog w=.ok (.int .i64 E) w:=fun w=>by kernel_rfl
 refine wpS_of_wp ?_;go_wp2_with fail;clear h1 h2 hc hz;rw[HFS.out];exact⟨rfl,_,rfl,.tuple #[],by simp[results,results174],rfl,rfl,rfl⟩
def idle (p:Addr)(w:World) :
  CallsD prog 174 #[.pointer (some p)] .returning w fun e u' w'=>e=.returned (.tuple #[])/\u'=.returning/\w'=w:=by
 refine callsD_of_wpS func174 rfl fun c₀ cs hu=>?_;apply wpS_seq;apply wpS_region;simp[wpOpsS,go_sem,recoverD,hu,ntmps174,Exit.thenS];refine wpS_of_wp ?_;go_wp2;cases c₀
 simp_all [bodyPostS,results,results174]
def zkH (E:Int)(w:World)(e:Ending)(w':World):Prop:=e=.panicked [{ v:=.iface 30 (.int .i64 E),recovered:=false }]/\w.grownBy w' none
def Enters (F:Nat):Prop:=∀ (args:Array Value) (w:World),(callFunc F args).run prog w=.ok (.enter F args) w
def zaG (w:World)(o:Obj):(w.alloc o).heap[w.heap.size]?=some o:=by show(w.heap.push o)[w.heap.size]?=some o;simp
def zCv (S:ByteArray)(w w2:World)(tmps:Array Value)(ht:tmps=#[tmps.getD 0 undef,tmps.getD 1 undef,.string S,.pointer (some ⟨w.heap.size,0,none⟩),tmps.getD 4 undef,tmps.getD 5 undef,tmps.getD 6 undef])
  (hb:w2.heap[w.heap.size]?=some (.cells #[.int .i64 0] 30 (0,0))) (hg:w.grownBy w2 none) :
  Leaves prog f153 tmps (zab (.tuple #[.string S,.int .i64 0]) w) [{ target:=.fn (.func 174) #[.pointer (some ⟨w.heap.size,0,none⟩)],args:=#[] }] .returning w2:=by
 have zE:=cell_of_one hb;refine leaves_cons (f:=174) (args:=#[.pointer (some ⟨w.heap.size,0,none⟩)]) (by simp) (by simp[go_sem]) ?_;refine(idle ⟨w.heap.size,0,none⟩ _).mono ?_;rintro e u' w'' ⟨rfl,rfl,rfl⟩;rw[ht];refine⟨.tuple #[.string S,.int .i64 0],by simp[results,results153,go_sem,zE],rfl,hg⟩
def zCw (E:Int)(w w2:World)(tmps:Array Value)(ht:tmps=#[tmps.getD 0 undef,tmps.getD 1 undef,.string ⟨#[]⟩,.pointer (some ⟨w.heap.size,0,none⟩),tmps.getD 4 undef,tmps.getD 5 undef,tmps.getD 6 undef])
  (hb:w2.heap[w.heap.size]?=some (.cells #[.int .i64 0] 30 (0,0))) (hg:w.grownBy w2 none) :
  Leaves prog f153 tmps (zab (.tuple #[.string ⟨#[]⟩,.int .i64 E]) w) [{ target:=.fn (.func 174) #[.pointer (some ⟨w.heap.size,0,none⟩)],args:=#[] }] (.panicking [{ v:=.iface 30 (.int .i64 E),recovered:=false }]) w2:=by
 have zE:=cell_of_one (one_setCell (u:=.int .i64 E) hb);refine leaves_cons (f:=174) (args:=#[.pointer (some ⟨w.heap.size,0,none⟩)]) (by simp) (by simp[go_sem]) ?_;refine(zGW ⟨w.heap.size,0,none⟩ 0 E [] _ (cell_of_one hb) (free_of_one hb)).mono ?_;rintro e u' w'' ⟨rfl,rfl,rfl⟩;rw[ht];refine⟨.tuple #[.string ⟨#[]⟩,.int .i64 E],by simp[results,results153,go_sem,zE],rfl,?_⟩;exact zae hg (zad w2 ⟨w.heap.size,0,none⟩ _) (zqab _)
def alloc_old {w w2:World}{o:Obj}(hg:(w.alloc o).grownBy w2 none):w2.heap[w.heap.size]?=some o :=
 (hg.block _ (by simp) (by simp)).trans (zaG w o)
def zpu (F:Nat)(he:Enters F)(first cap:Array Value)(S:ByteArray)(w:World)
  (h:Calls prog F (first++cap) (w.alloc (.cells #[.int .i64 0] 30)) (zab (.string S) (w.alloc (.cells #[.int .i64 0] 30)))) :
  Calls prog 153 #[.func (.func F) first cap] w (zab (.tuple #[.string S,.int .i64 0]) w):=by
 have hmf := @zMF prog;have H:=zHd h;have HE:=zHd he;clear h he
 go_enter_defers func153,ntmps153
 go_wp2_with fail;rw[HE.out];refine H.out.mono ?_;rintro e w2 ⟨rfl,hg⟩;have hb:=alloc_old hg;have zE:=cell_of_one hb;have hfree:=free_of_one hb;have HB:=zHd hb;have HG:=zHd hg;clear hb hg H HE;go_wp2;exact zCv S w _ _ rfl (one_setCell HB.out) (zae (zaa (zGA _ _ none) HG.out) (zad w2 ⟨w.heap.size,0,none⟩ _) (zqab _))
def zpv (F:Nat)(he:Enters F)(first cap:Array Value)(E:Int)(w:World)
  (h:Calls prog F (first++cap) (w.alloc (.cells #[.int .i64 0] 30)) (zkH E (w.alloc (.cells #[.int .i64 0] 30)))) :
  Calls prog 153 #[.func (.func F) first cap] w (zab (.tuple #[.string ⟨#[]⟩,.int .i64 E]) w):=by
 have hmf := @zMF prog;have H:=zHd h;have HE:=zHd he;clear h he
 go_enter_defers func153,ntmps153
 go_wp2_with fail;rw[HE.out];refine H.out.mono ?_;rintro e w2 ⟨rfl,hg⟩;have hb:=alloc_old hg;have HB:=zHd hb;have HG:=zHd hg;clear hb hg H HE;exact zCw E w _ _ rfl HB.out (zaa (zGA _ _ none) HG.out)
open Go.RowKit
open Go.Lib (nDigits)
def cutV (s:ByteArray):Value:=.tuple #[.string ⟨(Lib.cut s.data.toList [47]).1.toArray⟩,.string ⟨(Lib.cut s.data.toList [47]).2.1.toArray⟩,.bool (Lib.cut s.data.toList [47]).2.2]
def zzj (s:ByteArray)(w:World)(hs:s.size<=maxLen) :
  Calls prog 169 #[.string s,.string ⟨#[47]⟩] w (zab (cutV s) w):=by
 unfold maxLen at hs;rcases Lib.indexB_cases s ⟨#[47]⟩ with hix|⟨i,hix,hroom⟩
 ·obtain⟨e1,e2,e3⟩:=Lib.cutB_miss s ⟨#[47]⟩ hix
  have HV:=zHd (show cutV s=.tuple #[.string s,.string ⟨#[]⟩,.bool false] by unfold cutV;rw[show([47]:List UInt8)=(⟨#[47]⟩:ByteArray).data.toList from rfl,e1,e2,e3];rfl);have hi:Lib.indexByte s.data.toList 47 = -1:=by rw[<- Lib.index_one];exact hix
  have hc:=fun w=>Tryz.stringslite_Index_one s 47 w;rw[hi] at hc;have HC:=zHd hc;clear hix hi hc e1 e2 e3;go_enter func169,ntmps169;go_wp2_with fail;refine(HC.out _).mono ?_;rintro e w' ⟨rfl,rfl⟩;go_wp2
  go_ret3
  exact zQbl
 obtain⟨e1,e2,e3⟩:=Lib.cutB_hit s ⟨#[47]⟩ i hix;have HV:=zHd (show cutV s=.tuple #[.string (s.extract 0 i),.string (s.extract (i+1) s.size),.bool true] by unfold cutV;rw[show([47]:List UInt8)=(⟨#[47]⟩:ByteArray).data.toList from rfl,e1,e2,e3];rfl);have hi:Lib.indexByte s.data.toList 47=i:=by rw[<- Lib.index_one];exact hix
 have hc:=fun w=>Tryz.stringslite_Index_one s 47 w;rw[hi] at hc;have HC:=zHd hc;have hroom':i+1<=s.size:=hroom;clear hix hi hc e1 e2 e3 hroom;have c1:(0:Int)<=↑i:=by omega
 have c2:(↑i:Int)<=↑s.size:=by omega
 have c3:(0:Int)<=↑i+1:=by omega
 have c4:(↑i+1:Int)<=↑s.size:=by omega
 go_enter func169,ntmps169;go_wp2_with fail;refine(HC.out _).mono ?_;rintro e w' ⟨rfl,rfl⟩;go_wp2
 go_quiet (fail)
 go_wp2
 go_ret3
 exact⟨by rw[HV.out];rfl,zce _ _ _⟩
def zFA (s:ByteArray)(w:World)(hs:s.size<=maxLen) :
  Calls prog 146 #[.string s,.string ⟨#[47]⟩] w (zab (cutV s) w):=by
 have hc:=fun w=>zzj s w hs;unfold cutV at hc ⊢;obtain⟨A,hA⟩:∃ A:ByteArray,(⟨(Lib.cut s.data.toList [47]).1.toArray⟩:ByteArray)=A:=⟨_,rfl⟩;obtain⟨B,hB⟩:∃ B:ByteArray,(⟨(Lib.cut s.data.toList [47]).2.1.toArray⟩:ByteArray)=B:=⟨_,rfl⟩;obtain⟨C,hC⟩:∃ C:Bool,(Lib.cut s.data.toList [47]).2.2=C:=⟨_,rfl⟩;rw[hA,hB,hC] at hc ⊢;have HC:=zHd hc;clear hc hA hB hC;go_enter func146,ntmps146;go_wp2_with fail;refine(HC.out _).mono ?_;rintro e w' ⟨rfl,hg⟩;have HG:=zHd hg;clear hg;go_wp2
 go_ret3
 exact⟨rfl,HG.out⟩
def zgW (n:Nat):((zal n).toList==[49])=decide (n=1)/\((zal n).toList != [49]) = !decide (n=1):=by
 have e:((zal n).toList==[49])=decide (n=1):=by
  rw[Bool.eq_iff_iff,zqca,beq_iff_eq,Lib.toList_data];constructor
  ·intro h
   apply znn;rw[zvT];unfold zal at h ⊢;simp at h;rw[h]
  rintro rfl;rw[zvT]
 exact⟨e,by rw[bne,e]⟩
def zero_str' (n:Nat):((zal n).toList==[48])=decide (n=0)/\((zal n).toList != [48]) = !decide (n=0):=by
 have e:((zal n).toList==[48])=decide (n=0):=by
  rw[Bool.eq_iff_iff,zqca,beq_iff_eq,Lib.toList_data];constructor
  ·intro h
   apply znn;rw[zot];unfold zal at h ⊢;simp at h;rw[h]
  rintro rfl;rw[zot]
 exact⟨e,by rw[bne,e]⟩
def ztg (m n:Nat)(hm:nDigits m<=1000)(hn:nDigits n<=1000)(h:nDigits (m*n)<=1000):zeV (zal m) (zal n)=.tuple #[.string (zal (m*n)),.int .i64 0] :=
 zCk _ _ _ (zbn m hm) (zbn n hn) (zbn _ h) (by rw[zbc,zbc,zbc])
def zbh (n:Nat)(h:nDigits n<=1000):(zal n).size<=maxLen:=zbz (zbn n h)
def zzk (m n:Nat)(w:World)(hm:nDigits m<=1000)(hn:nDigits n<=1000)(h:nDigits (m*n)<=1000) :
  Calls prog 157 #[.string (zal m),.string (zal n)] w (zab (.string (zal (m*n))) w):=by
 have f1:=(zgW m).1;have f2:=(zgW n).1
 by_cases h1:m=1
 ·subst h1
  simp only[decide_true] at f1;rw[Nat.one_mul];clear f2 h;generalize zal 1=A at *;generalize zal n=B at *;go_enter func157,ntmps157;exact zQaR
 simp only[h1,decide_false] at f1
 by_cases h2:n=1
 ·subst h2
  simp only[decide_true] at f2;rw[Nat.mul_one];clear h h1;generalize zal 1=B at *;generalize zal m=A at *;go_enter func157,ntmps157;exact zQaR
 simp only[h2,decide_false] at f2;have hc:=fun w=>zFr (zal m) (zal n) w (zbh m hm) (zbh n hn);rw[ztg m n hm hn h] at hc;generalize zal m=A at *;generalize zal n=B at *;generalize zal (m*n)=C at *;have HC:=zHd hc;clear hc h1 h2 h;go_enter func157,ntmps157;go_wp2_with fail;refine(HC.out _).mono ?_;rintro e w' ⟨rfl,hg⟩;have HG:=zHd hg;clear hg;exact zQbu
def zCx (m n:Nat)(hm:nDigits m<=1000)(hn:nDigits n<=1000):zfh (zal m) (zal n)=.tuple #[.string (zal (Nat.gcd m n)),.int .i64 0]:=by
 unfold zfh;rw[zbn m hm,zbn n hn,zbc,zbc];rfl
def zow (m n:Nat)(hm:nDigits m<=1000)(hn:nDigits n<=1000)(h0:n≠0):zdK (zal m) (zal n)=.tuple #[.string (zal (m/n)),.string (zal (m%n)),.int .i64 0]:=by
 unfold zdK;rw[zbn m hm,zbn n hn,zbc,zbc];simp only[Bool.and_self,if_true];rw[if_neg h0]
def zqJ {w:World}{g:Nat}{a b c:Value}(h:w.heap[g]?=some (.cells #[a,b,c] 138 (0,0))) :
  w.cell? ⟨g,0,none⟩=some a/\w.cell? ⟨g,1,none⟩=some b/\w.cell? ⟨g,2,none⟩=some c/\w.frozen? ⟨g,0,none⟩=false/\w.frozen? ⟨g,1,none⟩=false/\w.frozen? ⟨g,2,none⟩=false :=
 ⟨by rw[zqbw w g 0 _ _ (0,0) h];rfl,by rw[zqbw w g 1 _ _ (0,0) h];rfl,by rw[zqbw w g 2 _ _ (0,0) h];rfl,zqbx w g 0 _ _ h,zqbx w g 1 _ _ h,zqbx w g 2 _ _ h⟩
def zgG {w w1:World}{g:Nat}{a b c:Value}(h:w.grownBy w1 none)(hg:w.heap.size<=g):w.grownBy (((w1.setCell ⟨g,0,none⟩ a).setCell ⟨g,1,none⟩ b).setCell ⟨g,2,none⟩ c) none :=
 zae (zae (zae h (zad w1 ⟨g,0,none⟩ a) hg) (zad _ ⟨g,1,none⟩ b) hg) (zad _ ⟨g,2,none⟩ c) hg
def zox {A:ByteArray}{c:Bool}(f:(A.toList != [48])=c):(A.toList==[48]) = !c:=by
 rw[<- f,bne,Bool.not_not]
def zth (neg b c:Bool)(A B:ByteArray)(w:World)(f0:(A.toList != [48])=c)(hb:(neg&&c)=b)(f1:(B.toList==[49])=true) :
  Calls prog 156 #[.bool neg,.string A,.string B] w (zab (.agg #[.bool b,.string A,.string B]) w):=by
 have f00:=zox f0;subst hb;cases neg <;> cases c <;> simp only[Bool.not_true,Bool.not_false] at f00
 all_goals
  go_enter func156,ntmps156;go_wp2;exact zqby (v:=.agg #[.bool _,.string A,.string B]) (by simp[results,results156,go_sem]) rfl ⟨rfl,zGA _ _ _⟩
def zti (neg b c:Bool)(A B G:ByteArray)(w:World)(f0:(A.toList != [48])=c)(hb:(neg&&c)=b)(f1:(B.toList==[49])=false)(f2:(G.toList==[49])=true)
  (C:Hid (∀ w,Calls prog 175 #[.string A,.string B] w (zab (.tuple #[.string G,.int .i64 0]) w))) :
  Calls prog 156 #[.bool neg,.string A,.string B] w (zab (.agg #[.bool b,.string A,.string B]) w):=by
 have f00:=zox f0;subst hb;cases neg <;> cases c <;> simp only[Bool.not_true,Bool.not_false] at f00
 all_goals
  go_enter func156,ntmps156;go_wp2_with fail;refine(C.out _).mono ?_;rintro e w1 ⟨rfl,hg⟩;have hb:=alloc_old hg;have hc:=zqJ hb;have G1:=zHd (zaa (zGA _ _ none) hg);have HB:=zHd hb;clear hg hb;go_wp2;exact zqby (v:=.agg #[.bool _,.string A,.string B]) (by simp[results,results156,go_sem,hc]) rfl ⟨rfl,zgG G1.out (zqab _)⟩
def zwM (neg b c:Bool)(A B G Q1 R1 Q2 R2:ByteArray)(w:World)(f0:(A.toList != [48])=c)(hb:(neg&&c)=b)(f1:(B.toList==[49])=false)(f2:(G.toList==[49])=false)
  (C:Hid (∀ w,Calls prog 175 #[.string A,.string B] w (zab (.tuple #[.string G,.int .i64 0]) w)))
  (D1:Hid (∀ w,Calls prog 176 #[.string A,.string G] w (zab (.tuple #[.string Q1,.string R1,.int .i64 0]) w)))
  (D2:Hid (∀ w,Calls prog 176 #[.string B,.string G] w (zab (.tuple #[.string Q2,.string R2,.int .i64 0]) w))) :
  Calls prog 156 #[.bool neg,.string A,.string B] w (zab (.agg #[.bool b,.string Q1,.string Q2]) w):=by
 have f00:=zox f0;subst hb;cases neg <;> cases c <;> simp only[Bool.not_true,Bool.not_false] at f00
 all_goals
  go_enter func156,ntmps156;go_wp2_with fail;refine(C.out _).mono ?_;rintro e w1 ⟨rfl,hg⟩;have hb:=alloc_old hg;have G1:=zHd (zaa (zGA _ _ none) hg);have HB:=zHd hb;clear hg hb;go_wp2_with fail;refine(D1.out _).mono ?_;rintro e w2 ⟨rfl,hg⟩;have G2:=zHd hg;clear hg;go_wp2_with fail;refine(D2.out _).mono ?_;rintro e w3 ⟨rfl,hg⟩;have G3:=zHd (zaa G2.out hg);clear hg;have hlt:=lt_of_block HB.out;have hc:=zqJ ((G3.out.block _ hlt (by simp)).trans HB.out);clear hlt;go_wp2;exact zqby (v:=.agg #[.bool _,.string Q1,.string Q2]) (by simp[results,results156,go_sem,hc]) rfl ⟨rfl,zgG (zaa G1.out G3.out) (zqab _)⟩
def zpw (neg:Bool)(n d:Nat)(w:World)(hd:d≠0)(hn:nDigits n<=1000)(hdd:nDigits d<=1000) :
  Calls prog 156 #[.bool neg,.string (zal n),.string (zal d)] w (zab (zfy (mkRat (sg neg n) d)) w):=by
 have f0:=(zero_str' n).2;have f1:=(zgW d).1;have hg0:Nat.gcd n d≠0:=by have:=Nat.gcd_pos_of_pos_right n (Nat.pos_of_ne_zero hd);omega
 have hgl:Nat.gcd n d<=d:=Nat.le_of_dvd (Nat.pos_of_ne_zero hd) (Nat.gcd_dvd_right n d);have hgd:nDigits (Nat.gcd n d)<=1000:=zqam (zbZ hgl) hdd;rw[zFh neg n d hd]
 by_cases h1:d=1
 ·subst h1
  rw[Nat.gcd_one_right,Nat.div_one,Nat.div_one];exact zth neg _ _ _ _ w f0 rfl (by simpa using f1)
 have hc:=fun w=>zFv (zal n) (zal d) w (zbh n hn) (zbh d hdd);rw[zCx n d hn hdd] at hc;have f2:=(zgW (Nat.gcd n d)).1;have f1':((zal d).toList==[49])=false:=by rw[f1];simpa using h1
 by_cases h2:Nat.gcd n d=1
 ·rw[h2] at f2 hc ⊢
  rw[Nat.div_one,Nat.div_one];exact zti neg _ _ _ _ _ w f0 rfl f1' (by simpa using f2) (zHd hc)
 have hd1:=fun w=>zvS (zal n) (zal (Nat.gcd n d)) w (zbh n hn) (zbh _ hgd);have hd2:=fun w=>zvS (zal d) (zal (Nat.gcd n d)) w (zbh d hdd) (zbh _ hgd);rw[zow n _ hn hgd hg0] at hd1;rw[zow d _ hdd hgd hg0] at hd2;exact zwM neg _ _ _ _ _ _ _ _ _ w f0 rfl f1' (by rw[f2];simpa using h2) (zHd hc) (zHd hd1) (zHd hd2)
open Go.RowKit
open Go.Lib (nDigits decDigits)
def zCy (b:Bool)(A B S:ByteArray)(w:World)(h:max (A.size:Int) (B.size:Int)<=400)(f1:(B.toList==[49])=true)(hS:Hid ((if b then ⟨#[45]⟩++A else A)=S)) :
  Calls prog 155 #[.agg #[.bool b,.string A,.string B]] w (zab (.string S) w):=by
 cases b
 all_goals
  exact zQbU
def zzl (b:Bool)(A B S:ByteArray)(w:World)(h:max (A.size:Int) (B.size:Int)<=400)(f1:(B.toList==[49])=false)(hS:Hid ((if b then ⟨#[45]⟩++A else A)++(⟨#[47]⟩++B)=S)) :
  Calls prog 155 #[.agg #[.bool b,.string A,.string B]] w (zab (.string S) w):=by
 cases b
 all_goals
  exact zQbU
def zzm (b:Bool)(A B:ByteArray)(w:World)(h:400<max (A.size:Int) (B.size:Int)) :
  Calls prog 155 #[.agg #[.bool b,.string A,.string B]] w (zkH 2 w):=by
 go_enter func155,ntmps155;go_wp2;exact⟨rfl,rfl,zGA _ _ _⟩
def zlb (a b:ByteArray):(a++b).data.toList=a.data.toList++b.data.toList:=by
 rw[ByteArray.data_append,Array.toList_append]
def zrL (x:Rat):zfW x=(if decide (x.num<0) then ⟨#[45]⟩++zal x.num.natAbs else zal x.num.natAbs)++(if x.den=1 then ⟨#[]⟩ else (⟨#[47]⟩++zal x.den)):=by
 apply ByteArray.ext;apply Array.ext';rw[zlb];unfold zfW zjp
 by_cases h1:x.num<0 <;> by_cases h2:x.den=1 <;> simp[h1,h2,zlb,zal]
def zvX (x:Rat)(w:World)(h:zcd x):Calls prog 155 #[zfy x] w (zab (.string (zfW x)) w):=by
 have hx:max ((zal x.num.natAbs).size:Int) ((zal x.den).size:Int)<=400:=by
  rw[zcQ,zcQ];have:=h.1;have:=h.2;omega
 have f1:=(zgW x.den).1;have e:=zrL x;unfold zfy
 by_cases h1:x.den=1
 ·rw[if_pos h1] at e
  exact zCy _ _ _ _ w hx (by rw[f1];simpa using h1) (zHd (by rw[e];apply ByteArray.ext;apply Array.ext';rw[zlb];simp))
 rw[if_neg h1] at e;exact zzl _ _ _ _ w hx (by rw[f1];simpa using h1) (zHd e.symm)
def ztj (x:Rat)(w:World)(h:¬ zcd x):Calls prog 155 #[zfy x] w (zkH 2 w):=by
 have hx:400<max ((zal x.num.natAbs).size:Int) ((zal x.den).size:Int):=by
  rw[zcQ,zcQ];unfold zcd at h;omega
 exact zzm _ _ _ w hx
def znW:Enters 155:=enters_of func155 (by kernel_rfl) rfl
def zva (x:Rat)(w:World):Calls prog 153 #[.func (.func 155) #[zfy x] #[]] w (zab (zec x) w):=by
 by_cases h:zcd x
 ·rw[zjf h]
  exact zpu _ znW _ _ _ w (zvX x _ h)
 rw[zgU h];exact zpv _ znW _ _ _ w (ztj x _ h)
open Go.RowKit
open Go.Lib (nDigits decDigits)
def zcR (x:Rat):∃ S E,zec x=.tuple #[.string S,.int .i64 E]:=by
 rcases zph x with⟨S,h,_⟩|⟨h,_⟩;exact⟨_,_,h⟩;exact⟨_,_,h⟩
def zzn (neg:Bool)(num den:ByteArray)(w:World)(V:Hid (zjW num false)) :
  Calls prog 147 #[.bool neg,.string num,.string den] w (zab (.tuple #[.string ⟨#[]⟩,.int .i64 1]) w):=by
 go_enter func147,ntmps147;go_wp2_with fail;refine(V.out _).mono ?_;rintro e w' ⟨rfl,rfl⟩;exact zQbv
def zzo (neg:Bool)(num den:ByteArray)(w:World)(V:Hid (zjW num true))(U:Hid (zjW den false)) :
  Calls prog 147 #[.bool neg,.string num,.string den] w (zab (.tuple #[.string ⟨#[]⟩,.int .i64 1]) w):=by
 go_enter func147,ntmps147;exact zQaD
def zzp (neg:Bool)(num den:ByteArray)(w:World)(V:Hid (zjW num true))(U:Hid (zjW den true))(f:(den.toList==[48])=true) :
  Calls prog 147 #[.bool neg,.string num,.string den] w (zab (.tuple #[.string ⟨#[]⟩,.int .i64 1]) w):=by
 go_enter func147,ntmps147;exact zQaD
def zFB (neg:Bool)(num den S:ByteArray)(N:Value)(E:Int)(w:World)(V:Hid (zjW num true))(U:Hid (zjW den true))(f:(den.toList==[48])=false)
  (R:Hid (∀ w,Calls prog 156 #[.bool neg,.string num,.string den] w (zab N w)))
  (F:Hid (∀ w,Calls prog 153 #[.func (.func 155) #[N] #[]] w (zab (.tuple #[.string S,.int .i64 E]) w))) :
  Calls prog 147 #[.bool neg,.string num,.string den] w (zab (.tuple #[.string S,.int .i64 E]) w):=by
 have hmf := @zMF prog;go_enter func147,ntmps147;go_wp2_with fail;refine(V.out _).mono ?_;rintro e w' ⟨rfl,rfl⟩;go_wp2_with fail;refine(U.out _).mono ?_;rintro e w' ⟨rfl,rfl⟩;go_wp2_with fail;refine(R.out _).mono ?_;rintro e w1 ⟨rfl,hg⟩;have G1:=zHd hg;clear hg;go_wp2_with fail;refine(F.out _).mono ?_;rintro e w2 ⟨rfl,hg⟩;have G2:=zHd (zaa G1.out hg);clear hg;go_wp2;go_ret2;exact⟨rfl,G2.out⟩
def zCz (neg:Bool)(num den:ByteArray)(w:World)(hn:num.size<=maxLen)(hd:den.size<=maxLen) :
  Calls prog 147 #[.bool neg,.string num,.string den] w (zab (zhr neg num den) w):=by
 have va:=zET num hn;have vb:=zET den hd;unfold zhr;cases ha:zas num
 ·rw[ha] at va
  exact zzn neg num den w (zHd va)
 cases hb:zas den
 ·rw[ha] at va
  rw[hb] at vb;exact zzo neg num den w (zHd va) (zHd vb)
 rw[ha] at va;rw[hb] at vb;have hz:=(zeL den hb).1
 by_cases h0:nv den=0
 ·rw[h0] at hz ⊢
  exact zzp neg num den w (zHd va) (zHd vb) (by simpa using hz)
 simp only[h0,Bool.and_self,Bool.true_and,decide_false,Bool.not_false,if_true];have hr:=fun w=>zpw neg (nv num) (nv den) w h0 (zcE num ha).2 (zcE den hb).2;rw[<- (zcE num ha).1,<- (zcE den hb).1] at hr;have hf:=fun w=>zva (mkRat (sg neg (nv num)) (nv den)) w;obtain⟨S,E,hE⟩:=zcR (mkRat (sg neg (nv num)) (nv den));rw[hE] at hf ⊢;exact zFB neg num den S _ E w (zHd va) (zHd vb) (by rw[hz];simpa using h0) (zHd hr) (zHd hf)
open Go.RowKit
open Go.Lib (nDigits decDigits)
def zpx:Value:=.agg #[.bool false,.string ⟨#[]⟩,.string ⟨#[]⟩]
structure zpy (a R M T D c:ByteArray)(N K:Bool)(E:Int):Prop where
 cp:∀ w,Calls prog 145 #[.string a,.string ⟨#[45]⟩] w fun e w'=>e=.returned (.tuple #[.string R,.bool N])/\w=w'
 cut:∀ w,Calls prog 146 #[.string R,.string ⟨#[47]⟩] w (zab (.tuple #[.string M,.string T,.bool K]) w)
 made:∀ w,Calls prog 147 #[.bool N,.string M,.string D] w (zab (.tuple #[.string c,.int .i64 E]) w)
def zCA (a R M T D c:ByteArray)(N K:Bool)(E:Int)(w:World)(h:Hid (zpy a R M T D c N K E))(hd:(if K then T else ⟨#[49]⟩)=D)(f1:(E==0)=false)(f2:(E != 0)=true) :
  Calls prog 124 #[.string a] w (zab (.tuple #[zpx,.bool false]) w):=by
 subst hd;unfold zpx;cases K
 all_goals
  exact zQay
def zwN (a R M T D c:ByteArray)(N K:Bool)(w:World)(h:Hid (zpy a R M T D c N K 0))(hd:(if K then T else ⟨#[49]⟩)=D)(f1:(c.toList==a.toList)=false)(f2:(c.toList != a.toList)=true) :
  Calls prog 124 #[.string a] w (zab (.tuple #[zpx,.bool false]) w):=by
 subst hd;unfold zpx;cases K
 all_goals
  exact zQay
def zzq (a R M T D c:ByteArray)(N K:Bool)(w:World)(h:Hid (zpy a R M T D c N K 0))(hd:(if K then T else ⟨#[49]⟩)=D)(f1:(c.toList==a.toList)=true) :
  Calls prog 124 #[.string a] w (zab (.tuple #[.agg #[.bool N,.string M,.string D],.bool true]) w):=by
 subst hd;cases K
 all_goals
  go_enter func124,ntmps124;go_wp2_with fail;refine(h.out.cp _).mono ?_;rintro e w' ⟨rfl,rfl⟩;go_wp2_with fail;refine(h.out.cut _).mono ?_;rintro e w1 ⟨rfl,hg⟩;have G1:=zHd hg;clear hg;go_wp2_with fail;refine(h.out.made _).mono ?_;rintro e w2 ⟨rfl,hg⟩;have G2:=zHd (zaa G1.out hg);clear hg;have hb:=alloc_old G2.out;have hc:=zqJ hb;have HG:=zHd (zaa (zGA _ _ none) G2.out);clear hb G1 G2;go_wp2;exact zqby (v:=.tuple #[.agg #[.bool _,.string _,.string _],.bool true]) (by simp[results,results124,go_sem,hc]) rfl ⟨rfl,zgG HG.out (zqab _)⟩
def zzr (a:ByteArray):(zdy a).length<=a.size:=by
 unfold zdy Lib.trimPrefix;rw[Lib.size_eq];split;rw[List.length_drop];omega;exact zqab _
def zCB (s:List UInt8):(Lib.cut s [47]).1.length<=s.length/\(Lib.cut s [47]).2.1.length<=s.length:=by
 unfold Lib.cut;split;simp only[zqan,List.length_drop];omega;simp
def zmf (l:List UInt8):(⟨l.toArray⟩:ByteArray).size=l.length:=List.size_toArray
def ztk (a:ByteArray)(ha:a.size<=maxLen)(c:ByteArray)(E:Int)(h:zhr (zdp a) (zdq a) (zdd a)=.tuple #[.string c,.int .i64 E]) :
  zpy a ⟨(zdy a).toArray⟩ (zdq a) (tailA a) (zdd a) c (zdp a) (zdC a) E:=by
 have hr:=zzr a;have hc:=zCB (zdy a);have h1:(zdq a).size<=maxLen:=by unfold zdq;rw[zmf];omega
 have h2:(zdd a).size<=maxLen:=by
  unfold zdd;split;unfold tailA;rw[zmf];omega;decide
 refine⟨fun w=>?_,fun w=>?_,fun w=>?_⟩;exact(Tryz.strings_CutPrefix a ⟨#[45]⟩ w).mono fun e w' ⟨h,k⟩=>⟨h,k.symm⟩
 ·have:=zFA ⟨(zdy a).toArray⟩ w (by rw[zmf];omega)
  exact this
 rw[<- h];exact zCz _ _ _ w h1 h2
def zeY {a c:ByteArray}:(c.toList==a.toList)=decide (c=a):=by
 rw[Bool.eq_iff_iff,zqca,beq_iff_eq,Lib.toList_data,Lib.toList_data];constructor
 ·intro h;exact ByteArray.ext (Array.ext' h)
 rintro rfl;rfl
def zlc {a:ByteArray}{x:Rat}(h:zaM a x)(w:World)(ha:a.size<=maxLen) :
  Calls prog 124 #[.string a] w (zab (.tuple #[zfy x,.bool true]) w):=by
 obtain⟨h1,h2,h3,_⟩:=apart a x h.eq;have:=zzq a _ _ _ _ a _ _ w (zHd (ztk a ha a 0 (zyQ h))) rfl (by simp);unfold zfy;rw[h1,h2,h3] at this;exact this
def zvY {a:ByteArray}(h:∀ x,¬ zaM a x)(w:World)(ha:a.size<=maxLen) :
  Calls prog 124 #[.string a] w (zab (.tuple #[zpx,.bool false]) w):=by
 rcases zuS (zdp a) (zdq a) (zdd a) with⟨S,x,hm,hS⟩|⟨E,hm,hE⟩
 ·have hne:S≠a:=fun e=>h x (e▸hS)
  have f:(S.toList==a.toList)=false:=by rw[zeY];simpa using hne
  exact zwN a _ _ _ _ S _ _ w (zHd (ztk a ha S 0 hm)) rfl f (by rw[bne,f];rfl)
 have f:(E==0)=false:=by rcases hE with rfl|rfl <;> decide
 exact zCA a _ _ _ _ _ _ _ E w (zHd (ztk a ha _ E hm)) rfl f (by rw[bne,f];rfl)
section
open Go.Lib
def ziS (u:Nat):u<10 ^ nDigits u:=by
 induction u using Nat.strongRecOn with
 | _ u ih =>
  by_cases h:u<10
  rw[nDigits_small h];omega;rw[nDigits_big h,zqbp];have:=ih (u/10) (by omega);omega
def zpz (n k:Nat)(hk:1<=k)(h:n<10 ^ k):nDigits n<=k:=by
 rcases Nat.lt_or_ge k (nDigits n) with h1|h1
 ·rcases zgD n k (by omega) with h2|h2
  ·omega
  omega
 exact h1
def znX (m n:Nat):nDigits (m*n)<=nDigits m+nDigits n:=by
 apply zpz _ _ (by have:=nDigits_pos m;omega);rw[Nat.pow_add];exact Nat.mul_lt_mul'' (ziS m) (ziS n)
def zig (m n k:Nat)(hm:nDigits m<=k)(hn:nDigits n<=k):nDigits (m+n)<=k+1:=by
 apply zpz _ _ (by omega);have h1:=ziS m;have h2:=ziS n;have h3:=zqay (show 0<10 by omega) hm;have h4:=zqay (show 0<10 by omega) hn;rw[zqbp];omega
def sgn (x:Rat):Bool:=decide (x.num<0)
def zeC (x:Rat):x.num=sg (sgn x) x.num.natAbs:=(zsM x).symm
def znz (s:Bool)(n d:Nat):sg s (n*d)=sg s n*(d:Int):=by
 unfold sg;split <;> simp[Int.neg_mul]
def zvZ (s:Bool)(p q:Nat):sg s (p+q)=sg s p+sg s q:=by
 unfold sg;split <;> omega
def zwa (s t:Bool)(p q:Nat)(h:s≠t)(hl:p<q):sg t (q-p)=sg s p+sg t q:=by
 cases s <;> cases t <;> simp_all [sg] <;> omega
def zwb (s t:Bool)(p q:Nat)(h:s≠t)(hl:¬ p<q):sg s (p-q)=sg s p+sg t q:=by
 cases s <;> cases t <;> simp_all [sg] <;> omega
def zwc (s t:Bool)(m n:Nat):sg (s != t) (m*n)=sg s m*sg t n:=by
 cases s <;> cases t <;> simp[sg,Int.neg_mul,Int.mul_neg]
def zgX (x y:Rat)(z:Int)(h:z=sg (sgn x) (x.num.natAbs*y.den)+sg (sgn y) (y.num.natAbs*x.den)):mkRat z (x.den*y.den)=x+y:=by
 rw[Rat.add_def',h,znz,znz,<- zeC,<- zeC]
def zmg (x y:Rat):mkRat (sg (sgn x != sgn y) (x.num.natAbs*y.num.natAbs)) (x.den*y.den)=x*y:=by
 rw[Rat.mul_def',zwc,<- zeC,<- zeC]
def zrM (x y:Rat)(h:y.num≠0):mkRat (sg (sgn x != sgn y) (x.num.natAbs*y.den)) (x.den*y.num.natAbs)=x/y:=by
 rw[Rat.div_def,Rat.mul_def',Rat.num_inv,Rat.den_inv,if_neg h,zwc,<- zeC];congr 2;unfold sg sgn
 by_cases hn:y.num<0
 rw[if_pos (by simpa using hn),Int.sign_eq_neg_one_of_neg hn];omega;rw[if_neg (by simpa using hn),Int.sign_eq_one_of_pos (by omega)];omega
def zrN {x:Rat}(h:zcd x):zcd (-x):=by
 unfold zcd at *;rw[Rat.neg_num,Rat.neg_den,Int.natAbs_neg];exact h
def zdv (x y:Rat):Int:=if x<y then -1 else if y<x then 1 else 0
def zzs (x y:Rat)(h1:sgn x=true)(h2:sgn y=false):zdv x y = -1:=by
 unfold sgn at h1 h2;have h1:x.num<0:=by simpa using h1
 have h2:¬ y.num<0:=by simpa using h2
 unfold zdv;rw[if_pos];rw[Rat.lt_iff];have:=Int.mul_neg_of_neg_of_pos h1 (show(0:Int)<y.den by have:=y.den_pos;omega);have:=Int.mul_nonneg (show 0<=y.num by omega) (show(0:Int)<=x.den by omega);omega
def zzt (x y:Rat)(h1:sgn x=false)(h2:sgn y=true):zdv x y=1:=by
 unfold sgn at h1 h2;have h1:¬ x.num<0:=by simpa using h1
 have h2:y.num<0:=by simpa using h2
 unfold zdv;have:=Int.mul_neg_of_neg_of_pos h2 (show(0:Int)<x.den by have:=x.den_pos;omega);have:=Int.mul_nonneg (show 0<=x.num by omega) (show(0:Int)<=y.den by omega);rw[if_neg (by rw[Rat.lt_iff];omega),if_pos (by rw[Rat.lt_iff];omega)]
def zCC (x y:Rat)(h1:sgn x=false)(h2:sgn y=false):zdv x y=zcf (x.num.natAbs*y.den) (y.num.natAbs*x.den):=by
 have ex:=zeC x;have ey:=zeC y;rw[h1,sg,if_neg (by simp)] at ex;rw[h2,sg,if_neg (by simp)] at ey;unfold zdv zcf;simp only[Rat.lt_iff];have e1:x.num*y.den=((x.num.natAbs*y.den:Nat):Int):=by rw[Int.natCast_mul,<- ex]
 have e2:y.num*x.den=((y.num.natAbs*x.den:Nat):Int):=by rw[Int.natCast_mul,<- ey]
 simp only[e1,e2,Int.ofNat_lt]
def zzu (x y:Rat)(h1:sgn x=true)(h2:sgn y=true):zdv x y=zcf (y.num.natAbs*x.den) (x.num.natAbs*y.den):=by
 have ex:=zeC x;have ey:=zeC y;rw[h1,sg,if_pos rfl] at ex;rw[h2,sg,if_pos rfl] at ey;unfold zdv zcf;simp only[Rat.lt_iff];have e1:x.num*y.den = -((x.num.natAbs*y.den:Nat):Int):=by rw[Int.natCast_mul,<- Int.neg_mul,<- ex]
 have e2:y.num*x.den = -((y.num.natAbs*x.den:Nat):Int):=by rw[Int.natCast_mul,<- Int.neg_mul,<- ey]
 simp only[e1,e2];generalize x.num.natAbs*y.den=p;generalize y.num.natAbs*x.den=q;split <;> split <;> (try split) <;> omega
def zld:zaM ⟨#[48]⟩ 0:=⟨by decide +kernel,by decide +kernel⟩
def zCD {a:ByteArray}{x:Rat}(h:zaM a x):a.size<=802:=by
 rw[h.eq];have h1:=h.short.1;have h2:=h.short.2;show(zjp x).toArray.size<=_;rw[List.size_toArray];unfold zjp;rw[zqag,zqag];have:=decDigits_length x.num.natAbs;have:=decDigits_length x.den;split <;> split <;> simp <;> omega
def zji {a:ByteArray}{x:Rat}(h:zaM a x):a.size<=maxLen:=by have:=zCD h;unfold maxLen;omega
end
open Go.RowKit
open Go.Lib (nDigits decDigits)
def Num (w:World)(g:Nat)(b:Bool)(A B:ByteArray):Prop:=w.heap[g]?=some (.cells #[.bool b,.string A,.string B] 138 (0,0))
def Num.cells {w:World}{g:Nat}{b:Bool}{A B:ByteArray}(h:Num w g b A B) :
  w.cell? ⟨g,0,none⟩=some (.bool b)/\w.cell? ⟨g,1,none⟩=some (.string A)/\w.cell? ⟨g,2,none⟩=some (.string B)/\w.frozen? ⟨g,0,none⟩=false/\w.frozen? ⟨g,1,none⟩=false/\w.frozen? ⟨g,2,none⟩=false:=zqJ h
def Num.grown {w w':World}{g:Nat}{b:Bool}{A B:ByteArray}(h:Num w g b A B)(hg:w.grownBy w' none):Num w' g b A B:=(hg.block _ (lt_of_block h) (by simp)).trans h
def Num.other {W:World}{g g' i:Nat}{b:Bool}{A B:ByteArray}{v:Value}(h:Num W g b A B)(hne:g≠g'):Num (W.setCell ⟨g',i,none⟩ v) g b A B :=
 ((zad W ⟨g',i,none⟩ v).block g (lt_of_block h) (by simpa using hne)).trans h
def Num.set {W:World}{g:Nat}{b b':Bool}{A B A' B':ByteArray}(h:Num W g b A B):Num (((W.setCell ⟨g,0,none⟩ (.bool b')).setCell ⟨g,1,none⟩ (.string A')).setCell ⟨g,2,none⟩ (.string B')) g b' A' B':=by
 unfold Num at h ⊢;have h1:=heap_setCell_same W g 0 _ _ (.bool b') h;have h2:=heap_setCell_same _ g 1 _ _ (.string A') h1;have h3:=heap_setCell_same _ g 2 _ _ (.string B') h2;rw[h3];rfl
structure zer (w W:World)(b1 b2:Bool)(A B C D:ByteArray):Prop where
 x:Num W w.heap.size b1 A B
 y:Num W (w.heap.size+1) b2 C D
 z:∃ b S T,Num W (w.heap.size+1+1) b S T
 g:w.grownBy W none
def zer.next {w W W':World}{b1 b2:Bool}{A B C D:ByteArray}(h:zer w W b1 b2 A B C D)(hg:W.grownBy W' none):zer w W' b1 b2 A B C D :=
 ⟨h.x.grown hg,h.y.grown hg,by obtain⟨b,S,T,k⟩:=h.z;exact⟨b,S,T,k.grown hg⟩,zaa h.g hg⟩
def zer.drew {w W:World}{b1 b2:Bool}{A B C D:ByteArray}(h:zer w W b1 b2 A B C D):zer w W.drew b1 b2 A B C D:=h.next (zag W none)
def zer.store {w W:World}{b1 b2:Bool}{A B C D:ByteArray}(h:zer w W b1 b2 A B C D)(b:Bool)(S T:ByteArray) :
  zer w (((W.setCell ⟨w.heap.size+1+1,0,none⟩ (.bool b)).setCell ⟨w.heap.size+1+1,1,none⟩ (.string S)).setCell ⟨w.heap.size+1+1,2,none⟩ (.string T)) b1 b2 A B C D:=by
 obtain⟨b0,S0,T0,k⟩:=h.z;exact⟨((h.x.other (by omega)).other (by omega)).other (by omega),((h.y.other (by omega)).other (by omega)).other (by omega),⟨b,S,T,k.set⟩,zgG h.g (by omega)⟩
def Seen (w W:World)(b1 b2:Bool)(A B C D:ByteArray):Prop :=
 W.cell? ⟨w.heap.size,0,none⟩=some (.bool b1)/\W.cell? ⟨w.heap.size,1,none⟩=some (.string A)/\W.cell? ⟨w.heap.size,2,none⟩=some (.string B) /\
 W.cell? ⟨w.heap.size+1,0,none⟩=some (.bool b2)/\W.cell? ⟨w.heap.size+1,1,none⟩=some (.string C)/\W.cell? ⟨w.heap.size+1,2,none⟩=some (.string D)
def zer.seen {w W:World}{b1 b2:Bool}{A B C D:ByteArray}(h:zer w W b1 b2 A B C D):Seen w W b1 b2 A B C D:=by
 obtain⟨x0,x1,x2,_⟩:=h.x.cells;obtain⟨y0,y1,y2,_⟩:=h.y.cells;exact⟨x0,x1,x2,y0,y1,y2⟩
def zer.room {w W:World}{b1 b2:Bool}{A B C D:ByteArray}(h:zer w W b1 b2 A B C D):∃ b S T,
  W.cell? ⟨w.heap.size+1+1,0,none⟩=some (.bool b)/\W.cell? ⟨w.heap.size+1+1,1,none⟩=some (.string S)/\W.cell? ⟨w.heap.size+1+1,2,none⟩=some (.string T) /\
  W.frozen? ⟨w.heap.size+1+1,0,none⟩=false/\W.frozen? ⟨w.heap.size+1+1,1,none⟩=false/\W.frozen? ⟨w.heap.size+1+1,2,none⟩=false:=by
 obtain⟨b,S,T,k⟩:=h.z;exact⟨b,S,T,k.cells⟩
def zes (w:World)(o:Obj)(g:Nat)(h:g=w.heap.size):(w.alloc o).heap[g]?=some o:=by subst h;exact zaG w o
def zcp (w:World)(o:Obj)(g:Nat)(h:g<w.heap.size):(w.alloc o).heap[g]?=w.heap[g]?:=(zGA w o none).block g h (by simp)
def ziT (w:World)(b1 b2:Bool)(A B C D:ByteArray) :
  zer w (((w.alloc (.cells #[.bool b1,.string A,.string B] 138)).alloc (.cells #[.bool b2,.string C,.string D] 138)).alloc (.cells #[.bool false,.string ⟨#[]⟩,.string ⟨#[]⟩] 138)) b1 b2 A B C D:=by
 refine⟨?_,?_,⟨false,⟨#[]⟩,⟨#[]⟩,?_⟩,?_⟩
 ·unfold Num
  rw[zcp _ _ _ (by simp;omega),zcp _ _ _ (by simp),zes _ _ _ rfl]
 ·unfold Num
  rw[zcp _ _ _ (by simp),zes _ _ _ (by simp)]
 ·unfold Num
  rw[zes _ _ _ (by simp)]
 exact zaa (zGA _ _ none) (zaa (zGA _ _ none) (zGA _ _ none))
def zdD (A B:ByteArray):ByteArray:=zal (nv A*nv B)
def zcy (A C:ByteArray):Prop:=∀ w,Calls prog 157 #[.string A,.string C] w (zab (.string (zdD A C)) w)
def zgr (A C:ByteArray)(h:zcy A C)(w:World):Calls prog 157 #[.string A,.string C] w (zab (.string (zdD A C)) w):=h w
def zcq (w:World)(b1 b2:Bool)(A B C D:ByteArray){W W':World}(hg:W.grownBy W' none)
  (h:(W.cell? ⟨w.heap.size,0,none⟩=some (.bool b1)/\W.cell? ⟨w.heap.size,1,none⟩=some (.string A)/\W.cell? ⟨w.heap.size,2,none⟩=some (.string B) /\
   W.cell? ⟨w.heap.size+1,0,none⟩=some (.bool b2)/\W.cell? ⟨w.heap.size+1,1,none⟩=some (.string C)/\W.cell? ⟨w.heap.size+1,2,none⟩=some (.string D))/\Hid (zer w W b1 b2 A B C D)) :
  (W'.cell? ⟨w.heap.size,0,none⟩=some (.bool b1)/\W'.cell? ⟨w.heap.size,1,none⟩=some (.string A)/\W'.cell? ⟨w.heap.size,2,none⟩=some (.string B) /\
   W'.cell? ⟨w.heap.size+1,0,none⟩=some (.bool b2)/\W'.cell? ⟨w.heap.size+1,1,none⟩=some (.string C)/\W'.cell? ⟨w.heap.size+1,2,none⟩=some (.string D))/\Hid (zer w W' b1 b2 A B C D) :=
 have k:=h.2.out.next hg
 ⟨k.seen,zHd k⟩
def zjY (w:World)(b1 b2:Bool)(A B C D:ByteArray){W:World}
  (h:(W.cell? ⟨w.heap.size,0,none⟩=some (.bool b1)/\W.cell? ⟨w.heap.size,1,none⟩=some (.string A)/\W.cell? ⟨w.heap.size,2,none⟩=some (.string B) /\
   W.cell? ⟨w.heap.size+1,0,none⟩=some (.bool b2)/\W.cell? ⟨w.heap.size+1,1,none⟩=some (.string C)/\W.cell? ⟨w.heap.size+1,2,none⟩=some (.string D))/\Hid (zer w W b1 b2 A B C D)):∃ b S T,
  W.cell? ⟨w.heap.size+1+1,0,none⟩=some (.bool b)/\W.cell? ⟨w.heap.size+1+1,1,none⟩=some (.string S)/\W.cell? ⟨w.heap.size+1+1,2,none⟩=some (.string T) /\
  W.frozen? ⟨w.heap.size+1+1,0,none⟩=false/\W.frozen? ⟨w.heap.size+1+1,1,none⟩=false/\W.frozen? ⟨w.heap.size+1+1,2,none⟩=false:=h.2.out.room
def zwO (w:World)(b1 b2:Bool)(A B C D:ByteArray){W:World}(b:Bool)(S T:ByteArray)
  (h:(W.cell? ⟨w.heap.size,0,none⟩=some (.bool b1)/\W.cell? ⟨w.heap.size,1,none⟩=some (.string A)/\W.cell? ⟨w.heap.size,2,none⟩=some (.string B) /\
   W.cell? ⟨w.heap.size+1,0,none⟩=some (.bool b2)/\W.cell? ⟨w.heap.size+1,1,none⟩=some (.string C)/\W.cell? ⟨w.heap.size+1,2,none⟩=some (.string D))/\Hid (zer w W b1 b2 A B C D)) :
  ((((W.setCell ⟨w.heap.size+1+1,0,none⟩ (.bool b)).setCell ⟨w.heap.size+1+1,1,none⟩ (.string S)).setCell ⟨w.heap.size+1+1,2,none⟩ (.string T)).cell? ⟨w.heap.size,0,none⟩=some (.bool b1)/\(((W.setCell ⟨w.heap.size+1+1,0,none⟩ (.bool b)).setCell ⟨w.heap.size+1+1,1,none⟩ (.string S)).setCell ⟨w.heap.size+1+1,2,none⟩ (.string T)).cell? ⟨w.heap.size,1,none⟩=some (.string A)/\(((W.setCell ⟨w.heap.size+1+1,0,none⟩ (.bool b)).setCell ⟨w.heap.size+1+1,1,none⟩ (.string S)).setCell ⟨w.heap.size+1+1,2,none⟩ (.string T)).cell? ⟨w.heap.size,2,none⟩=some (.string B) /\
    (((W.setCell ⟨w.heap.size+1+1,0,none⟩ (.bool b)).setCell ⟨w.heap.size+1+1,1,none⟩ (.string S)).setCell ⟨w.heap.size+1+1,2,none⟩ (.string T)).cell? ⟨w.heap.size+1,0,none⟩=some (.bool b2)/\(((W.setCell ⟨w.heap.size+1+1,0,none⟩ (.bool b)).setCell ⟨w.heap.size+1+1,1,none⟩ (.string S)).setCell ⟨w.heap.size+1+1,2,none⟩ (.string T)).cell? ⟨w.heap.size+1,1,none⟩=some (.string C)/\(((W.setCell ⟨w.heap.size+1+1,0,none⟩ (.bool b)).setCell ⟨w.heap.size+1+1,1,none⟩ (.string S)).setCell ⟨w.heap.size+1+1,2,none⟩ (.string T)).cell? ⟨w.heap.size+1,2,none⟩=some (.string D))/\Hid (zer w (((W.setCell ⟨w.heap.size+1+1,0,none⟩ (.bool b)).setCell ⟨w.heap.size+1+1,1,none⟩ (.string S)).setCell ⟨w.heap.size+1+1,2,none⟩ (.string T)) b1 b2 A B C D) :=
 have k:=h.2.out.store b S T
 ⟨k.seen,zHd k⟩
def zmh (b1 b2 b:Bool)(A B C D S T:ByteArray)(w:World)
  (T1:zcy A C) (T2:zcy B D)
  (R:Hid (∀ w,Calls prog 156 #[.bool (b1 != b2),.string (zdD A C),.string (zdD B D)] w (zab (.agg #[.bool b,.string S,.string T]) w))) :
  Calls prog 133 #[.agg #[.bool b1,.string A,.string B],.agg #[.bool b2,.string C,.string D]] w (zab (.agg #[.bool b,.string S,.string T]) w):=by
 have h0:=ziT w b1 b2 A B C D;obtain⟨W0,hW0⟩:∃ W0,W0=(((w.alloc (.cells #[.bool b1,.string A,.string B] 138)).alloc (.cells #[.bool b2,.string C,.string D] 138)).alloc (.cells #[.bool false,.string ⟨#[]⟩,.string ⟨#[]⟩] 138)):=⟨_,rfl⟩;rw[<- hW0] at h0;have H0:=zHd h0;have HW0:=zHd hW0;clear h0 hW0;go_enter func133,ntmps133;go_wp2_with fail;rw[<- HW0.out];have hs:=H0.out.drew.seen;unfold Seen at hs;have hh:=zHd H0.out.drew
 go_region_held3 (fun W'=>(W'.cell? ⟨w.heap.size,0,none⟩=some (.bool b1)/\W'.cell? ⟨w.heap.size,1,none⟩=some (.string A)/\W'.cell? ⟨w.heap.size,2,none⟩=some (.string B) /\
   W'.cell? ⟨w.heap.size+1,0,none⟩=some (.bool b2)/\W'.cell? ⟨w.heap.size+1,1,none⟩=some (.string C)/\W'.cell? ⟨w.heap.size+1,2,none⟩=some (.string D))/\Hid (zer w W' b1 b2 A B C D))
  (first
   | exact⟨hs,hh⟩
   | assumption
   | exact s1
   | exact s3
   | exact zwO w b1 b2 A B C D _ _ _ s3
   | go_keep)
  (first
   | (go_at_call 157;refine(zgr _ _ ?_ _).mono ?_;assumption;rintro e w5 ⟨rfl,hg5⟩;have s1:=zcq w b1 b2 A B C D hg5 ‹_›)
   | (go_at_call 156;refine(R.out _).mono ?_;rintro e w7 ⟨rfl,hg7⟩;have s3:=zcq w b1 b2 A B C D hg7 ‹_›;obtain⟨zb,zS,zT,z0,z1,z2,z3,z4,z5⟩:=zjY w b1 b2 A B C D s3))
 have hend:=zgG (a:=.bool b) (b:=.string S) (c:=.string T) s3.2.out.g (show w.heap.size<=w.heap.size+1+1 by omega);have HE:=zHd hend;clear hend s3 s1 hs hh;go_wp2;exact zqby (v:=.agg #[.bool _,.string _,.string _]) (by simp[results,results133,go_sem,z0,z1,z2,z3,z4,z5]) rfl ⟨rfl,HE.out⟩
open Go.RowKit
open Go.Lib (nDigits decDigits)
def zzv (b1 b2 b:Bool)(A B C D N S T:ByteArray)(w:World)(he:(b1==b2)=true)
  (T1:zcy A D) (T2:zcy C B) (T3:zcy B D)
  (N1:Hid (∀ w,Calls prog 171 #[.string (zdD A D),.string (zdD C B)] w (zab (.tuple #[.string N,.int .i64 0]) w)))
  (R:Hid (∀ w,Calls prog 156 #[.bool b1,.string N,.string (zdD B D)] w (zab (.agg #[.bool b,.string S,.string T]) w))) :
  Calls prog 148 #[.agg #[.bool b1,.string A,.string B],.agg #[.bool b2,.string C,.string D]] w (zab (.agg #[.bool b,.string S,.string T]) w):=by
 have h0:=ziT w b1 b2 A B C D;obtain⟨W0,hW0⟩:∃ W0,W0=(((w.alloc (.cells #[.bool b1,.string A,.string B] 138)).alloc (.cells #[.bool b2,.string C,.string D] 138)).alloc (.cells #[.bool false,.string ⟨#[]⟩,.string ⟨#[]⟩] 138)):=⟨_,rfl⟩;rw[<- hW0] at h0;have H0:=zHd h0;have HW0:=zHd hW0;clear h0 hW0;go_enter func148,ntmps148;go_wp2_with fail;rw[<- HW0.out];have hs:=H0.out.drew.seen;unfold Seen at hs;have hh:=zHd H0.out.drew;clear HW0
 go_region_held3 (fun W'=>(W'.cell? ⟨w.heap.size,0,none⟩=some (.bool b1)/\W'.cell? ⟨w.heap.size,1,none⟩=some (.string A)/\W'.cell? ⟨w.heap.size,2,none⟩=some (.string B) /\
   W'.cell? ⟨w.heap.size+1,0,none⟩=some (.bool b2)/\W'.cell? ⟨w.heap.size+1,1,none⟩=some (.string C)/\W'.cell? ⟨w.heap.size+1,2,none⟩=some (.string D))/\Hid (zer w W' b1 b2 A B C D))
  (first
   | exact⟨hs,hh⟩
   | assumption
   | exact s1
   | go_keep)
  (first
   | (go_at_call 157;refine(zgr _ _ ?_ _).mono ?_;assumption;rintro e w5 ⟨rfl,hg5⟩;have s1:=zcq w b1 b2 A B C D hg5 ‹_›))
 clear hs hh H0;obtain⟨⟨x0,x1,x2,y0,y1,y2⟩,hh⟩:=s1;go_wp2_with fail;refine(T3 _).mono ?_;rintro e v6 ⟨rfl,hg⟩;have s6:=zcq w b1 b2 A B C D hg ⟨⟨x0,x1,x2,y0,y1,y2⟩,hh⟩;clear x0 x1 x2 y0 y1 y2 hh hg;obtain⟨⟨x0,x1,x2,y0,y1,y2⟩,hh⟩:=s6;go_wp2_with fail;refine(N1.out _).mono ?_;rintro e v7 ⟨rfl,hg⟩;have s7:=zcq w b1 b2 A B C D hg ⟨⟨x0,x1,x2,y0,y1,y2⟩,hh⟩;clear x0 x1 x2 y0 y1 y2 hh hg;obtain⟨⟨x0,x1,x2,y0,y1,y2⟩,hh⟩:=s7;go_wp2_with fail;refine(R.out _).mono ?_;rintro e v8 ⟨rfl,hg⟩;have s8:=zcq w b1 b2 A B C D hg ⟨⟨x0,x1,x2,y0,y1,y2⟩,hh⟩;clear x0 x1 x2 y0 y1 y2 hh hg;obtain⟨zb,zS,zT,z0,z1,z2,z3,z4,z5⟩:=zjY w b1 b2 A B C D s8;have hend:=zgG (a:=.bool b) (b:=.string S) (c:=.string T) s8.2.out.g (show w.heap.size<=w.heap.size+1+1 by omega);have HE:=zHd hend;clear hend s8;go_wp2;exact zqby (v:=.agg #[.bool _,.string _,.string _]) (by simp[results,results148,go_sem,z0,z1,z2,z3,z4,z5]) rfl ⟨rfl,HE.out⟩
def zCE (b1:Bool)(b:Bool)(A B C D N S T:ByteArray)(w:World)
  (T1:zcy A D) (T2:zcy C B) (T3:zcy B D)
  (N1:Hid (∀ w,Calls prog 171 #[.string (zdD A D),.string (zdD C B)] w (zab (.tuple #[.string N,.int .i64 0]) w)))
  (R:Hid (∀ w,Calls prog 156 #[.bool b1,.string N,.string (zdD B D)] w (zab (.agg #[.bool b,.string S,.string T]) w))) :
  Calls prog 148 #[.agg #[.bool b1,.string A,.string B],.agg #[.bool b1,.string C,.string D]] w (zab (.agg #[.bool b,.string S,.string T]) w) :=
 zzv b1 b1 b A B C D N S T w (by simp) T1 T2 T3 N1 R
def zCF (b1 b2 b:Bool)(A B C D N S T:ByteArray)(c:Int)(w:World)(hne:b1≠b2)(hc:c<0)
  (T1:zcy A D) (T2:zcy C B) (T3:zcy B D)
  (CM:Hid (∀ w,Calls prog 172 #[.string (zdD A D),.string (zdD C B)] w fun e w'=>e=.returned (.int .i64 c)/\w.grownBy w' none))
  (SU:Hid (∀ w,Calls prog 173 #[.string (zdD C B),.string (zdD A D)] w (zab (.tuple #[.string N,.int .i64 0]) w)))
  (R:Hid (∀ w,Calls prog 156 #[.bool b2,.string N,.string (zdD B D)] w (zab (.agg #[.bool b,.string S,.string T]) w))) :
  Calls prog 148 #[.agg #[.bool b1,.string A,.string B],.agg #[.bool b2,.string C,.string D]] w (zab (.agg #[.bool b,.string S,.string T]) w):=by
 have he:(b1==b2)=false:=by simpa using hne
 have h0:=ziT w b1 b2 A B C D;obtain⟨W0,hW0⟩:∃ W0,W0=(((w.alloc (.cells #[.bool b1,.string A,.string B] 138)).alloc (.cells #[.bool b2,.string C,.string D] 138)).alloc (.cells #[.bool false,.string ⟨#[]⟩,.string ⟨#[]⟩] 138)):=⟨_,rfl⟩;rw[<- hW0] at h0;have H0:=zHd h0;have HW0:=zHd hW0;clear h0 hW0;go_enter func148,ntmps148;go_wp2_with fail;rw[<- HW0.out];have hs:=H0.out.drew.seen;unfold Seen at hs;have hh:=zHd H0.out.drew;clear HW0
 go_region_held3 (fun W'=>(W'.cell? ⟨w.heap.size,0,none⟩=some (.bool b1)/\W'.cell? ⟨w.heap.size,1,none⟩=some (.string A)/\W'.cell? ⟨w.heap.size,2,none⟩=some (.string B) /\
   W'.cell? ⟨w.heap.size+1,0,none⟩=some (.bool b2)/\W'.cell? ⟨w.heap.size+1,1,none⟩=some (.string C)/\W'.cell? ⟨w.heap.size+1,2,none⟩=some (.string D))/\Hid (zer w W' b1 b2 A B C D))
  (first
   | exact⟨hs,hh⟩
   | assumption
   | exact s1
   | go_keep)
  (first
   | (go_at_call 157;refine(zgr _ _ ?_ _).mono ?_;assumption;rintro e w5 ⟨rfl,hg5⟩;have s1:=zcq w b1 b2 A B C D hg5 ‹_›))
 exact zQak
def zCG (b1 b2 b:Bool)(A B C D N S T:ByteArray)(c:Int)(w:World)(hne:b1≠b2)(hc:¬ c<0)
  (T1:zcy A D) (T2:zcy C B) (T3:zcy B D)
  (CM:Hid (∀ w,Calls prog 172 #[.string (zdD A D),.string (zdD C B)] w fun e w'=>e=.returned (.int .i64 c)/\w.grownBy w' none))
  (SU:Hid (∀ w,Calls prog 173 #[.string (zdD A D),.string (zdD C B)] w (zab (.tuple #[.string N,.int .i64 0]) w)))
  (R:Hid (∀ w,Calls prog 156 #[.bool b1,.string N,.string (zdD B D)] w (zab (.agg #[.bool b,.string S,.string T]) w))) :
  Calls prog 148 #[.agg #[.bool b1,.string A,.string B],.agg #[.bool b2,.string C,.string D]] w (zab (.agg #[.bool b,.string S,.string T]) w):=by
 have he:(b1==b2)=false:=by simpa using hne
 have h0:=ziT w b1 b2 A B C D;obtain⟨W0,hW0⟩:∃ W0,W0=(((w.alloc (.cells #[.bool b1,.string A,.string B] 138)).alloc (.cells #[.bool b2,.string C,.string D] 138)).alloc (.cells #[.bool false,.string ⟨#[]⟩,.string ⟨#[]⟩] 138)):=⟨_,rfl⟩;rw[<- hW0] at h0;have H0:=zHd h0;have HW0:=zHd hW0;clear h0 hW0;go_enter func148,ntmps148;go_wp2_with fail;rw[<- HW0.out];have hs:=H0.out.drew.seen;unfold Seen at hs;have hh:=zHd H0.out.drew;clear HW0
 go_region_held3 (fun W'=>(W'.cell? ⟨w.heap.size,0,none⟩=some (.bool b1)/\W'.cell? ⟨w.heap.size,1,none⟩=some (.string A)/\W'.cell? ⟨w.heap.size,2,none⟩=some (.string B) /\
   W'.cell? ⟨w.heap.size+1,0,none⟩=some (.bool b2)/\W'.cell? ⟨w.heap.size+1,1,none⟩=some (.string C)/\W'.cell? ⟨w.heap.size+1,2,none⟩=some (.string D))/\Hid (zer w W' b1 b2 A B C D))
  (first
   | exact⟨hs,hh⟩
   | assumption
   | exact s1
   | go_keep)
  (first
   | (go_at_call 157;refine(zgr _ _ ?_ _).mono ?_;assumption;rintro e w5 ⟨rfl,hg5⟩;have s1:=zcq w b1 b2 A B C D hg5 ‹_›))
 exact zQak
open Go.RowKit
open Go.Lib (nDigits decDigits)
structure zhu (w W:World)(b1 b2:Bool)(A B C D:ByteArray):Prop where
 x:Num W w.heap.size b1 A B
 y:Num W (w.heap.size+1) b2 C D
 g:w.grownBy W none
def Two (w W:World)(b1 b2:Bool)(A B C D:ByteArray):Prop :=
 (W.cell? ⟨w.heap.size,0,none⟩=some (.bool b1)/\W.cell? ⟨w.heap.size,1,none⟩=some (.string A)/\W.cell? ⟨w.heap.size,2,none⟩=some (.string B) /\
  W.cell? ⟨w.heap.size+1,0,none⟩=some (.bool b2)/\W.cell? ⟨w.heap.size+1,1,none⟩=some (.string C)/\W.cell? ⟨w.heap.size+1,2,none⟩=some (.string D))/\Hid (zhu w W b1 b2 A B C D)
def zhu.next {w W W':World}{b1 b2:Bool}{A B C D:ByteArray}(h:zhu w W b1 b2 A B C D)(hg:W.grownBy W' none):zhu w W' b1 b2 A B C D :=
 ⟨h.x.grown hg,h.y.grown hg,zaa h.g hg⟩
def zhu.drew {w W:World}{b1 b2:Bool}{A B C D:ByteArray}(h:zhu w W b1 b2 A B C D):zhu w W.drew b1 b2 A B C D:=h.next (zag W none)
def zhu.two {w W:World}{b1 b2:Bool}{A B C D:ByteArray}(h:zhu w W b1 b2 A B C D):Two w W b1 b2 A B C D:=by
 obtain⟨x0,x1,x2,_⟩:=h.x.cells;obtain⟨y0,y1,y2,_⟩:=h.y.cells;exact⟨⟨x0,x1,x2,y0,y1,y2⟩,zHd h⟩
def zjZ (w:World)(b1 b2:Bool)(A B C D:ByteArray){W W':World}(hg:W.grownBy W' none)
  (h:(W.cell? ⟨w.heap.size,0,none⟩=some (.bool b1)/\W.cell? ⟨w.heap.size,1,none⟩=some (.string A)/\W.cell? ⟨w.heap.size,2,none⟩=some (.string B) /\
   W.cell? ⟨w.heap.size+1,0,none⟩=some (.bool b2)/\W.cell? ⟨w.heap.size+1,1,none⟩=some (.string C)/\W.cell? ⟨w.heap.size+1,2,none⟩=some (.string D))/\Hid (zhu w W b1 b2 A B C D)) :
  (W'.cell? ⟨w.heap.size,0,none⟩=some (.bool b1)/\W'.cell? ⟨w.heap.size,1,none⟩=some (.string A)/\W'.cell? ⟨w.heap.size,2,none⟩=some (.string B) /\
   W'.cell? ⟨w.heap.size+1,0,none⟩=some (.bool b2)/\W'.cell? ⟨w.heap.size+1,1,none⟩=some (.string C)/\W'.cell? ⟨w.heap.size+1,2,none⟩=some (.string D))/\Hid (zhu w W' b1 b2 A B C D) :=
 (h.2.out.next hg).two
def zpA (w:World)(b1 b2:Bool)(A B C D:ByteArray) :
  zhu w ((w.alloc (.cells #[.bool b1,.string A,.string B] 138)).alloc (.cells #[.bool b2,.string C,.string D] 138)) b1 b2 A B C D:=by
 refine⟨?_,?_,?_⟩
 ·unfold Num
  rw[zcp _ _ _ (by simp),zes _ _ _ rfl]
 ·unfold Num
  rw[zes _ _ _ (by simp)]
 exact zaa (zGA _ _ none) (zGA _ _ none)
def zmi (b1 b2:Bool)(A B C D:ByteArray)(w:World)(hne:b1≠b2) :
  Calls prog 152 #[.agg #[.bool b1,.string A,.string B],.agg #[.bool b2,.string C,.string D]] w (zab (.int .i64 (if b1 then -1 else 1)) w):=by
 cases b1 <;> cases b2 <;> simp only[ne_eq,not_true,Bool.false_eq_true,Bool.true_eq_false,not_false_eq_true] at hne
 all_goals
  go_enter func152,ntmps152;go_wp2;go_ret;exact⟨rfl,zaa (zGA _ _ _) (zGA _ _ _)⟩
def ztl (A B C D:ByteArray)(c:Int)(w:World)
  (T1:zcy A D) (T2:zcy C B)
  (CM:Hid (∀ w,Calls prog 172 #[.string (zdD A D),.string (zdD C B)] w fun e w'=>e=.returned (.int .i64 c)/\w.grownBy w' none)) :
  Calls prog 152 #[.agg #[.bool false,.string A,.string B],.agg #[.bool false,.string C,.string D]] w (zab (.int .i64 c) w):=by
 have h0:=zpA w false false A B C D;have H0:=zHd h0;obtain⟨hs,hh⟩:=h0.drew.two;obtain⟨⟨x0,x1,x2,y0,y1,y2⟩,hh0⟩:=h0.two;clear h0 hh0;go_enter func152,ntmps152;go_wp2_with fail;clear x0 x1 x2 y0 y1 y2
 go_region_held3 (fun W'=>(W'.cell? ⟨w.heap.size,0,none⟩=some (.bool false)/\W'.cell? ⟨w.heap.size,1,none⟩=some (.string A)/\W'.cell? ⟨w.heap.size,2,none⟩=some (.string B) /\
   W'.cell? ⟨w.heap.size+1,0,none⟩=some (.bool false)/\W'.cell? ⟨w.heap.size+1,1,none⟩=some (.string C)/\W'.cell? ⟨w.heap.size+1,2,none⟩=some (.string D))/\Hid (zhu w W' false false A B C D))
  (first
   | exact⟨hs,hh⟩
   | assumption
   | exact s1
   | go_keep)
  (first
   | (go_at_call 157;refine(zgr _ _ ?_ _).mono ?_;assumption;rintro e w5 ⟨rfl,hg5⟩;have s1:=zjZ w false false A B C D hg5 ‹_›)
   | (go_at_call 172;refine(CM.out _).mono ?_;rintro e w5 ⟨rfl,hg5⟩;have s1:=zjZ w false false A B C D hg5 ‹_›))
 have HE:=zHd s1.2.out.g;clear s1 hs hh H0;go_wp2;go_ret;exact⟨rfl,HE.out⟩
def zsr (A B C D:ByteArray)(c:Int)(w:World)
  (T1:zcy C B) (T2:zcy A D)
  (CM:Hid (∀ w,Calls prog 172 #[.string (zdD C B),.string (zdD A D)] w fun e w'=>e=.returned (.int .i64 c)/\w.grownBy w' none)) :
  Calls prog 152 #[.agg #[.bool true,.string A,.string B],.agg #[.bool true,.string C,.string D]] w (zab (.int .i64 c) w):=by
 have h0:=zpA w true true C D A B;obtain⟨hs,hh⟩:=h0.drew.two;clear h0;go_enter func152,ntmps152;go_wp2_with fail
 go_region_held3 (fun W'=>(W'.cell? ⟨w.heap.size,0,none⟩=some (.bool true)/\W'.cell? ⟨w.heap.size,1,none⟩=some (.string C)/\W'.cell? ⟨w.heap.size,2,none⟩=some (.string D) /\
   W'.cell? ⟨w.heap.size+1,0,none⟩=some (.bool true)/\W'.cell? ⟨w.heap.size+1,1,none⟩=some (.string A)/\W'.cell? ⟨w.heap.size+1,2,none⟩=some (.string B))/\Hid (zhu w W' true true C D A B))
  (first
   | exact⟨hs,hh⟩
   | assumption
   | exact s1
   | go_keep)
  (first
   | (go_at_call 157;refine(zgr _ _ ?_ _).mono ?_;assumption;rintro e w5 ⟨rfl,hg5⟩;have s1:=zjZ w true true C D A B hg5 ‹_›)
   | (go_at_call 172;refine(CM.out _).mono ?_;rintro e w5 ⟨rfl,hg5⟩;have s1:=zjZ w true true C D A B hg5 ‹_›))
 have HE:=zHd s1.2.out.g;clear s1 hs hh;go_wp2;go_ret;exact⟨rfl,HE.out⟩
def znA (m n:Nat)(hm:nDigits m<=1000)(hn:nDigits n<=1000):zff (zal m) (zal n)=zcf m n:=by
 unfold zff;rw[zbn m hm,zbn n hn,zbc,zbc];rfl
def znB (m n:Nat)(hm:nDigits m<=1000)(hn:nDigits n<=1000)(h:n<=m):zed (zal m) (zal n)=.tuple #[.string (zal (m-n)),.int .i64 0]:=by
 unfold zed;rw[zbn m hm,zbn n hn,zbc,zbc];simp only[Bool.and_self,if_true];rw[if_neg (by omega)]
open Go.RowKit
open Go.Lib (nDigits decDigits)
def Fun (w:World)(g F:Nat):Prop:=w.heap[g]?=some (.cells #[.func (.func F) #[] #[]] 143 (0,0))
def Fun.grown {w w':World}{g F:Nat}(h:Fun w g F)(hg:w.grownBy w' none):Fun w' g F:=(hg.block _ (lt_of_block h) (by simp)).trans h
def zFC (F g0 g1 g2:Nat)(b1 b2:Bool)(A B C D S:ByteArray)(N:Value)(w:World)(hE:Enters F)(h0:Fun w g0 F)(h1:Num w g1 b1 A B)(h2:Num w g2 b2 C D)
  (M:Hid (∀ w,Calls prog F #[.agg #[.bool b1,.string A,.string B],.agg #[.bool b2,.string C,.string D]] w (zab N w)))
  (X:Hid (∀ w,Calls prog 155 #[N] w (zab (.string S) w))) :
  Calls prog 154 #[.pointer (some ⟨g0,0,none⟩),.pointer (some ⟨g1,0,none⟩),.pointer (some ⟨g2,0,none⟩)] w (zab (.string S) w):=by
 have c0:=cell_of_one h0;obtain⟨x0,x1,x2,_⟩:=h1.cells;obtain⟨y0,y1,y2,_⟩:=h2.cells;have HE:=zHd hE;clear h0 h1 h2 hE;go_enter func154,ntmps154;go_wp2_with fail;rw[HE.out];refine(M.out _).mono ?_;rintro e w1 ⟨rfl,hg⟩;have G1:=zHd hg;clear hg;go_wp2_with fail;exact zQbD
def zCH (F g0 g1 g2:Nat)(b1 b2:Bool)(A B C D:ByteArray)(N:Value)(w:World)(hE:Enters F)(h0:Fun w g0 F)(h1:Num w g1 b1 A B)(h2:Num w g2 b2 C D)
  (M:Hid (∀ w,Calls prog F #[.agg #[.bool b1,.string A,.string B],.agg #[.bool b2,.string C,.string D]] w (zab N w)))
  (X:Hid (∀ w,Calls prog 155 #[N] w (zkH 2 w))) :
  Calls prog 154 #[.pointer (some ⟨g0,0,none⟩),.pointer (some ⟨g1,0,none⟩),.pointer (some ⟨g2,0,none⟩)] w (zkH 2 w):=by
 have c0:=cell_of_one h0;obtain⟨x0,x1,x2,_⟩:=h1.cells;obtain⟨y0,y1,y2,_⟩:=h2.cells;have HE:=zHd hE;clear h0 h1 h2 hE;go_enter func154,ntmps154;go_wp2_with fail;rw[HE.out];refine(M.out _).mono ?_;rintro e w1 ⟨rfl,hg⟩;have G1:=zHd hg;clear hg;go_wp2_with fail;refine(X.out _).mono ?_;rintro e w2 ⟨rfl,hg⟩;exact⟨rfl,rfl,zaa G1.out hg⟩
def zpB:Enters 154:=enters_of func154 (by kernel_rfl) rfl
def zHN (F:Nat)(b1 b2:Bool)(A B C D S:ByteArray)(E:Int):Prop:=∀ (g0 g1 g2:Nat) (w:World),Fun w g0 F->Num w g1 b1 A B->Num w g2 b2 C D ->
  Calls prog 153 #[.func (.func 154) #[] #[.pointer (some ⟨g0,0,none⟩),.pointer (some ⟨g1,0,none⟩),.pointer (some ⟨g2,0,none⟩)]] w (zab (.tuple #[.string S,.int .i64 E]) w)
def zpC (F:Nat)(a b:ByteArray)(b1 b2:Bool)(A B C D S:ByteArray)(E:Int)(w:World)
  (R1:Hid (∀ w,Calls prog 124 #[.string a] w (zab (.tuple #[.agg #[.bool b1,.string A,.string B],.bool true]) w)))
  (R2:Hid (∀ w,Calls prog 124 #[.string b] w (zab (.tuple #[.agg #[.bool b2,.string C,.string D],.bool true]) w)))
  (K:Hid (zHN F b1 b2 A B C D S E)) :
  Calls prog 131 #[.string a,.string b,.func (.func F) #[] #[]] w (zab (.tuple #[.string S,.int .i64 E]) w):=by
 have hmf := @zMF prog;go_enter func131,ntmps131;go_wp2_with fail;refine(R1.out _).mono ?_;rintro e w1 ⟨rfl,hg⟩;have hb:=alloc_old hg;have F1:=zHd (show Fun w1 w.heap.size F from hb);have G1:=zHd (zaa (zGA _ _ none) hg);clear hg hb;go_wp2_with fail;refine(R2.out _).mono ?_;rintro e w2 ⟨rfl,hg⟩;have hb:=alloc_old hg;have N1:=zHd (show Num w2 w1.heap.size b1 A B from hb);have hgg:=zaa (zGA _ _ none) hg;have F2:=zHd (F1.out.grown hgg);have G2:=zHd (zaa G1.out hgg);clear hg hb hgg F1 G1;go_wp2_with fail;refine(K.out _ _ _ _ (F2.out.grown (zGA _ _ none)) (N1.out.grown (zGA _ _ none)) (zaG _ _)).mono ?_;rintro e w3 ⟨rfl,hg⟩;have G3:=zHd (zaa G2.out (zaa (zGA _ _ none) hg));clear hg;go_wp2;go_ret2;exact⟨rfl,G3.out⟩
def zwP (F:Nat)(x y r:Rat):Prop:=∀ w,Calls prog F #[zfy x,zfy y] w (zab (zfy r) w)
def zlK {F:Nat}{a b:ByteArray}{x y r:Rat}(hE:Enters F)(ha:zaM a x)(hb:zaM b y)(M:zwP F x y r)(w:World) :
  Calls prog 131 #[.string a,.string b,.func (.func F) #[] #[]] w (zab (zec r) w):=by
 have r1:=fun w=>zlc ha w (zji ha);have r2:=fun w=>zlc hb w (zji hb)
 by_cases h:zcd r
 ·rw[zjf h]
  refine zpC F a b _ _ _ _ _ _ _ _ w (zHd r1) (zHd r2) (zHd fun g0 g1 g2 w f n1 n2=>?_);have k:=zGA w (.cells #[.int .i64 0] 30) none;exact zpu _ zpB #[] _ _ w (zFC F g0 g1 g2 _ _ _ _ _ _ _ _ _ hE (f.grown k) (n1.grown k) (n2.grown k) (zHd M) (zHd fun w=>zvX r w h))
 rw[zgU h];refine zpC F a b _ _ _ _ _ _ _ _ w (zHd r1) (zHd r2) (zHd fun g0 g1 g2 w f n1 n2=>?_);have k:=zGA w (.cells #[.int .i64 0] 30) none;exact zpv _ zpB #[] _ _ w (zCH F g0 g1 g2 _ _ _ _ _ _ _ _ hE (f.grown k) (n1.grown k) (n2.grown k) (zHd M) (zHd fun w=>ztj r w h))
def zeN (a:ByteArray):Prop:=∀ x,¬ zaM a x
def zGX (a:ByteArray):(∃ x,zaM a x)∨zeN a:=by
 by_cases h:∃ x,zaM a x
 exact .inl h;exact .inr fun x k=>h ⟨x,k⟩
def zpD (a:ByteArray)(ha:a.size<=maxLen):∃ b A B k,(∀ w,Calls prog 124 #[.string a] w (zab (.tuple #[.agg #[.bool b,.string A,.string B],.bool k]) w))/\(zeN a->k=false):=by
 rcases zGX a with⟨x,h⟩|h;exact⟨_,_,_,true,fun w=>zlc h w ha,fun n=>absurd h (n x)⟩;exact⟨_,_,_,false,fun w=>zvY h w ha,fun _=>rfl⟩
open Go.RowKit
open Go.Lib (nDigits decDigits)
def zcz {x y:Nat}(hx:nDigits x<=400)(hy:nDigits y<=400):nDigits (x*y)<=800:=by have:=znX x y;omega
def zgs (m n:Nat)(hm:nDigits m<=400)(hn:nDigits n<=400):zcy (zal m) (zal n):=fun w=>by
 have:=zcz hm hn;unfold zdD;rw[zbc,zbc];exact zzk m n w (by omega) (by omega) (by omega)
def zcH (m n:Nat):zdD (zal m) (zal n)=zal (m*n):=by unfold zdD;rw[zbc,zbc]
def zhv (neg:Bool)(n d:Nat)(hd:d≠0)(hn:nDigits n<=1000)(hdd:nDigits d<=1000){r:Rat}(hr:mkRat (sg neg n) d=r) :
  Hid (∀ w,Calls prog 156 #[.bool neg,.string (zal n),.string (zal d)] w (zab (zfy r) w)) :=
 zHd fun w=>by rw[<- hr];exact zpw neg n d w hd hn hdd
def zgt (x y:Rat):x.den*y.den≠0:=Nat.mul_ne_zero x.den_nz y.den_nz
def zss (x y:Rat)(hx:zcd x)(hy:zcd y):zwP 133 x y (x*y):=fun w=>by
 have d1:=zcz hx.1 hy.1;have d2:=zcz hx.2 hy.2;have R:=zhv (sgn x != sgn y) _ _ (zgt x y) (by omega) (by omega) (zmg x y);rw[<- zcH,<- zcH] at R;exact zmh _ _ _ _ _ _ _ _ _ w (zgs _ _ hx.1 hy.1) (zgs _ _ hx.2 hy.2) R
def zHL (x y:Rat)(hx:zcd x)(hy:zcd y)(h:y.num≠0)(w:World) :
  Calls prog 133 #[zfy x,.agg #[.bool (sgn y),.string (zal y.den),.string (zal y.num.natAbs)]] w (zab (zfy (x/y)) w):=by
 have d1:=zcz hx.1 hy.2;have d2:=zcz hx.2 hy.1;have R:=zhv (sgn x != sgn y) _ _ (Nat.mul_ne_zero x.den_nz (show y.num.natAbs≠0 by omega)) (by omega) (by omega) (zrM x y h);rw[<- zcH,<- zcH] at R;exact zmh _ _ _ _ _ _ _ _ _ w (zgs _ _ hx.1 hy.2) (zgs _ _ hx.2 hy.1) R
def zzw (x y:Rat)(hx:zcd x)(hy:zcd y):zwP 148 x y (x+y):=fun w=>by
 have d1:=zcz hx.1 hy.2;have d2:=zcz hy.1 hx.2;have d3:=zcz hx.2 hy.2;have t1:=zgs _ _ hx.1 hy.2;have t2:=zgs _ _ hy.1 hx.2;have t3:=zgs _ _ hx.2 hy.2
 by_cases hs:sgn x=sgn y
 ·have d4:=zig _ _ _ d1 d2
  have R:=zhv (sgn x) (x.num.natAbs*y.den+y.num.natAbs*x.den) _ (zgt x y) (by omega) (by omega) (zgX x y _ (by rw[<- hs,zvZ]));have ad:=fun w=>zFq (zal (x.num.natAbs*y.den)) (zal (y.num.natAbs*x.den)) w (zbh _ (by omega)) (zbh _ (by omega));rw[zsX _ _ (zal (x.num.natAbs*y.den+y.num.natAbs*x.den)) (zbn _ (by omega)) (zbn _ (by omega)) (zbn _ (by omega)) (by rw[zbc,zbc,zbc])] at ad;rw[<- zcH x.den] at R;rw[<- zcH x.num.natAbs y.den,<- zcH y.num.natAbs x.den] at ad;have:=zCE (sgn x) _ _ _ _ _ _ _ _ w t1 t2 t3 (zHd ad) R;unfold zfy;rw[show decide (y.num<0)=sgn x from hs.symm];exact this
 by_cases hl:x.num.natAbs*y.den<y.num.natAbs*x.den
 ·have d4:=zbZ (Nat.sub_le (y.num.natAbs*x.den) (x.num.natAbs*y.den))
  have R:=zhv (sgn y) (y.num.natAbs*x.den-x.num.natAbs*y.den) _ (zgt x y) (by omega) (by omega) (zgX x y _ (by rw[zwa _ _ _ _ hs hl]));have cm:=fun w=>znu (zal (x.num.natAbs*y.den)) (zal (y.num.natAbs*x.den)) w (zbh _ (by omega)) (zbh _ (by omega));have su:=fun w=>zvR (zal (y.num.natAbs*x.den)) (zal (x.num.natAbs*y.den)) w (zbh _ (by omega)) (zbh _ (by omega));rw[znB _ _ (by omega) (by omega) (by omega)] at su;obtain⟨c,hc,hc0⟩:∃ c:Int,zff (zal (x.num.natAbs*y.den)) (zal (y.num.natAbs*x.den))=c/\c<0:=⟨_,rfl,by rw[znA _ _ (by omega) (by omega)];exact(zfH _ _).2 hl⟩;rw[hc] at cm;rw[<- zcH x.den] at R;rw[<- zcH x.num.natAbs y.den,<- zcH y.num.natAbs x.den] at su cm;exact zCF _ _ _ _ _ _ _ _ _ _ c w hs hc0 t1 t2 t3 (zHd cm) (zHd su) R
 have d4:=zbZ (Nat.sub_le (x.num.natAbs*y.den) (y.num.natAbs*x.den));have R:=zhv (sgn x) (x.num.natAbs*y.den-y.num.natAbs*x.den) _ (zgt x y) (by omega) (by omega) (zgX x y _ (by rw[zwb _ _ _ _ hs hl]));have cm:=fun w=>znu (zal (x.num.natAbs*y.den)) (zal (y.num.natAbs*x.den)) w (zbh _ (by omega)) (zbh _ (by omega));have su:=fun w=>zvR (zal (x.num.natAbs*y.den)) (zal (y.num.natAbs*x.den)) w (zbh _ (by omega)) (zbh _ (by omega));rw[znB _ _ (by omega) (by omega) (by omega)] at su;obtain⟨c,hc,hc0⟩:∃ c:Int,zff (zal (x.num.natAbs*y.den)) (zal (y.num.natAbs*x.den))=c/\¬ c<0:=⟨_,rfl,by rw[znA _ _ (by omega) (by omega),zfH];exact hl⟩;rw[hc] at cm;rw[<- zcH x.den] at R;rw[<- zcH x.num.natAbs y.den,<- zcH y.num.natAbs x.den] at su cm;exact zCG _ _ _ _ _ _ _ _ _ _ c w hs hc0 t1 t2 t3 (zHd cm) (zHd su) R
def zwQ:Enters 148:=enters_of func148 (by kernel_rfl) rfl
def zqK:Enters 133:=enters_of func133 (by kernel_rfl) rfl
def zCI (a b S:ByteArray)(E:Int)(w:World)(O:Hid (∀ w,Calls prog 131 #[.string a,.string b,.func (.func 148) #[] #[]] w (zab (.tuple #[.string S,.int .i64 E]) w))) :
  Calls prog 125 #[.string a,.string b] w (zab (.tuple #[.string S,.int .i64 E]) w):=by
 go_enter func125,ntmps125;go_wp2_with fail;refine(O.out _).mono ?_;exact zQaT
def zFD {a b:ByteArray}{x y:Rat}(ha:zaM a x)(hb:zaM b y)(w:World) :
  Calls prog 125 #[.string a,.string b] w (zab (zec (x+y)) w):=by
 obtain⟨S,E,e⟩:=zcR (x+y);have O:=fun w=>zlK zwQ ha hb (zzw x y ha.short hb.short) w;rw[e] at O ⊢;exact zCI a b S E w (zHd O)
def zCJ (a b S:ByteArray)(E:Int)(w:World)(O:Hid (∀ w,Calls prog 131 #[.string a,.string b,.func (.func 133) #[] #[]] w (zab (.tuple #[.string S,.int .i64 E]) w))) :
  Calls prog 130 #[.string a,.string b] w (zab (.tuple #[.string S,.int .i64 E]) w):=by
 go_enter func130,ntmps130;go_wp2_with fail;refine(O.out _).mono ?_;exact zQaT
def zFE {a b:ByteArray}{x y:Rat}(ha:zaM a x)(hb:zaM b y)(w:World) :
  Calls prog 130 #[.string a,.string b] w (zab (zec (x*y)) w):=by
 obtain⟨S,E,e⟩:=zcR (x*y);have O:=fun w=>zlK zqK ha hb (zss x y ha.short hb.short) w;rw[e] at O ⊢;exact zCJ a b S E w (zHd O)
open Go.RowKit
open Go.Lib (nDigits decDigits)
open Go.RowKit
open Go.Lib (nDigits decDigits)
def zgY (a:ByteArray)(b:Bool)(A B:ByteArray)(k:Bool):Prop:=∀ w,Calls prog 124 #[.string a] w (zab (.tuple #[.agg #[.bool b,.string A,.string B],.bool k]) w)
def zpE (a:ByteArray)(b:Bool)(A B:ByteArray)(k:Bool)(w:World)(R:Hid (zgY a b A B k)) :
  Calls prog 93 #[.string a] w (zab (.bool k) w):=by
 go_enter func93,ntmps93;go_wp2_with fail;refine(R.out _).mono ?_;exact zQaI
def zpF (a:ByteArray)(b:Bool)(A B:ByteArray)(k:Bool)(w:World)(R:Hid (zgY a b A B k)) :
  Calls prog 129 #[.string a] w (zab (.tuple #[.bool b,.string A,.string B,.bool k]) w):=by
 go_enter func129,ntmps129;go_wp2_with fail;refine(R.out _).mono ?_;rintro e w1 ⟨rfl,hg⟩;have G1:=zHd hg;clear hg;go_wp2_with fail
 go_quiet (fail)
 go_wp2;exact zqby (v:=.tuple #[.bool _,.string _,.string _,.bool _]) (by simp[results,results129,go_sem]) rfl ⟨rfl,zaa G1.out (zaa (zGA _ _ none) (zce _ _ _))⟩
def zGY (a b:ByteArray)(b1 b2 k1 k2:Bool)(A B C D:ByteArray)(w:World)(hk:(k1&&k2)=false)(R1:Hid (zgY a b1 A B k1))(R2:Hid (zgY b b2 C D k2)) :
  Calls prog 128 #[.string a,.string b] w (zab (.int .i64 0) w):=by
 cases k1 <;> cases k2 <;> simp only[Bool.and_self,Bool.and_true,Bool.true_and,Bool.true_eq_false] at hk
 all_goals
  go_enter func128,ntmps128;go_wp2_with fail;refine(R1.out _).mono ?_;rintro e w1 ⟨rfl,hg⟩;have G1:=zHd hg;clear hg;go_wp2_with fail;refine(R2.out _).mono ?_;rintro e w2 ⟨rfl,hg⟩;have G2:=zHd (zaa G1.out (zaa (zGA _ _ none) hg));clear hg;go_wp2;go_ret;exact⟨rfl,zaa G2.out (zGA _ _ none)⟩
def zFF (a b:ByteArray)(b1 b2:Bool)(A B C D:ByteArray)(c:Int)(w:World)(R1:Hid (zgY a b1 A B true))(R2:Hid (zgY b b2 C D true))
  (CP:Hid (∀ w,Calls prog 152 #[.agg #[.bool b1,.string A,.string B],.agg #[.bool b2,.string C,.string D]] w (zab (.int .i64 c) w))) :
  Calls prog 128 #[.string a,.string b] w (zab (.int .i64 c) w):=by
 go_enter func128,ntmps128;go_wp2_with fail;refine(R1.out _).mono ?_;rintro e w1 ⟨rfl,hg⟩;have G1:=zHd hg;clear hg;go_wp2_with fail;refine(R2.out _).mono ?_;rintro e w2 ⟨rfl,hg⟩;have hb:=alloc_old hg;have N1:=(show Num w2 w1.heap.size b1 A B from hb).grown (zGA w2 (.cells #[.bool b2,.string C,.string D] 138) none);obtain⟨x0,x1,x2,_⟩:=N1.cells;have G2:=zHd (zaa G1.out (zaa (zGA _ _ none) hg));clear hg hb N1;go_wp2_with fail;refine(CP.out _).mono ?_;rintro e w3 ⟨rfl,hg⟩;have G3:=zHd (zaa G2.out (zaa (zGA _ _ none) hg));clear hg x0 x1 x2;go_wp2;go_ret;exact⟨rfl,G3.out⟩
def zka {a:ByteArray}{x:Rat}(h:zaM a x):zgY a (sgn x) (zal x.num.natAbs) (zal x.den) true:=fun w=>zlc h w (zji h)
def ztm {a:ByteArray}(h:zeN a)(ha:a.size<=maxLen):zgY a false ⟨#[]⟩ ⟨#[]⟩ false:=fun w=>zvY h w ha
def zmj {a:ByteArray}{x:Rat}(h:zaM a x)(w:World):Calls prog 93 #[.string a] w (zab (.bool true) w):=zpE a _ _ _ _ w (zHd (zka h))
def zih {a:ByteArray}(h:zeN a)(ha:a.size<=maxLen)(w:World):Calls prog 93 #[.string a] w (zab (.bool false) w):=zpE a _ _ _ _ w (zHd (ztm h ha))
def zzx (x:Rat):Value:=.tuple #[.bool (sgn x),.string (zal x.num.natAbs),.string (zal x.den),.bool true]
def zeD:Value:=.tuple #[.bool false,.string ⟨#[]⟩,.string ⟨#[]⟩,.bool false]
def zzy {a:ByteArray}{x:Rat}(h:zaM a x)(w:World):Calls prog 129 #[.string a] w (zab (zzx x) w):=zpF a _ _ _ _ w (zHd (zka h))
def zCK {a:ByteArray}(h:zeN a)(ha:a.size<=maxLen)(w:World):Calls prog 129 #[.string a] w (zab zeD w):=zpF a _ _ _ _ w (zHd (ztm h ha))
def zwd (m n:Nat)(hm:nDigits m<=1000)(hn:nDigits n<=1000):∀ w,Calls prog 172 #[.string (zal m),.string (zal n)] w fun e w'=>e=.returned (.int .i64 (zcf m n))/\w.grownBy w' none:=fun w=>by
 have:=znu (zal m) (zal n) w (zbh m hm) (zbh n hn);rw[znA m n hm hn] at this;exact this
def zvb (x y:Rat)(hx:zcd x)(hy:zcd y)(w:World):Calls prog 152 #[zfy x,zfy y] w (zab (.int .i64 (zdv x y)) w):=by
 have d1:=zcz hx.1 hy.2;have d2:=zcz hy.1 hx.2;have t1:=zgs _ _ hx.1 hy.2;have t2:=zgs _ _ hy.1 hx.2;unfold zfy;rw[show decide (x.num<0)=sgn x from rfl,show decide (y.num<0)=sgn y from rfl];cases h1:sgn x <;> cases h2:sgn y
 ·rw[zCC x y h1 h2]
  have cm:=zwd (x.num.natAbs*y.den) (y.num.natAbs*x.den) (by omega) (by omega);rw[<- zcH x.num.natAbs y.den,<- zcH y.num.natAbs x.den] at cm;exact ztl _ _ _ _ _ w t1 t2 (zHd cm)
 rw[zzt x y h1 h2];exact zmi false true _ _ _ _ w (by decide);rw[zzs x y h1 h2];exact zmi true false _ _ _ _ w (by decide);rw[zzu x y h1 h2];have cm:=zwd (y.num.natAbs*x.den) (x.num.natAbs*y.den) (by omega) (by omega);rw[<- zcH x.num.natAbs y.den,<- zcH y.num.natAbs x.den] at cm;exact zsr _ _ _ _ _ w t2 t1 (zHd cm)
def zwR {a b:ByteArray}{x y:Rat}(ha:zaM a x)(hb:zaM b y)(w:World):Calls prog 128 #[.string a,.string b] w (zab (.int .i64 (zdv x y)) w) :=
 zFF a b _ _ _ _ _ _ _ w (zHd (zka ha)) (zHd (zka hb)) (zHd fun w=>zvb x y ha.short hb.short w)
def zmk {a b:ByteArray}(ha:a.size<=maxLen)(hb:b.size<=maxLen)(h:zeN a∨zeN b)(w:World):Calls prog 128 #[.string a,.string b] w (zab (.int .i64 0) w):=by
 obtain⟨b1,A,B,k1,r1,n1⟩:=zpD a ha;obtain⟨b2,C,D,k2,r2,n2⟩:=zpD b hb;refine zGY a b _ _ k1 k2 _ _ _ _ w ?_ (zHd r1) (zHd r2);rcases h with h|h;rw[n1 h];rfl;rw[n2 h,Bool.and_false]
def zvc (s chars:List UInt8):(Lib.indexAny s chars = -1/\∀ x∈s,chars.contains x=false)∨(∃ (i:Nat) (c:UInt8),Lib.indexAny s chars=i/\s[i]?=some c/\chars.contains c=true):=by
 induction s with
 | nil=>exact .inl ⟨rfl,by simp⟩
 | cons b l ih =>
  by_cases h:chars.contains b=true
  exact .inr ⟨0,b,by rw[Lib.indexAny,if_pos h];rfl,rfl,h⟩;rcases ih with⟨h1,h2⟩|⟨i,c,h1,h2,h3⟩
  ·refine .inl ⟨by rw[Lib.indexAny,if_neg h,h1];rfl,?_⟩
   intro x hx;rcases List.mem_cons.1 hx with rfl|hx
   simpa using h;exact h2 x hx
  refine .inr ⟨i+1,c,?_,by simpa using h2,h3⟩;rw[Lib.indexAny,if_neg h,h1,if_neg (fun e=>by have:=beq_iff_eq.1 e;omega)]
  push_cast
  rfl
def ztn (l:List UInt8)(i:Nat):(⟨l.toArray⟩:ByteArray).extract 0 i=⟨(l.take i).toArray⟩:=by
 apply ByteArray.ext;rw[ByteArray.data_extract];simp[List.extract_eq_take_drop]
def extract_drop (l:List UInt8)(i:Nat):(⟨l.toArray⟩:ByteArray).extract i (⟨l.toArray⟩:ByteArray).size=⟨(l.drop i).toArray⟩:=by
 apply ByteArray.ext;rw[ByteArray.data_extract];simp[List.extract_eq_take_drop,ByteArray.size];rw[zqaf (by simp)]
open Go.RowKit
open Go.Lib (nDigits decDigits)
open Go.RowKit
open Go.Lib (nDigits decDigits)
def zdB (w:World)(g:Nat)(l:List Value):Prop:=w.heap[g]?=some (.cells l.toArray 3 (0,0))
def zdB.cell {w:World}{g:Nat}{l:List Value}(h:zdB w g l)(k:Nat):w.cell? ⟨g,k,none⟩=l[k]?:=by
 rw[zhR h];simp
def zdB.free {w:World}{g:Nat}{l:List Value}(h:zdB w g l)(k:Nat):w.frozen? ⟨g,k,none⟩=false:=zqbx w g k _ _ h
def zdB.set {w:World}{g:Nat}{l:List Value}(h:zdB w g l)(k:Nat)(u:Value):zdB (w.setCell ⟨g,k,none⟩ u) g (l.set k u):=by
 unfold zdB;exact zQco
def zdB.lt {w:World}{g:Nat}{l:List Value}(h:zdB w g l):g<w.heap.size:=lt_of_block h
def zdB.of_full {w:World}{B g n:Nat}{l:List Value}(h:w.ownsRow B 3 1 (.slice (some ⟨g,0,none⟩) n n) n l):zdB w g l:=by
 rcases h.2 with⟨h',_⟩|⟨g',cap',cur,h',hb,hg,_,_,hs,ht⟩;simp at h';simp only[Value.slice.injEq,Option.some.injEq,Addr.mk.injEq,and_true,true_and] at h';obtain⟨rfl,rfl⟩:=h';rw[zqaf (by rw[zqbs,hs];exact zqab _)] at ht;subst ht;unfold zdB;rw[hg]
def zto (n:Nat):(madeCells #[Value.int .i64 0] n).toList=iv (List.replicate n 0):=by
 rw[toList_madeCells_one];simp[iv]
def zzz (zs:List Nat)(k:Nat)(h:k<zs.length):(iv zs)[k]?=some (.int .i64 (zs.getD k 0:Nat)):=by
 simp[iv,zqaa,zqac h]
def zGZ (zs:List Nat)(i n:Nat):(iv zs).set i (.int .i64 (n:Int))=iv (zs.set i n):=by simp[iv,List.map_set]
def zdB.digs {w:World}{g:Nat}{zs:List Nat}(h:zdB w g (iv zs))(h0:zs≠[]):zjx w (.slice (some ⟨g,0,none⟩) zs.length zs.length) zs :=
 .inr ⟨g,_,rfl,h0,h.lt,fun k hk=>by rw[h.cell,zzz zs k hk]⟩
def zzA:∀ (zs:List Nat) (k v:Nat),k<zs.length->vl 10 (zs.set k v)+10 ^ k*zs.getD k 0=vl 10 zs+10 ^ k*v
 | [],k,v,h=>by simp at h
 | z::zs,0,v,h=>by simp[vl];omega
 | z::zs,k+1,v,h=>by
  have ih:=zzA zs k v (by simpa using h);simp only[List.set_cons_succ,vl,List.getD_cons_succ,zqbp];rw[zqbc (10 ^ k) 10,zqav,zqav];omega
structure zjB (xs ys:List Nat)(i:Nat)(zs:List Nat):Prop where
 len:zs.length=xs.length+ys.length+1
 lt:∀ d∈zs,d<10
 val:vl 10 zs=vl 10 (xs.take i)*vl 10 ys
structure zii (z0:Nat)(N x:Nat)(ys:List Nat)(i j c:Nat)(zs:List Nat):Prop where
 len:zs.length=N
 lt:∀ d∈zs,d<10
 carry:c<=9
 val:vl 10 zs+10 ^ (i+j)*c=z0+10 ^ i*(x*vl 10 (ys.take j))
def zjB.start (xs ys:List Nat):zjB xs ys 0 (List.replicate (xs.length+ys.length+1) 0) :=
 ⟨by simp,fun d h=>by rw[(List.mem_replicate.1 h).2];decide,by rw[zhQ];simp[vl]⟩
def zii.start {xs ys zs:List Nat}{i x:Nat}(h:zjB xs ys i zs):zii (vl 10 zs) (xs.length+ys.length+1) x ys i 0 0 zs :=
 ⟨h.len,h.lt,by omega,by simp[vl]⟩
def zii.step {z0 N x i j c:Nat}{ys zs:List Nat}(h:zii z0 N x ys i j c zs)(hij:i+j<N)(hx:x<10)(hy:∀ d∈ys,d<10) :
  zii z0 N x ys i (j+1) ((zs.getD (i+j) 0+x*ys.getD j 0+c)/10) (zs.set (i+j) ((zs.getD (i+j) 0+x*ys.getD j 0+c)%10)):=by
 have h1:=getD_lt zs h.lt (i+j);have h2:=getD_lt ys hy j;have h3:=h.carry;have hm:x*ys.getD j 0<=9*9:=Nat.mul_le_mul (by omega) (by omega);refine⟨by rw[List.length_set,h.len],fun d hd=>?_,by omega,?_⟩
 ·rcases List.mem_or_eq_of_mem_set hd with hd|hd
  ·exact h.lt d hd
  rw[hd];omega
 have e:=h.val;have s:=zzA zs (i+j) ((zs.getD (i+j) 0+x*ys.getD j 0+c)%10) (by rw[h.len];exact hij);rw[zaU];have hd:=zqbt (zs.getD (i+j) 0+x*ys.getD j 0+c) 10
 have e2:10 ^ i*(x*(vl 10 (ys.take j)+10 ^ j*ys.getD j 0))=10 ^ i*(x*vl 10 (ys.take j))+10 ^ (i+j)*(x*ys.getD j 0):=by
  rw[zqbh,zqbh,Nat.pow_add,zqav (10 ^ i),Nat.mul_left_comm x]
 rw[e2,show i+(j+1)=i+j+1 from rfl,zqbp];generalize vl 10 (zs.set (i+j) ((zs.getD (i+j) 0+x*ys.getD j 0+c)%10))=V at *;generalize zs.getD (i+j) 0=p at *;generalize x*ys.getD j 0=q at *;generalize 10 ^ i*(x*vl 10 (ys.take j))=W at *;generalize 10 ^ (i+j)=P at *;generalize (p+q+c)/10=u at *;generalize (p+q+c)%10=v at *;have e1:P*10*u+P*v=P*(p+q+c):=by rw[<- hd,zqbh,zqav]
 rw[zqbh,zqbh] at e1;omega
def zii.fin {xs ys zs ws:List Nat}{i c:Nat}(h0:zjB xs ys i zs)(hi:i<xs.length)(h:zii (vl 10 zs) (xs.length+ys.length+1) (xs.getD i 0) ys i (ys.length+1) c ws)(hx:∀ d∈xs,d<10)(hy:∀ d∈ys,d<10):zjB xs ys (i+1) ws:=by
 refine⟨h.len,h.lt,?_⟩;have e:=h.val;rw[h0.val,zqaf (l:=ys) (by omega)] at e
 have e2:vl 10 (xs.take (i+1))*vl 10 ys=vl 10 (xs.take i)*vl 10 ys+10 ^ i*(xs.getD i 0*vl 10 ys):=by
  rw[zaU,Nat.add_mul,zqav]
 rw[<- e2] at e;have a1:=zcv 10 (xs.take (i+1)) (fun d hd=>hx d (zqau hd));have a2:=zcv 10 ys hy;rw[zqan,Nat.min_eq_left (by omega)] at a1
 have a3:vl 10 (xs.take (i+1))*vl 10 ys<10 ^ (i+(ys.length+1)):=by
  have h1:vl 10 (xs.take (i+1))*vl 10 ys<=10 ^ (i+1)*vl 10 ys:=Nat.mul_le_mul_right _ (Nat.le_of_lt a1);have h2:10 ^ (i+1)*vl 10 ys<10 ^ (i+1)*10 ^ ys.length:=Nat.mul_lt_mul_of_pos_left a2 (Nat.pow_pos (by decide));rw[<- Nat.pow_add,show i+1+ys.length=i+(ys.length+1) by omega] at h2;omega
 have:c=0:=by
  rcases Nat.eq_zero_or_pos c with h0|h0;exact h0;have:=zqbd (10 ^ (i+(ys.length+1))) h0;omega
 subst this;omega
def zCL (a b:ByteArray)(w:World)(na:zas a=true)(nb:zas b=true) :
  Calls prog 140 #[.string a,.string b] w (zab (zeV a b) w):=by
 obtain⟨i0,hi,hz0,hz1,hz2⟩:=info_parts zkX;have va:=zaE a w (zbz na);have vb:=zaE b w (zbz nb);rw[na] at va;rw[nb] at vb;have VA:=zHd va;have VB:=zHd vb;have D1:=zHd (fun w=>zdF a w na);have D2:=zHd (fun w=>zdF b w nb);have HV:=zHd (show zeV a b=zex (vl 10 (zee a)*vl 10 (zee b)) by unfold zeV;rw[na,nb,zeW,zeW];rfl);have hx:=zfi a na;have hy:=zfi b nb;have sa:=zcG a na;have sb:=zcG b nb;have la:=zeX a;have lb:=zeX b;clear va vb na nb;generalize zee a=xs at *;generalize zee b=ys at *;have HX:=zHd hx;have HY:=zHd hy;have lx1:1<=xs.length:=by omega
 have lx2:xs.length<=1000:=by omega
 have ly1:1<=ys.length:=by omega
 have ly2:ys.length<=1000:=by omega
 clear hx hy sa sb la lb;go_enter func140,ntmps140;go_wp2_with fail;refine VA.out.mono ?_;rintro e w' ⟨rfl,rfl⟩;go_wp2_with fail;refine VB.out.mono ?_;rintro e w' ⟨rfl,rfl⟩;go_wp2_with fail;refine(D1.out _).mono ?_;rintro e w1 ⟨v1,rfl,hr1,hb1⟩;obtain⟨g1,c1,rfl⟩:=hr1.form;have R1:=zHd hr1;have B1:=zHd hb1;clear hr1 hb1;go_wp2_with fail;refine(D2.out _).mono ?_;rintro e w2 ⟨v2,rfl,hr2,hb2⟩;obtain⟨g2,c2,rfl⟩:=hr2.form;have R1':=zHd (R1.out.below hb2);have R2:=zHd hr2;have B2:=zHd (B1.out.trans (hb2.mono B1.out.size));clear hr2 hb2 R1 B1 VA VB D1 D2;go_wp2_with (at_make;refine wpList_make_full _ rfl _ _ 22 rfl w2.heap.size 3 i0 (.int .i64 0) 1 underlying22 hi hz0 hz1 _ _ _ _ (xs.length+ys.length+1) rfl rfl ?c0 ?c1 ?c2 (by unfold maxLen;omega) (zqab _) ?_)
 case c0=>omega
 case c1=>omega
 case c2=>first|omega|(rw[hz2];omega)
 intro w3 zO hgr;rw[zto] at zO;have HC0:=zHd (zdB.of_full zO);have HG:=zHd hgr;clear zO hgr;go_wp2
 go_loopw [9] (fun i wr=>∃ (k:Nat) (zs:List Nat),i=.int .i64 k/\k<=xs.length/\zjB xs ys k zs/\zdB wr w2.heap.size (iv zs)/\w2.grownBy wr none) (fun i _=>xs.length-(intOf i).toNat)
 case atStart=>exact⟨0,_,rfl,by omega,zjB.start xs ys,HC0.out,HG.out⟩
 case round =>
  obtain⟨k,zs,rfl,hk,zI,hcr,hgr⟩:=hrel;have HINV:=zHd zI;have HCR:=zHd hcr;have HGR:=zHd hgr;clear zI hcr hgr
  by_cases hlt:k<xs.length
  ·generalize wr=w4 at *
   go_wp2
   go_loopw [10,11] (fun cc jj wr=>∃ (j c:Nat) (ws:List Nat),jj=.int .i64 j/\cc=.int .i64 c/\j<=ys.length+1/\zii (vl 10 zs) (xs.length+ys.length+1) (xs.getD k 0) ys k j c ws/\zdB wr w2.heap.size (iv ws)/\w2.grownBy wr none) (fun _ jj _=>ys.length+1-(intOf jj).toNat)
   case atStart=>exact⟨0,0,zs,rfl,rfl,by omega,zii.start HINV.out,HCR.out,HGR.out⟩
   case round =>
    obtain⟨j,c,ws,rfl,rfl,hj,hin,hcr,hgr⟩:=hrel
    by_cases hlj:j<=ys.length
    ·have hwl:=hin.len
     have zE:wr.cell? ⟨w2.heap.size,k+j,none⟩=some (.int .i64 (ws.getD (k+j) 0:Nat)):=(by rw[hcr.cell,zzz _ _ (by omega)]);have hfree:=hcr.free (k+j)
     have hdx:wr.cell? ⟨g1,k,none⟩=some (.int .i64 (xs.getD k 0:Nat)):=by
      rcases R1'.out.1 with⟨_,h0⟩|⟨g,cap,hv,_,hg,hc⟩;exact absurd h0 R1'.out.2;simp only[Value.slice.injEq,Option.some.injEq,Addr.mk.injEq,and_true,true_and] at hv;obtain⟨rfl,_⟩:=hv;have:=hc k hlt;rw[<- this];exact World.cell?_of_block (hgr.block g1 hg (by simp))
     have hat:=fun n=>zme (.slice (some ⟨g2,0,none⟩) ys.length c2) ys j (wr.drewN n) (by
      refine⟨?_,R2.out.2⟩;rcases R2.out.1 with⟨_,h0⟩|⟨g,cap,hv,h0,hg,hc⟩
      exact absurd h0 R2.out.2;exact .inr ⟨g,cap,hv,h0,zqba hg hgr.size,fun q hq=>(World.cell?_of_block (hgr.block g hg (by simp))).trans (hc q hq)⟩) (by omega)
     have hx10:=getD_lt xs HX.out k;have hy10:=getD_lt ys HY.out j;have hw10:=getD_lt ws hin.lt (k+j);have hc9:=hin.carry;have hm81:xs.getD k 0*ys.getD j 0<=9*9:=Nat.mul_le_mul (by omega) (by omega);have zS':=hin.step (by omega) hx10 HY.out;have hset:=hcr.set (k+j) (.int .i64 ((ws.getD (k+j) 0+xs.getD k 0*ys.getD j 0+c)%10:Nat));rw[zGZ] at hset;generalize ws.getD (k+j) 0=p at *;generalize xs.getD k 0=x at *;generalize ys.getD j 0=y at *
     have hmul:IntKind.i64.wrap ((x:Int)*(y:Int))=((x*y:Nat):Int):=by
      rw[<- Int.natCast_mul];exact zQce
     generalize x*y=m at *;rw[show(((p+m+c)%10:Nat):Int)=((p:Int)+m+c)%10 by omega] at hset;have HE2:=zHd (show((p:Int)+m+c)/10=(((p+m+c)/10:Nat):Int) by omega);have HST:=zHd zS';have HSET:=zHd hset;have HGR2:=zHd hgr;have HAT:=zHd hat;clear hin hcr hgr zS' hset hat hwl;have p0:(0:Int)<=(p:Int):=(by omega);have p1:(p:Int)<10:=(by omega);have m0:(0:Int)<=(m:Int):=(by omega);have m1:(m:Int)<=81:=(by omega);have c0:(0:Int)<=(c:Int):=(by omega);have c9:(c:Int)<=9:=(by omega);have i0:(0:Int)<=(k:Int)+(j:Int):=(by omega);have i1:(k:Int)+(j:Int)<((xs.length+ys.length+1:Nat):Int):=(by omega);have i2:(0:Int)<=(k:Int):=(by omega);have i3:(k:Int)<(xs.length:Int):=(by omega);have i4:IntKind.i64.wrap ((k:Int)+(j:Int))=(k:Int)+(j:Int):=IntWalk.i64_in _ ⟨by omega,by omega⟩;clear hx10 hy10 hw10 hc9 hm81;go_wp2
     go_quiet ((go_at_call 159;exact Calls.quiet_of_same ((HAT.out _).mono fun _ _ h=>⟨h.1,h.2.symm⟩)))
     go_wp2
     go_roundw
     case rel=>exact⟨j+1,(p+m+c)/10,_,by go_num,zqbz (Value.int .i64) HE2.out,by omega,HST.out,HSET.out,zae (g:=w2.heap.size) HGR2.out (zaa (zce wr _ nq) (zad (wr.drewN nq) ⟨w2.heap.size,k+j,none⟩ _)) (zqab _)⟩
     case measure=>simp[intOf];omega
    obtain rfl:j=ys.length+1:=by omega
    have HN:=zHd (zii.fin HINV.out hlt hin HX.out HY.out);have HC1:=zHd hcr;have HG1:=zHd hgr;clear hin hcr hgr;go_wp2
    go_roundw
    case rel=>exact⟨k+1,ws,by go_num,by omega,HN.out,HC1.out,HG1.out⟩
    case measure=>simp[intOf];omega
  obtain rfl:k=xs.length:=by omega
  have hne:zs≠[]:=by intro e;have:=HINV.out.len;rw[e] at this;simp at this
  have hl:=HINV.out.len;have HT0:=zjy _ zs wr (HCR.out.digs hne) HINV.out.lt (by omega);rw[hl,HINV.out.val,zqaf (zqab _)] at HT0;have hnd:=zrJ zs HINV.out.lt;rw[HINV.out.val,zqaf (zqab _)] at hnd;have HT:=zHd HT0;have HL:=zHd (fun w=>znV (vl 10 xs*vl 10 ys) w (by omega));clear HT0 hnd hne hl;go_wp2_with fail;refine HT.out.mono ?_;rintro e w5 ⟨rfl,hb3⟩;have BB:=zHd (zaa (zaa (zdE B2.out) (show w2.grownBy wr none from HGR.out) |> fun h=>h) (zdE hb3));clear hb3;go_wp2_with fail;refine(HL.out _).mono ?_;rintro e w' ⟨he,rfl⟩;rcases zrK (vl 10 xs*vl 10 ys) with⟨S,E,hS⟩;have hav:zeV a b=.tuple #[.string S,.int .i64 E]:=by rw[HV.out,hS]
  rw[hS] at he;subst he;have HAV:=zHd hav;clear hav hS;go_wp2;go_ret2;rw[HAV.out];exact⟨rfl,BB.out⟩
def zwS (a b:ByteArray)(w:World)(ha:a.size<=maxLen)(hb:b.size<=maxLen)(na:zas a=false) :
  Calls prog 140 #[.string a,.string b] w (zab (zeV a b) w):=by
 have HV:=zHd (show zeV a b=.tuple #[.string ⟨#[]⟩,.int .i64 1] by unfold zeV;rw[na];rfl);have va:=zaE a w ha;have vb:=zaE b w hb;rw[na] at va;have VA:=zHd va;have VB:=zHd vb;clear va vb ha hb na;go_enter func140,ntmps140;exact zQaS
def zwT (a b:ByteArray)(w:World)(ha:a.size<=maxLen)(hb:b.size<=maxLen)(na:zas a=true)(nb:zas b=false) :
  Calls prog 140 #[.string a,.string b] w (zab (zeV a b) w):=by
 have HV:=zHd (show zeV a b=.tuple #[.string ⟨#[]⟩,.int .i64 1] by unfold zeV;rw[na,nb];rfl);have va:=zaE a w ha;have vb:=zaE b w hb;rw[na] at va;rw[nb] at vb;have VA:=zHd va;have VB:=zHd vb;clear va vb ha hb na nb;go_enter func140,ntmps140;exact zQaC
def zCM (a b:ByteArray)(w:World)(ha:a.size<=maxLen)(hb:b.size<=maxLen) :
  Calls prog 140 #[.string a,.string b] w (zab (zeV a b) w):=by
 cases na:zas a;exact zwS a b w ha hb na;cases nb:zas b;exact zwT a b w ha hb na nb;exact zCL a b w na nb
open Go.RowKit
open Go.Lib (nDigits decDigits)
def zzB (n k:Nat)(hk:1<=k)(h:n<10 ^ k):nDigits n<=k:=by
 rcases Nat.lt_or_ge k (nDigits n) with h1|h1
 ·rcases zgD n k (by omega) with h2|h2
  ·omega
  omega
 exact h1
def zkb (n k:Nat)(hk:1<=k)(hk2:k<=1000)(h:n<10 ^ k):zas (zal n)=true:=by
 rw[zqB];have:=zzB n k hk h;exact decide_eq_true (by omega)
def ztp {w w':World}{base:Nat}{e:TypeId}{v:Value}{n:Nat}{xs:List Value}(h:w.ownsRow base e 1 v n xs)(hb:Below w.heap.size w w'):w'.ownsRow base e 1 v n xs:=by
 obtain⟨h1,h2⟩:=h;refine⟨h1,?_⟩;rcases h2 with h2|⟨g,cap,cur,a,b,c,d⟩;exact .inl h2;exact .inr ⟨g,cap,cur,a,b,(hb.block g (zqad.1 c).1).trans c,d⟩
def pre (a:ByteArray)(k:Nat):Nat:=zdn (a.data.toList.take k)
def ztq (a:ByteArray)(k:Nat)(h:k<a.size):pre a (k+1)=pre a k*10+(a[k].toNat-48):=by
 unfold pre;rw[zkS a k h,zfp]
def zzC (a:ByteArray)(na:zas a=true)(k:Nat)(hk:k<=a.size):pre a k<10 ^ k:=by
 unfold pre;rw[<- zvU]
 have h:=zcv 10 (dgs (a.data.toList.take k)) (fun d hd=>by
  unfold dgs at hd;obtain⟨c,hc,rfl⟩:=zqbf.1 hd;rw[List.mem_reverse] at hc;have hc:=zqau hc;exact zfi a na _ (by unfold zee dgs;exact zqbf.2 ⟨c,List.mem_reverse.2 hc,rfl⟩))
 have e:(dgs (a.data.toList.take k)).length=k:=by simp[dgs];omega
 rw[e] at h;exact h
def zFG (a:ByteArray):pre a a.size=nv a:=by
 unfold pre nv;rw[zqaf (by simp)]
def zzD (a:ByteArray)(na:zas a=true)(k:Nat)(h:k<a.size):a.extract k (k+1)=zal (a[k].toNat-48):=by
 have hd:=zkE a na k h;apply ByteArray.ext;rw[ByteArray.data_extract];apply Array.toList_inj.1;rw[Array.toList_extract];unfold zal;rw[Lib.decDigits_one (by omega)];simp only[List.extract_eq_take_drop];rw[List.drop_eq_getElem_cons (by simpa using h),show k+1-k=1 by omega,List.take_succ_cons,List.take_zero];congr 1;apply UInt8.toNat_inj.1;rw[UInt8.toNat_ofNat'];have:a.data.toList[k]'(by simpa using h)=a[k]:=rfl;rw[this];omega
def zCN (R x:Nat)(h0:R≠0)(hx:x<10):zal R++zal x=zal (R*10+x):=by
 apply ByteArray.ext;rw[ByteArray.data_append];unfold zal;rw[Lib.decDigits_one hx]
 conv=>rhs;rw[decDigits,dif_neg (by omega)]
 rw[show(R*10+x)/10=R by omega,show(R*10+x)%10=x by omega];simp
structure zoy (a:ByteArray)(B k R:Nat)(S:ByteArray)(acc:List UInt8):Prop where
 text:S=zal R
 rest:R=pre a k%B
 len:acc.length=k
 dig:acc.all zdo=true
 quo:zdn acc=pre a k/B
def zoy.start (a:ByteArray)(B:Nat):zoy a B 0 0 ⟨#[48]⟩ []:=⟨zot.symm,by simp[pre,zdn],rfl,rfl,by simp[pre,zdn]⟩
def zoy.step {a:ByteArray}{B k R:Nat}{S:ByteArray}{acc:List UInt8}(h:zoy a B k R S acc)(hk:k<a.size)(hB:0<B){t M:Nat}(hN:R*10+(a[k].toNat-48)=t*B+M)(hM:M<B)(ht:t<10) :
  zoy a B (k+1) M (zal M) (acc++[UInt8.ofNat (48+t)]):=by
 have e0:=zqbt (pre a k) B;rw[<- h.rest,<- h.quo] at e0
 have e1:pre a (k+1)=B*(zdn acc*10+t)+M:=by
  rw[ztq a k hk,<- e0,zqbh,zqbc B t,<- zqav];rw[Nat.add_mul];omega
 refine⟨rfl,?_,by rw[zqag,h.len];rfl,?_,?_⟩;rw[e1,Nat.mul_add_mod,Nat.mod_eq_of_lt hM]
 ·rw[List.all_append,h.dig]
  simp[zdo];omega
 rw[zfp,e1,Nat.mul_add_div hB,Nat.div_eq_of_lt hM,UInt8.toNat_ofNat'];omega
def ztr (acc:List UInt8)(j:Nat)(hj:j<acc.length)(hd:acc.all zdo=true)(hv:zdn (acc.drop j)=zdn acc)(hz:j+1=acc.length∨(acc.drop j).headD 0≠48):(⟨(acc.drop j).toArray⟩:ByteArray)=zal (zdn acc):=by
 unfold zal
 rw[<- hv,zsI (acc.drop j) (by intro e;have:=zqbz List.length e;simp at this;omega) (by
  rw[List.all_eq_true] at hd ⊢;exact fun c hc=>hd c (List.mem_of_mem_drop hc)) (by
  rcases hz with hz|hz;left;rw[List.length_drop];omega;exact .inr hz)]
def zzE (c:UInt8):∀ (l:List UInt8),zdn (c::l)=(c.toNat-48)*10 ^ l.length+zdn l:=by
 intro l
 induction h:l.length generalizing l with
 | zero=>rw[List.length_eq_zero_iff.1 h];simp[zdn]
 | succ n ih =>
  obtain⟨l',x,rfl⟩:∃ l' x,l=l'++[x]:=⟨l.dropLast,l.getLast (by intro e;rw[e] at h;simp at h),(List.dropLast_concat_getLast _).symm⟩;have h':l'.length=n:=by simp at h;exact h
  rw[<- List.cons_append,zfp,zfp,ih l' h',zqbp,Nat.add_mul,zqav];omega
def zqL (acc:List UInt8)(j:Nat)(hj:j<acc.length)(h:acc[j]=48):zdn (acc.drop (j+1))=zdn (acc.drop j):=by
 rw[List.drop_eq_getElem_cons hj,zzE,h];simp
def zCO (a b:ByteArray)(w:World)(na:zas a=true)(nb:zas b=true)(hb0:nv b≠0) :
  Calls prog 144 #[.string a,.string b] w (zab (zdK a b) w):=by
 obtain⟨i0,hi,hz0,hz1,hz2⟩:=info_parts zrI;have va:=zaE a w (zbz na);have vb:=zaE b w (zbz nb);rw[na] at va;rw[nb] at vb;have VA:=zHd va;have VB:=zHd vb;have hsz:=zcG a na;have HV:=zHd (show zdK a b=.tuple #[.string (zal (nv a/nv b)),.string (zal (nv a%nv b)),.int .i64 0] by unfold zdK;rw[na,nb];simp only[Bool.and_self,if_true];rw[if_neg hb0]);have fb:(b.toList==[48])=false:=by rw[(zeL b nb).1];simp[hb0]
 have NA:=zHd na;have NB:=zHd nb;have HB0:=zHd (show 0<nv b by omega);obtain⟨hs1,hs2⟩:=hsz;clear va vb na nb hb0;go_enter func144,ntmps144;go_wp2_with fail;refine VA.out.mono ?_;rintro e w' ⟨rfl,rfl⟩;go_wp2_with fail;refine VB.out.mono ?_;rintro e w' ⟨rfl,rfl⟩;go_wp2
 go_loopw [7,8,9] (fun q r i wr=>∃ (k R:Nat) (S:ByteArray) (acc:List UInt8),i=.int .i64 k/\k<=a.size/\r=.string S/\zoy a (nv b) k R S acc/\wr.ownsRow w.heap.size 5 1 q acc.length (Lib.byteCells acc)/\Below w.heap.size w wr) (fun _ _ i _=>a.size-(intOf i).toNat)
 case atStart=>exact⟨0,0,_,[],rfl,by omega,rfl,zoy.start a (nv b),World.ownsRow_nil _ _ _ _,Below.refl _ _⟩
 case round =>
  obtain⟨k,R,S,acc,rfl,hk,rfl,zI,zO,hb⟩:=hrel;have HINV:=zHd zI;have HOWN:=zHd zO;have HBL:=zHd hb;have hal:acc.length=k:=zI.len;have hST:=zI.text;have hRlt:=zzC a NA.out k hk;have hRle:R<=pre a k:=by rw[zI.rest];exact Nat.mod_le _ _
  have hRB:R<nv b:=by rw[zI.rest];exact Nat.mod_lt _ HB0.out
  clear zI zO hb
  by_cases hlt:k<a.size
  ·have hpn:=zzC a NA.out (k+1) (by omega)
   rw[ztq a k hlt] at hpn;have hdg:=zkE a NA.out k hlt;have E1:=zzD a NA.out k hlt;obtain⟨x,hx⟩:∃ x,a[k].toNat-48=x:=⟨_,rfl⟩;have hx10:x<10:=by omega
   rw[hx] at E1 hpn;have hN1000:R*10+x<10 ^ (k+1):=by omega
   have nS:zas S=true:=by
    rw[hST];exact zkb R (k+1) (by omega) (by omega) (by omega)
   have sz:S.size<=1000:=(zcG S nS).2;have sf:=zeL S nS;have HX:=zHd hx;have hNB:R*10+x<10*nv b:=by omega
   obtain⟨E,hE⟩:∃ E,a.extract k (k+1)=E:=⟨_,rfl⟩
   by_cases hR0:R=0
   ·have f1:(S.toList==[48])=true:=by rw[sf.1,hST,zbc];simp[hR0]
    have HT:=zHd (show a.extract k (k+1)=zal (R*10+x) by rw[E1,hR0];simp);have h1:=zHd hN1000;have h2:=zHd hNB;clear sf hST E1 hpn hRlt hRle nS hN1000 hNB hR0 hdg hRB hx10 hE;generalize wr=wv at *;go_wp2
    go_loopw [8,10] (fun r d wr=>∃ (t M:Nat) (T:ByteArray),r=.string T/\T=zal M/\R*10+x=t*nv b+M/\d=.int .u8 (48+(t:Int))/\t<=9/\Below wv.heap.size wv wr) (fun r _ _=>match r with | .string s=>nv s|_=>0)
    case atStart=>exact⟨0,R*10+x,_,rfl,HT.out,by omega,rfl,by omega,Below.refl _ _⟩
    case round =>
     obtain⟨t,M,T,rfl,hT,hN,rfl,ht9,hbw⟩:=hrel
     have nT:zas T=true:=by
      exact zQbM
     have rc:=zhs T b wr nT NB.out;have hM:nv T=M:=(by rw[hT,zbc]);rw[hM] at rc;have HTT:=zHd hT;have HN:=zHd hN;have HBW:=zHd hbw;have HM:=zHd hM;have HT9:=zHd ht9;have t0:(0:Int)<=(t:Int):=(by omega);have t9:(t:Int)<=9:=by omega
     by_cases hge:nv b<=M
     ·obtain⟨d,hd,hd0⟩:∃ d:Int,zcf M (nv b)=d/\0<=d:=⟨_,rfl,by have:=zfH M (nv b);omega⟩
      have ht8:t+1<=9:=by
       have hh:=h2.out;rcases Nat.lt_or_ge t 9 with h9|h9
       omega;obtain rfl:t=9:=by omega
       omega
      have HT8:=zHd ht8;rw[hd] at rc;have RC:=zHd rc;have D1:=zHd (fun w=>zdF T w nT);have D2:=zHd (fun w=>zdF b w NB.out);have hx1:=zfi T nT;have hy1:=zfi b NB.out;have l1:=zeX T;have l2:=zeX b;have s1:=zcG T nT;have s2:=zcG b NB.out;have v1:=zeW T;have v2:=zeW b;rw[hM] at v1;have HGE:=zHd hge;clear rc hd nT hM hT hN hbw hge ht8 ht9;generalize zee T=us at *;generalize zee b=ys at *;have hle:vl 10 ys<=vl 10 us:=(by rw[v1,v2];exact HGE.out);have lu:us.length<=1000:=(by omega);have ly:ys.length<=1000:=(by omega);have HX1:=zHd hx1;have HY1:=zHd hy1;have HLE:=zHd hle;have V1:=zHd v1;have V2:=zHd v2;clear hx1 hy1 hle v1 v2 s1 s2 l1 l2;go_wp2_with fail;refine RC.out.mono ?_;rintro e w1 ⟨rfl,hg⟩;have hb1:=HBW.out.trans ((below_grown hg (zqab _) (by simp)).mono HBW.out.size);have BB1:=zHd hb1;clear hg hb1;go_wp2_with fail;refine(D1.out _).mono ?_;rintro e w2 ⟨v1,rfl,hr1,hb2⟩;have R1:=zHd hr1;have BB2:=zHd (BB1.out.trans (hb2.mono BB1.out.size));clear hr1 hb2;go_wp2_with fail;refine(D2.out _).mono ?_;rintro e w3 ⟨v2,rfl,hr2,hb3⟩;have R1':=zHd (R1.out.below hb3);have R2:=zHd hr2;have BB3:=zHd (BB2.out.trans (hb3.mono BB2.out.size));clear hr2 hb3;go_wp2_with fail;refine(zou v1 v2 us ys w3 R1'.out R2.out HX1.out HY1.out (by omega) (by omega) HLE.out).mono ?_;rintro e w4 ⟨v3,zs,rfl,hr3,hz,zV,zN,hb4⟩;have BB4:=zHd (BB3.out.trans (hb4.mono BB3.out.size));have hTx:=zjy v3 zs w4 hr3.1 hz (by omega);rw[zV,V1.out,V2.out] at hTx;have HTX:=zHd hTx;clear hr3 hz zV zN hb4 hTx;go_wp2_with fail;refine HTX.out.mono ?_;rintro e w5 ⟨rfl,hb5⟩;have BB5:=zHd (BB4.out.trans (hb5.mono BB4.out.size));clear hb5;have HNV:=zHd (zbc (M-nv b));obtain⟨T2,hT2⟩:∃ T2,zal (M-nv b)=T2:=⟨_,rfl⟩;have HT2:=zHd hT2;rw[hT2];clear hT2;go_wp2
      go_roundw
      case rel=>exact⟨t+1,M-nv b,T2,rfl,HT2.out.symm,by have:=HN.out;have:=HGE.out;rw[Nat.add_mul];omega,by go_num,HT8.out,BB5.out⟩
      case measure =>
       exact zQbQ
     obtain⟨d,hd,hd0⟩:∃ d:Int,zcf M (nv b)=d/\d<0:=⟨_,rfl,by have:=zfH M (nv b);omega⟩;rw[hd] at rc;have RC:=zHd rc;have hNs:=hN;rw[<- HX.out] at hNs;have HSTEP:=zHd (HINV.out.step hlt HB0.out hNs (by omega) (by omega));have HCC:=zHd (show Lib.byteCells [UInt8.ofNat (48+t)]=[Value.int .u8 (48+(t:Int))] from zjX t (by omega));have hb1:acc.length+1<=1000000:=(by omega);have HAL:=zHd hal;clear rc hd nT hM hT hN hNs hbw hge ht9 hal;go_wp2_with fail;refine RC.out.mono ?_;rintro e w1 ⟨rfl,hg⟩;have hbA:=HBW.out.trans ((below_grown hg (zqab _) (by simp)).mono HBW.out.size);have zO:=ztp HOWN.out hbA;have hb:=HBL.out.trans (hbA.mono HBL.out.size);have HBA:=zHd hb;have hbs:=hb.size;clear hg hbA hb;go_wp2_with (at_builtin;refine wpList_append_own _ rfl _ _ 166 rfl w.heap.size 5 i0 (.int .u8 0) 1 1 underlying166 hi hz0 hz1 hz2 rfl (by decide) _ _ _ rfl (zO.alloc _) ⟨w1.heap.size,0,none⟩ 1 1 [.int .u8 (48+(t:Int))] rfl rfl ?c1 ?c2 ?c3 ?c4 ?c5 ?_)
     case c1=>exact zgp _ _ _
     case c2=>intro u hu;simp at hu;subst hu;rfl
     case c3=>unfold maxLen;omega
     case c4=>omega
     case c5=>simp;omega
     intro v' w2 zo zG _;have HB2:=zHd (zeM HBA.out _ (fun g e=>(zO.lt g e).1) zG);have HO:=zHd zo;clear zO zo zG;go_wp2
     go_roundw
     case rel=>exact⟨k+1,M,T,acc++[UInt8.ofNat (48+t)],by go_num,by omega,rfl,by rw[HTT.out];exact HSTEP.out,by
      rw[zqag,Lib.byteCells_append,HCC.out];exact HO.out,HB2.out⟩
     case measure=>simp[intOf];omega
   have f1:(S.toList==[48])=false:=by rw[sf.1,hST,zbc];simp[hR0]
   have HT:=zHd (show S++a.extract k (k+1)=zal (R*10+x) by rw[E1,hST,zCN R x hR0 hx10]);have hez:(a.extract k (k+1)).size<=1000:=(by rw[E1];exact(zcG _ (zkb x (k+1) (by omega) (by omega) (by have:=zqay (n:=10) (by decide) (show 1<=k+1 by omega);omega))).2);have hcz:S.size+(a.extract k (k+1)).size<=9223372036854775807:=(by omega);have h1:=zHd hN1000;have h2:=zHd hNB;clear sf hST E1 hpn hRlt hRle nS hN1000 hNB hR0 hdg hRB hx10 hE;generalize wr=wv at *;go_wp2
   go_loopw [8,10] (fun r d wr=>∃ (t M:Nat) (T:ByteArray),r=.string T/\T=zal M/\R*10+x=t*nv b+M/\d=.int .u8 (48+(t:Int))/\t<=9/\Below wv.heap.size wv wr) (fun r _ _=>match r with | .string s=>nv s|_=>0)
   case atStart=>exact⟨0,R*10+x,_,rfl,HT.out,by omega,rfl,by omega,Below.refl _ _⟩
   case round =>
    obtain⟨t,M,T,rfl,hT,hN,rfl,ht9,hbw⟩:=hrel
    have nT:zas T=true:=by
     exact zQbM
    have rc:=zhs T b wr nT NB.out;have hM:nv T=M:=(by rw[hT,zbc]);rw[hM] at rc;have HTT:=zHd hT;have HN:=zHd hN;have HBW:=zHd hbw;have HM:=zHd hM;have HT9:=zHd ht9;have t0:(0:Int)<=(t:Int):=(by omega);have t9:(t:Int)<=9:=by omega
    by_cases hge:nv b<=M
    ·obtain⟨d,hd,hd0⟩:∃ d:Int,zcf M (nv b)=d/\0<=d:=⟨_,rfl,by have:=zfH M (nv b);omega⟩
     have ht8:t+1<=9:=by
      have hh:=h2.out;rcases Nat.lt_or_ge t 9 with h9|h9
      omega;obtain rfl:t=9:=by omega
      omega
     have HT8:=zHd ht8;rw[hd] at rc;have RC:=zHd rc;have D1:=zHd (fun w=>zdF T w nT);have D2:=zHd (fun w=>zdF b w NB.out);have hx1:=zfi T nT;have hy1:=zfi b NB.out;have l1:=zeX T;have l2:=zeX b;have s1:=zcG T nT;have s2:=zcG b NB.out;have v1:=zeW T;have v2:=zeW b;rw[hM] at v1;have HGE:=zHd hge;clear rc hd nT hM hT hN hbw hge ht8 ht9;generalize zee T=us at *;generalize zee b=ys at *;have hle:vl 10 ys<=vl 10 us:=(by rw[v1,v2];exact HGE.out);have lu:us.length<=1000:=(by omega);have ly:ys.length<=1000:=(by omega);have HX1:=zHd hx1;have HY1:=zHd hy1;have HLE:=zHd hle;have V1:=zHd v1;have V2:=zHd v2;clear hx1 hy1 hle v1 v2 s1 s2 l1 l2;go_wp2_with fail;refine RC.out.mono ?_;rintro e w1 ⟨rfl,hg⟩;have hb1:=HBW.out.trans ((below_grown hg (zqab _) (by simp)).mono HBW.out.size);have BB1:=zHd hb1;clear hg hb1;go_wp2_with fail;refine(D1.out _).mono ?_;rintro e w2 ⟨v1,rfl,hr1,hb2⟩;have R1:=zHd hr1;have BB2:=zHd (BB1.out.trans (hb2.mono BB1.out.size));clear hr1 hb2;go_wp2_with fail;refine(D2.out _).mono ?_;rintro e w3 ⟨v2,rfl,hr2,hb3⟩;have R1':=zHd (R1.out.below hb3);have R2:=zHd hr2;have BB3:=zHd (BB2.out.trans (hb3.mono BB2.out.size));clear hr2 hb3;go_wp2_with fail;refine(zou v1 v2 us ys w3 R1'.out R2.out HX1.out HY1.out (by omega) (by omega) HLE.out).mono ?_;rintro e w4 ⟨v3,zs,rfl,hr3,hz,zV,zN,hb4⟩;have BB4:=zHd (BB3.out.trans (hb4.mono BB3.out.size));have hTx:=zjy v3 zs w4 hr3.1 hz (by omega);rw[zV,V1.out,V2.out] at hTx;have HTX:=zHd hTx;clear hr3 hz zV zN hb4 hTx;go_wp2_with fail;refine HTX.out.mono ?_;rintro e w5 ⟨rfl,hb5⟩;have BB5:=zHd (BB4.out.trans (hb5.mono BB4.out.size));clear hb5;have HNV:=zHd (zbc (M-nv b));obtain⟨T2,hT2⟩:∃ T2,zal (M-nv b)=T2:=⟨_,rfl⟩;have HT2:=zHd hT2;rw[hT2];clear hT2;go_wp2
     go_roundw
     case rel=>exact⟨t+1,M-nv b,T2,rfl,HT2.out.symm,by have:=HN.out;have:=HGE.out;rw[Nat.add_mul];omega,by go_num,HT8.out,BB5.out⟩
     case measure =>
      exact zQbQ
    obtain⟨d,hd,hd0⟩:∃ d:Int,zcf M (nv b)=d/\d<0:=⟨_,rfl,by have:=zfH M (nv b);omega⟩;rw[hd] at rc;have RC:=zHd rc;have hNs:=hN;rw[<- HX.out] at hNs;have HSTEP:=zHd (HINV.out.step hlt HB0.out hNs (by omega) (by omega));have HCC:=zHd (show Lib.byteCells [UInt8.ofNat (48+t)]=[Value.int .u8 (48+(t:Int))] from zjX t (by omega));have hb1:acc.length+1<=1000000:=(by omega);have HAL:=zHd hal;clear rc hd nT hM hT hN hNs hbw hge ht9 hal;go_wp2_with fail;refine RC.out.mono ?_;rintro e w1 ⟨rfl,hg⟩;have hbA:=HBW.out.trans ((below_grown hg (zqab _) (by simp)).mono HBW.out.size);have zO:=ztp HOWN.out hbA;have hb:=HBL.out.trans (hbA.mono HBL.out.size);have HBA:=zHd hb;have hbs:=hb.size;clear hg hbA hb;go_wp2_with (at_builtin;refine wpList_append_own _ rfl _ _ 166 rfl w.heap.size 5 i0 (.int .u8 0) 1 1 underlying166 hi hz0 hz1 hz2 rfl (by decide) _ _ _ rfl (zO.alloc _) ⟨w1.heap.size,0,none⟩ 1 1 [.int .u8 (48+(t:Int))] rfl rfl ?c1 ?c2 ?c3 ?c4 ?c5 ?_)
    case c1=>exact zgp _ _ _
    case c2=>intro u hu;simp at hu;subst hu;rfl
    case c3=>unfold maxLen;omega
    case c4=>omega
    case c5=>simp;omega
    intro v' w2 zo zG _;have HB2:=zHd (zeM HBA.out _ (fun g e=>(zO.lt g e).1) zG);have HO:=zHd zo;clear zO zo zG;go_wp2
    go_roundw
    case rel=>exact⟨k+1,M,T,acc++[UInt8.ofNat (48+t)],by go_num,by omega,rfl,by rw[HTT.out];exact HSTEP.out,by
     rw[zqag,Lib.byteCells_append,HCC.out];exact HO.out,HB2.out⟩
    case measure=>simp[intOf];omega
  obtain rfl:k=a.size:=by omega
  have hq:=HINV.out.quo;have hr:=HINV.out.rest;rw[zFG] at hq hr;have HQ:=zHd hq;have HR:=zHd hr;rcases HOWN.out.2 with⟨_,h0⟩|⟨g,cap,cur,hv,hgb,hgg,hcap,hcm,_,_⟩
  omega;subst hv;have zO:=HOWN.out
  have ze:∀ j (hj:j<acc.length),wr.cell? ⟨g,j,none⟩=some (.int .u8 (acc[j].toNat:Int)):=fun j hj=>by
   have:=zO.cells (g:=g) rfl j (.int .u8 (acc[j].toNat:Int)) (by unfold Lib.byteCells;rw[zqaj,zqac hj];rfl);rw[addr_add] at this;exact this
  have HC:=zHd ze
  have hcv:=fun j (hj:j<acc.length)=>run_convert_bytes_back (P:=prog) wr 166 9 5 ⟨g,j,none⟩ (cap-j) (acc.drop j) underlying166 underlying5 underlying9 (fun i hi=>by
   have e:(⟨g,j,none⟩:Addr).add i=⟨g,j+i,none⟩:=(by unfold Addr.add;split <;> simp_all);rw[List.length_drop] at hi;rw[e,ze (j+i) (by omega)];rw[List.getElem_drop])
  have HCV:=zHd hcv;have HAL:=zHd hal;have hl1:1<=acc.length:=by omega
  have hl2:acc.length<=1000:=by omega
  unfold maxLen at hcm;have HCM:=zHd hcm;clear zO ze hcv hq hr hgg hal hST hRlt hRle hRB hcm hlt hk;generalize wr=w1 at *;go_wp2
  go_loop [11] (fun i=>∃ j:Nat,i=.int .i64 j/\j+1<=acc.length/\zdn (acc.drop j)=zdn acc) (fun i=>acc.length-(intOf i).toNat)
  case atStart=>exact⟨0,rfl,by omega,rfl⟩
  case round =>
   obtain⟨j,rfl,hj,hdv⟩:=hrel;have HDV:=zHd hdv;clear hdv;have hjl:j<acc.length:=(by omega);have zE:=HC.out j hjl;have hcvj:=HCV.out j hjl;rw[List.length_drop] at hcvj;have hw:IntKind.i64.wrap ((acc.length:Int)-1)=(acc.length:Int)-1:=IntWalk.i64_in _ ⟨by omega,by omega⟩;have k0:(0:Int)<=(j:Int):=(by omega);have k1:(j:Int)<(acc.length:Int):=(by omega);have k2:(j:Int)<=(acc.length:Int):=(by omega);have k3:¬ (cap=j):=(by omega);have k4:¬ (cap-j=0):=by omega
   by_cases hgo:(j:Int)<(acc.length:Int)-1
   ·by_cases hz:acc[j]=48
    ·have f1:((acc[j].toNat:Int)==48)=true:=by rw[hz];rfl
     have HD:=zHd (zqL acc j hjl hz);clear hz hcvj;go_wp2;go_round
     case rel=>exact⟨j+1,by go_num,by omega,by rw[HD.out,HDV.out]⟩
     case measure=>simp[intOf];omega
    have f1:((acc[j].toNat:Int)==48)=false:=by
     rw[beq_eq_false_iff_ne];intro e;exact hz (UInt8.toNat_inj.1 (show acc[j].toNat=(48:UInt8).toNat by have:(48:UInt8).toNat=48:=rfl;omega))
    have HT:=zHd (ztr acc j hjl HINV.out.dig HDV.out (.inr (by
     rw[List.drop_eq_getElem_cons hjl];exact hz)))
    clear hz;go_wp2
    go_ret3
    exact zQcc
   have HT:=zHd (ztr acc j hjl HINV.out.dig HDV.out (.inl (by omega)));go_wp2
   go_ret3
   exact zQcc
open Go.RowKit
open Go.Lib (nDigits decDigits)
def zwU (a b:ByteArray)(w:World)(ha:a.size<=maxLen)(hb:b.size<=maxLen)(na:zas a=false) :
  Calls prog 144 #[.string a,.string b] w (zab (zdK a b) w):=by
 have HV:=zHd (show zdK a b=.tuple #[.string ⟨#[]⟩,.string ⟨#[]⟩,.int .i64 1] by unfold zdK;rw[na];rfl);have va:=zaE a w ha;have vb:=zaE b w hb;rw[na] at va;have VA:=zHd va;have VB:=zHd vb;clear va vb ha hb na;go_enter func144,ntmps144;go_wp2_with fail;refine VA.out.mono ?_;rintro e w' ⟨rfl,rfl⟩;go_wp2
 go_ret3
 rw[HV.out];exact⟨rfl,zai _ _⟩
def zwV (a b:ByteArray)(w:World)(ha:a.size<=maxLen)(hb:b.size<=maxLen)(na:zas a=true)(nb:zas b=false) :
  Calls prog 144 #[.string a,.string b] w (zab (zdK a b) w):=by
 have HV:=zHd (show zdK a b=.tuple #[.string ⟨#[]⟩,.string ⟨#[]⟩,.int .i64 1] by unfold zdK;rw[na,nb];rfl);have va:=zaE a w ha;have vb:=zaE b w hb;rw[na] at va;rw[nb] at vb;have VA:=zHd va;have VB:=zHd vb;clear va vb ha hb na nb;go_enter func144,ntmps144;go_wp2_with fail;refine VA.out.mono ?_;rintro e w' ⟨rfl,rfl⟩;go_wp2_with fail;refine VB.out.mono ?_;rintro e w' ⟨rfl,rfl⟩;go_wp2
 go_ret3
 rw[HV.out];exact⟨rfl,zai _ _⟩
def zzF (a b:ByteArray)(w:World)(na:zas a=true)(nb:zas b=true)(h0:nv b=0) :
  Calls prog 144 #[.string a,.string b] w (zab (zdK a b) w):=by
 have HV:=zHd (show zdK a b=.tuple #[.string ⟨#[]⟩,.string ⟨#[]⟩,.int .i64 4] by unfold zdK;rw[na,nb];simp only[Bool.and_self,if_true];rw[if_pos h0]);have va:=zaE a w (zbz na);have vb:=zaE b w (zbz nb);rw[na] at va;rw[nb] at vb;have VA:=zHd va;have VB:=zHd vb;have fb:(b.toList==[48])=true:=by rw[(zeL b nb).1];simp[h0]
 clear va vb na nb h0;go_enter func144,ntmps144;go_wp2_with fail;refine VA.out.mono ?_;rintro e w' ⟨rfl,rfl⟩;go_wp2_with fail;refine VB.out.mono ?_;rintro e w' ⟨rfl,rfl⟩;go_wp2
 go_ret3
 rw[HV.out];exact⟨rfl,zai _ _⟩
def zts (a b:ByteArray)(w:World)(ha:a.size<=maxLen)(hb:b.size<=maxLen) :
  Calls prog 144 #[.string a,.string b] w (zab (zdK a b) w):=by
 cases na:zas a;exact zwU a b w ha hb na;cases nb:zas b;exact zwV a b w ha hb na nb
 by_cases h0:nv b=0
 exact zzF a b w na nb h0;exact zCO a b w na nb h0
def zwW (a b:ByteArray)(w:World)(ha:a.size<=maxLen)(hb:b.size<=maxLen)(na:zas a=false) :
  Calls prog 136 #[.string a,.string b] w (zab (zfh a b) w):=by
 have HV:=zHd (show zfh a b=.tuple #[.string ⟨#[]⟩,.int .i64 1] by unfold zfh;rw[na];rfl);have va:=zaE a w ha;have vb:=zaE b w hb;rw[na] at va;have VA:=zHd va;have VB:=zHd vb;clear va vb ha hb na;go_enter func136,ntmps136;exact zQaS
def zwX (a b:ByteArray)(w:World)(ha:a.size<=maxLen)(hb:b.size<=maxLen)(na:zas a=true)(nb:zas b=false) :
  Calls prog 136 #[.string a,.string b] w (zab (zfh a b) w):=by
 have HV:=zHd (show zfh a b=.tuple #[.string ⟨#[]⟩,.int .i64 1] by unfold zfh;rw[na,nb];rfl);have va:=zaE a w ha;have vb:=zaE b w hb;rw[na] at va;rw[nb] at vb;have VA:=zHd va;have VB:=zHd vb;clear va vb ha hb na nb;go_enter func136,ntmps136;exact zQaC
def zCP (a b:ByteArray)(w:World)(na:zas a=true)(nb:zas b=true) :
  Calls prog 136 #[.string a,.string b] w (zab (zfh a b) w):=by
 have va:=zaE a w (zbz na);have vb:=zaE b w (zbz nb);rw[na] at va;rw[nb] at vb;have VA:=zHd va;have VB:=zHd vb;have HV:=zHd (show zfh a b=.tuple #[.string (zal (Nat.gcd (nv a) (nv b))),.int .i64 0] by unfold zfh;rw[na,nb];simp only[Bool.and_self,if_true]);have NA:=zHd na;have NB:=zHd nb;obtain⟨G,hG⟩:∃ G,Nat.gcd (nv a) (nv b)=G:=⟨_,rfl⟩;rw[hG] at HV;have HG:=zHd hG;clear va vb na nb hG;go_enter func136,ntmps136;go_wp2_with fail;refine VA.out.mono ?_;rintro e w' ⟨rfl,rfl⟩;go_wp2_with fail;refine VB.out.mono ?_;rintro e w' ⟨rfl,rfl⟩;go_wp2
 go_loopg [0,1] (nv b) (fun n x y wr=>∃ S T:ByteArray,x=.string S/\y=.string T/\zas S=true/\zas T=true/\Nat.gcd (nv S) (nv T)=G/\w.grownBy wr none/\nv T=n)
 case atStart=>exact⟨a,b,rfl,rfl,NA.out,NB.out,HG.out,zai _ _,rfl⟩
 case round =>
  obtain⟨S,T,rfl,rfl,nS,nT,hg,hgr,hn⟩:=hrel;have sf:=zeL T nT
  by_cases h0:nv T=0
  ·have f1:(T.toList==[48])=true:=by rw[sf.1];simp[h0]
   have f2:(T.toList != [48])=false:=by rw[sf.2];simp[h0]
   have HS:=zHd (show S=zal G by rw[<- hg,h0,Nat.gcd_zero_right];exact(zcE S nS).1);have HGR:=zHd hgr;clear sf nS nT hg hgr hn h0;go_wp2;go_ret2;rw[HV.out,<- HS.out];exact⟨rfl,HGR.out⟩
  have f1:(T.toList==[48])=false:=by rw[sf.1];simp[h0]
  have f2:(T.toList != [48])=true:=by rw[sf.2];simp[h0]
  have nQ:zas (zal (nv S/nv T))=true:=zzf S nS (Nat.div_le_self _ _);have nR:zas (zal (nv S%nv T))=true:=zzf S nS (Nat.mod_le _ _);have hd:=zts S T wr (zbz nS) (zbz nT);rw[zCl S T (zal (nv S/nv T)) (zal (nv S%nv T)) nS nT nQ nR h0 (zbc _) (zbc _)] at hd;have vR:=zbc (nv S%nv T);have hgg:Nat.gcd (nv T) (nv (zal (nv S%nv T)))=G:=by rw[vR,<- hg,Nat.gcd_comm (nv S),Nat.gcd_rec (nv T) (nv S),Nat.gcd_comm]
  have hlt:nv (zal (nv S%nv T))<nv T:=by rw[vR];exact Nat.mod_lt _ (by omega)
  generalize zal (nv S/nv T)=Q at *;generalize zal (nv S%nv T)=R at *;have HN:=zHd hn;have HD:=zHd hd;have HNT:=zHd nT;have HNR:=zHd nR;have HGG:=zHd hgg;have HLT:=zHd hlt;have HGR:=zHd hgr;clear sf nS nT hg hgr hn h0 nQ nR hd vR hgg hlt;go_wp2_with fail;refine HD.out.mono ?_;rintro e w1 ⟨rfl,hg1⟩;have HG1:=zHd (zaa HGR.out hg1);clear hg1;go_wp2
  go_roundg (nv R)
  case measure=>rw[<- HN.out];exact HLT.out
  case rel=>exact⟨T,R,rfl,rfl,HNT.out,HNR.out,HGG.out,HG1.out,rfl⟩
def zCQ (a b:ByteArray)(w:World)(ha:a.size<=maxLen)(hb:b.size<=maxLen) :
  Calls prog 136 #[.string a,.string b] w (zab (zfh a b) w):=by
 cases na:zas a;exact zwW a b w ha hb na;cases nb:zas b;exact zwX a b w ha hb na nb;exact zCP a b w na nb
open Go.RowKit
open Go.Lib (nDigits decDigits)
def zcU:ByteArray:=⟨#[105,110,102]⟩
def zhw:ByteArray:=⟨#[45,105,110,102]⟩
def zcD:ByteArray:=⟨#[48]⟩
def zle:ByteArray:=⟨#[49]⟩
abbrev Ext:=Sum Bool Rat
def IsE (a:ByteArray):Ext->Prop
 | .inl true=>a=zcU
 | .inl false=>a=zhw
 | .inr x=>zaM a x
def zdm:Ext->Value
 | .inl true=>.tuple #[.string zcU,.int .i64 0]
 | .inl false=>.tuple #[.string zhw,.int .i64 0]
 | .inr x=>zec x
def znC {a:ByteArray}{v:Ext}(h:IsE a v):zdm v=.tuple #[.string a,.int .i64 0]:=by
 rcases v with(_|_)|x;cases h;rfl;cases h;rfl;exact zjq h
def zqM:∀ x,¬ zaM zcU x:=fun x h=>by
 have h1:=(zlW h).n
 revert h1
 decide +kernel
def zqN:∀ x,¬ zaM zhw x:=fun x h=>by
 have h1:=(zlW h).n
 revert h1
 decide +kernel
def zwe:zhw≠zcU:=by decide +kernel
def IsE.uniq {a:ByteArray}{u v:Ext}(h:IsE a u)(k:IsE a v):u=v:=by
 rcases u with(_|_)|x <;> rcases v with(_|_)|y;rfl;exact absurd (h.symm.trans k) zwe;cases h;exact absurd k (zqN y);exact absurd (k.symm.trans h) zwe;rfl;cases h;exact absurd k (zqM y);cases k;exact absurd h (zqN x);cases k;exact absurd h (zqM x);rw[zaM.uniq h k]
def IsE.same {a b:ByteArray}{v:Ext}(h:IsE a v)(k:IsE b v):a=b:=by
 rcases v with(_|_)|x;exact h.trans k.symm;exact h.trans k.symm;exact h.eq.trans k.eq.symm
def IsE.len {a:ByteArray}{v:Ext}(h:IsE a v):a.size<=maxLen:=by
 rcases v with(_|_)|x;cases h;decide;cases h;decide;exact zji h
def zpG:IsE zcD (.inr 0):=zld
def zoz:IsE zle (.inr 1):=⟨by decide +kernel,by decide +kernel⟩
def topE:IsE zcU (.inl true):=rfl
def lowE:IsE zhw (.inl false):=rfl
def zwY:Ext->Int
 | .inl true=>1
 | .inl false => -1
 | .inr _=>0
def cmpI (m n:Int):Int:=if m<n then -1 else if n<m then 1 else 0
def zcr:Ext->Ext->Int
 | .inr x,.inr y=>zdv x y
 | u,v=>cmpI (zwY u) (zwY v)
def zzG (x:Rat):zdv x x=0:=by unfold zdv;rw[if_neg (Rat.lt_irrefl),if_neg (Rat.lt_irrefl)]
def zhV (x y:Rat):zdv x y<0↔x<y:=by
 unfold zdv;split
 ·simp_all
 split <;> simp_all
def zml (x y:Rat):zdv y x = -zdv x y:=by
 unfold zdv
 by_cases h:x<y
 rw[if_pos h,if_neg (Rat.not_lt.2 (Rat.le_of_lt h)),if_pos h];rfl
 by_cases k:y<x
 ·rw[if_pos k,if_neg h,if_pos k]
 rw[if_neg k,if_neg h,if_neg h,if_neg k];rfl
def zoA (x y:Rat):0<zdv x y↔y<x:=by
 rw[<- zhV,zml];omega
def zrO (x y:Rat):zdv x y=0↔x=y:=by
 constructor
 ·intro h
  have h1:¬ x<y:=fun k=>by have:=(zhV x y).2 k;omega
  have h2:¬ y<x:=fun k=>by have:=(zoA x y).2 k;omega
  exact Rat.le_antisymm (Rat.not_lt.1 h2) (Rat.not_lt.1 h1)
 rintro rfl;exact zzG x
def znD (x y:Rat):zdv x y<=0↔x<=y:=by
 rw[<- Rat.not_lt,<- zoA];omega
def zfr (u v:Ext):zcr v u = -zcr u v:=by
 rcases u with(_|_)|x <;> rcases v with(_|_)|y
 all_goals first|exact zml x y|rfl
def zfZ (u v:Ext):zcr u v=0↔u=v:=by
 rcases u with(_|_)|x <;> rcases v with(_|_)|y
 all_goals first
  | exact⟨fun h=>zqbz _ ((zrO x y).1 h),fun h=>(zrO x y).2 (Sum.inr.inj h)⟩
  | exact⟨fun h=>absurd (show(-1:Int)=0 from h) (by decide),fun h=>by cases h⟩
  | exact⟨fun h=>absurd (show(1:Int)=0 from h) (by decide),fun h=>by cases h⟩
  | exact⟨fun _=>rfl,fun _=>rfl⟩
def zlf (u v t:Ext)(h:zcr u v<=0)(k:zcr v t<=0):zcr u t<=0:=by
 rcases u with(_|_)|x <;> rcases v with(_|_)|y <;> rcases t with(_|_)|z
 all_goals first
  | exact(znD x z).2 (zqar ((znD x y).1 h) ((znD y z).1 k))
  | exact absurd (show(1:Int)<=0 from h) (by decide)
  | exact absurd (show(1:Int)<=0 from k) (by decide)
  | exact(show(-1:Int)<=0 by decide)
  | exact(show(0:Int)<=0 by decide)
def zbv (k:Int):Bool:=decide (k=1) || (decide (k=2) || decide (k=3))
def zaD (k:Int):Ext->Bool
 | .inl true=>zbv k
 | .inl false=>decide (k=1)
 | .inr x=>decide (k=1) || ((decide (k=2) || decide (k=3))&&decide (0<=x))
def zcs (k:Int):Ext->Bool
 | .inl _=>false
 | .inr x=>decide (k=1) || ((decide (k=2) || decide (k=3))&&decide (0<x))
def zkc (k:Int):Ext:=if k=1 then .inl true else .inr 0
def ziu (k:Int):Ext:=if k=1 then .inr 0 else .inr 1
def zdz (u v:Ext):Ext:=if zcr v u<0 then v else u
def zda (u v:Ext):Ext:=if 0<zcr v u then v else u
def zcL:Ext->Ext->Ext
 | .inr x,.inr y=>.inr (x+y)
 | .inl true,_=>.inl true
 | _,.inl true=>.inl true
 | _,_=>.inl false
def sumE:Ext->Ext->Ext
 | .inr x,.inr y=>.inr (x+y)
 | _,_=>.inl true
def zaX (u v:Ext):Ext:=if u=.inr 0∨v=.inr 0 then .inr 0 else match u,v with
 | .inr x,.inr y=>.inr (x*y)
 | _,_=>.inl true
def zfR (k:Int)(u v:Ext):Ext:=if k=1 then zdz u v else if k=2 then sumE u v else zda u v
def zbP (k:Int)(u v:Ext):Ext:=if k=1 then zcL u v else zaX u v
def zkd (k:Int)(u:Ext):Ext :=
 if k=1 then (if zcr u (.inr 0)<0 then .inl false else .inr 0)
 else if k=2 then (match u with
  | .inr x=>if x<1 then .inr (1/(1-x)) else .inl true
  | _=>.inl true)
 else (if 0<zcr u (.inr 1) then .inl true else .inr 1)
def zcA (k:Int)(u v:Ext):Int:=if k=1 then zcr u v else zcr v u
structure Val (k:Int)(a:ByteArray)(v:Ext):Prop where
 e:IsE a v
 has:zaD k v=true
structure Wgt (k:Int)(a:ByteArray)(v:Ext):Prop where
 e:IsE a v
 has:zcs k v=true
def zwZ (k:Int)(a:ByteArray):Prop:=∀ v,IsE a v->zaD k v=false
def zsA (k:Int)(a:ByteArray):Prop:=∀ v,IsE a v->zcs k v=false
def zzH (k:Int)(a:ByteArray):(∃ v,Val k a v)∨zwZ k a:=by
 by_cases h:∃ v,Val k a v
 exact .inl h;refine .inr fun v hv=>?_;cases hk:zaD k v;rfl;exact absurd ⟨v,hv,hk⟩ h
def ztt (k:Int)(a:ByteArray):(∃ v,Wgt k a v)∨zsA k a:=by
 by_cases h:∃ v,Wgt k a v
 exact .inl h;refine .inr fun v hv=>?_;cases hk:zcs k v;rfl;exact absurd ⟨v,hv,hk⟩ h
def zFH {k:Int}{v:Ext}(h:zcs k v=true):zaD k v=true:=by
 rcases v with(_|_)|x;cases h;cases h;unfold zcs at h;unfold zaD;simp only[Bool.or_eq_true,zqbb,zqca] at h ⊢;rcases h with h|⟨h1,h2⟩
 exact .inl h;exact .inr ⟨h1,Rat.le_of_lt h2⟩
def Wgt.val {k:Int}{a:ByteArray}{v:Ext}(h:Wgt k a v):Val k a v:=⟨h.e,zFH h.has⟩
def zqO {k:Int}(h1:k≠1)(h2:k≠2)(h3:k≠3)(v:Ext):zaD k v=false:=by
 rcases v with(_|_)|x <;> simp[zaD,zbv,h1,h2,h3]
def Val.kind {k:Int}{a:ByteArray}{v:Ext}(h:Val k a v):k=1∨k=2∨k=3:=by
 by_cases h1:k=1
 exact .inl h1
 by_cases h2:k=2
 exact .inr (.inl h2)
 by_cases h3:k=3
 exact .inr (.inr h3);have:=zqO h1 h2 h3 v;rw[h.has] at this;cases this
def zdi (v:Ext):zaD 2 v=zaD 3 v:=by rcases v with(_|_)|x <;> rfl
def zwf (v:Ext):zcs 2 v=zcs 3 v:=by rcases v with(_|_)|x <;> rfl
def znE (v:Ext):zaD 1 v=true:=by rcases v with(_|_)|x <;> rfl
def zaP (v:Ext)(h:zaD 2 v=true):v=.inl true∨∃ x,v=.inr x/\0<=x:=by
 rcases v with(_|_)|x;cases h;exact .inl rfl;refine .inr ⟨x,rfl,?_⟩;simpa [zaD] using h
open Go.RowKit
open Go.Lib (nDigits decDigits)
def zdr (n:Nat)(x:Rat):Prop:=nDigits x.num.natAbs<=n/\nDigits x.den<=n
def zdr.mono {m n:Nat}{x:Rat}(h:zdr m x)(k:m<=n):zdr n x:=⟨zqam h.1 k,zqam h.2 k⟩
def zCR (z:Int)(d:Nat)(hd:d≠0):(mkRat z d).num.natAbs<=z.natAbs/\(mkRat z d).den<=d:=by
 have e:sg (decide (z<0)) z.natAbs=z:=by
  unfold sg
  by_cases h:z<0
  rw[if_pos (by simpa using h)];omega;rw[if_neg (by simpa using h)];omega
 have h1:=zpf (decide (z<0)) z.natAbs d hd;have h2:=zpg (decide (z<0)) z.natAbs d hd;rw[e] at h1 h2;rw[h1,h2];exact⟨Nat.div_le_self _ _,Nat.div_le_self _ _⟩
def zqP (z:Int)(d n:Nat)(hd:d≠0)(h1:nDigits z.natAbs<=n)(h2:nDigits d<=n):zdr n (mkRat z d):=by
 obtain⟨k1,k2⟩:=zCR z d hd;exact⟨zqam (zbZ k1) h1,zqam (zbZ k2) h2⟩
def dig_mul' {x y m n:Nat}(hx:nDigits x<=m)(hy:nDigits y<=n):nDigits (x*y)<=m+n:=by have:=znX x y;omega
def zzI (x y:Rat):x.den*y.den≠0:=Nat.mul_ne_zero x.den_nz y.den_nz
def zCS {m n:Nat}{x y:Rat}(hx:zdr m x)(hy:zdr n y):zdr (m+n) (x*y):=by
 rw[<- zmg x y];refine zqP _ _ _ (zzI x y) ?_ (dig_mul' hx.2 hy.2);rw[zkC];exact dig_mul' hx.1 hy.1
def zCT {m n:Nat}{x y:Rat}(hx:zdr m x)(hy:zdr n y):zdr (m+n+1) (x+y):=by
 rw[<- zgX x y _ rfl];refine zqP _ _ _ (zzI x y) ?_ (Nat.le_succ_of_le (dig_mul' hx.2 hy.2));have d1:=dig_mul' hx.1 hy.2;have d2:nDigits (y.num.natAbs*x.den)<=m+n:=by have:=dig_mul' hy.1 hx.2;omega
 refine zqam (zbZ ?_) (zig _ _ _ d1 d2);have e1:=zkC (sgn x) (x.num.natAbs*y.den);have e2:=zkC (sgn y) (y.num.natAbs*x.den);omega
def zzJ:zdr 1 (0:Rat):=by unfold zdr;decide +kernel
def zCU:zdr 1 (1:Rat):=by unfold zdr;decide +kernel
def zzK {a:ByteArray}{x:Rat}{n:Nat}(h:zaM a x)(hn:a.size<=n)(h1:1<=n):zdr n x:=by
 have e:a.size=(zjp x).length:=by rw[h.eq];exact List.size_toArray
 unfold zjp at e;rw[zqag,zqag] at e;have l1:=Lib.decDigits_length x.num.natAbs;have l2:=Lib.decDigits_length x.den;refine⟨by omega,?_⟩
 by_cases hd:x.den=1
 ·rw[hd,show nDigits 1=1 by rw[Lib.nDigits_small (by decide)]]
  exact h1
 rw[if_neg hd,zqbu] at e;omega
def zxa {x:Rat}:(1-x)=mkRat ((x.den:Int)-x.num) x.den:=by
 have e:=zgX 1 (-x) _ rfl;rw[Rat.sub_eq_add_neg,<- e]
 have h1:sg (sgn 1) ((1:Rat).num.natAbs*(-x).den)=(x.den:Int):=by
  rw[Rat.neg_den,show sgn 1=false by decide +kernel,show(1:Rat).num.natAbs=1 by decide +kernel];unfold sg;simp
 have h2:sg (sgn (-x)) ((-x).num.natAbs*(1:Rat).den) = -x.num:=by
  rw[show(1:Rat).den=1 by decide +kernel,Nat.mul_one,<- Rat.neg_num];exact zsM (-x)
 rw[h1,h2,show(1:Rat).den*(-x).den=x.den by rw[Rat.neg_den,show(1:Rat).den=1 by decide +kernel,Nat.one_mul],Int.sub_eq_add_neg]
def zxb {x:Rat}(h0:0<=x)(h1:x<=1)(h:zcd x):zcd (1-x):=by
 rw[zxa];have k0:=Rat.num_nonneg.2 h0
 have k1:x.num<=x.den:=by
  have:=(Rat.le_iff x 1).1 h1;rw[show(1:Rat).num=1 by decide +kernel,show(1:Rat).den=1 by decide +kernel] at this;omega
 refine zqP _ _ 400 x.den_nz ?_ h.2;refine zqam (zbZ ?_) h.2;omega
def zwg {x:Rat}(h:x<1):(1-x).num≠0:=fun k=>by
 rw[Rat.num_eq_zero] at k;have:=Rat.sub_add_cancel (a:=1) (b:=x);rw[k,Rat.zero_add] at this;rw[this] at h;exact Rat.lt_irrefl h
open Go.RowKit
open Go.Lib (nDigits decDigits)
def leE (u v:Ext):Prop:=zcr u v<=0
def zds (u:Ext):leE u u:=by unfold leE;rw[(zfZ u u).2 rfl];decide
def zfs {u v t:Ext}(h:leE u v)(k:leE v t):leE u t:=zlf u v t h k
def zgZ (u v:Ext):leE u v∨leE v u:=by
 unfold leE;have:=zfr u v;omega
def ztu {u v:Ext}(h:leE u v)(k:leE v u):u=v:=by
 unfold leE at *;have:=zfr u v;exact(zfZ u v).1 (by omega)
def zcg (x y:Rat):leE (.inr x) (.inr y)↔x<=y:=znD x y
def zdu (u:Ext):leE u (.inl true):=by
 rcases u with(_|_)|x;exact(show(-1:Int)<=0 by decide);exact(show(0:Int)<=0 by decide);exact(show(-1:Int)<=0 by decide)
def zwh (u:Ext):leE (.inl false) u:=by
 rcases u with(_|_)|x;exact(show(0:Int)<=0 by decide);exact(show(-1:Int)<=0 by decide);exact(show(-1:Int)<=0 by decide)
def zcV (x:Rat):¬ leE (.inl true) (.inr x):=fun h=>absurd (show(1:Int)<=0 from h) (by decide)
def zks:¬ leE (.inl true) (.inl false):=fun h=>absurd (show(1:Int)<=0 from h) (by decide)
def zgH (x:Rat):¬ leE (.inr x) (.inl false):=fun h=>absurd (show(1:Int)<=0 from h) (by decide)
def zha {u v:Ext}(h:leE u v):zdz u v=u:=by
 unfold zdz;unfold leE at h;have:=zfr u v;rw[if_neg (by omega)]
def zhx {u v:Ext}(h:leE v u):zdz u v=v:=by
 unfold zdz
 by_cases k:zcr v u<0
 rw[if_pos k];rw[if_neg k];unfold leE at h;exact((zfZ v u).1 (by omega)).symm
def zhb {u v:Ext}(h:leE v u):zda u v=u:=by
 unfold zda;unfold leE at h;rw[if_neg (by omega)]
def zhy {u v:Ext}(h:leE u v):zda u v=v:=by
 unfold zda
 by_cases k:0<zcr v u
 rw[if_pos k];rw[if_neg k];unfold leE at h;have:=zfr u v;exact(zfZ u v).1 (by omega)
def zhW (t u v:Ext):leE t (zdz u v)↔leE t u/\leE t v:=by
 rcases zgZ u v with h|h;rw[zha h];exact⟨fun k=>⟨k,zfs k h⟩,fun k=>k.1⟩;rw[zhx h];exact⟨fun k=>⟨zfs k h,k⟩,fun k=>k.2⟩
def zhX (t u v:Ext):leE (zda u v) t↔leE u t/\leE v t:=by
 rcases zgZ u v with h|h;rw[zhy h];exact⟨fun k=>⟨zfs h k,k⟩,fun k=>k.2⟩;rw[zhb h];exact⟨fun k=>⟨k,zfs h k⟩,fun k=>k.1⟩
def ztv {u v:Ext}(h:∀ t,leE t u↔leE t v):u=v:=ztu ((h u).1 (zds u)) ((h v).2 (zds v))
def ztw {u v:Ext}(h:∀ t,leE u t↔leE v t):u=v:=ztu ((h v).2 (zds v)) ((h u).1 (zds u))
def zzL (u v:Ext):zdz u v=zdz v u:=ztv fun t=>by rw[zhW,zhW];exact and_comm
def zzM (u v:Ext):zda u v=zda v u:=ztw fun t=>by rw[zhX,zhX];exact and_comm
def zxc (u v t:Ext):zdz (zdz u v) t=zdz u (zdz v t):=ztv fun s=>by simp only[zhW,and_assoc]
def zxd (u v t:Ext):zda (zda u v) t=zda u (zda v t):=ztw fun s=>by simp only[zhX,and_assoc]
def zFI (u v:Ext):zdz u v=u∨zdz u v=v:=by rcases zgZ u v with h|h;exact .inl (zha h);exact .inr (zhx h)
def zwi (u v:Ext):zda u v=u∨zda u v=v:=by rcases zgZ u v with h|h;exact .inr (zhy h);exact .inl (zhb h)
def zCV (u:Ext):zcL (.inl true) u=.inl true:=by rcases u with(_|_)|x <;> rfl
def zmm (u v:Ext):zcL u v=zcL v u:=by
 rcases u with(_|_)|x <;> rcases v with(_|_)|y
 all_goals first|exact zqbz Sum.inr (Rat.add_comm x y)|rfl
def zxe (u v t:Ext):zcL (zcL u v) t=zcL u (zcL v t):=by
 rcases u with(_|_)|x <;> rcases v with(_|_)|y <;> rcases t with(_|_)|z
 all_goals first|exact zqbz Sum.inr (Rat.add_assoc x y z)|rfl
def zmn (u:Ext):zcL u (.inr 0)=u:=by
 rcases u with(_|_)|x;rfl;rfl;exact zqbz Sum.inr (Rat.add_zero x)
def zmo (t u v:Ext)(h:leE u v):leE (zcL t u) (zcL t v):=by
 rcases t with(_|_)|z <;> rcases u with(_|_)|x <;> rcases v with(_|_)|y
 all_goals first
  | exact zdu _
  | exact zwh _
  | exact absurd h zks
  | exact absurd h (zcV _)
  | exact absurd h (zgH _)
  | exact(zcg _ _).2 (Rat.add_le_add_left.2 ((zcg _ _).1 h))
def zzN (t u v:Ext):zcL t (zdz u v)=zdz (zcL t u) (zcL t v):=by
 rcases zgZ u v with h|h;rw[zha h,zha (zmo t u v h)];rw[zhx h,zhx (zmo t v u h)]
def zbT (x y:Rat):zaX (.inr x) (.inr y)=.inr (x*y):=by
 unfold zaX
 by_cases hx:x=0
 subst hx;rw[if_pos (.inl rfl),Rat.zero_mul]
 by_cases hy:y=0
 subst hy;rw[if_pos (.inr rfl),Rat.mul_zero];rw[if_neg (fun h=>by rcases h with h|h;exact hx (Sum.inr.inj h);exact hy (Sum.inr.inj h))]
def zbD (u:Ext):zaX (.inr 0) u=.inr 0:=if_pos (.inl rfl)
def zaY (u:Ext):zaX u (.inr 0)=.inr 0:=if_pos (.inr rfl)
def zbd {x:Rat}(h:x≠0):zaX (.inl true) (.inr x)=.inl true:=by
 unfold zaX;rw[if_neg (fun k=>by rcases k with k|k;cases k;exact h (Sum.inr.inj k))]
def zbm {x:Rat}(h:x≠0):zaX (.inr x) (.inl true)=.inl true:=by
 unfold zaX;rw[if_neg (fun k=>by rcases k with k|k;exact h (Sum.inr.inj k);cases k)]
def zcm:zaX (.inl true) (.inl true)=.inl true:=by
 unfold zaX;rw[if_neg (fun k=>by rcases k with k|k <;> cases k)]
def zmp (u v:Ext)(hu:zaD 2 u=true)(hv:zaD 2 v=true):zaX u v=zaX v u:=by
 rcases zaP u hu with rfl|⟨x,rfl,hx⟩ <;> rcases zaP v hv with rfl|⟨y,rfl,hy⟩;rfl
 ·by_cases h:y=0
  ·subst h;rw[zbD,zaY]
  rw[zbd h,zbm h]
 ·by_cases h:x=0
  ·subst h;rw[zbD,zaY]
  rw[zbd h,zbm h]
 rw[zbT,zbT,Rat.mul_comm]
def zzO {x y:Rat}(hx:x≠0)(hy:y≠0):x*y≠0:=fun h=>by rcases Rat.mul_eq_zero.1 h with h|h;exact hx h;exact hy h
def zpH (u v t:Ext)(hu:zaD 2 u=true)(hv:zaD 2 v=true)(ht:zaD 2 t=true):zaX (zaX u v) t=zaX u (zaX v t):=by
 by_cases zu:u=.inr 0
 subst zu;rw[zbD,zbD,zbD]
 by_cases zv:v=.inr 0
 subst zv;rw[zbD,zaY,zbD]
 by_cases zt:t=.inr 0
 subst zt;rw[zaY,zaY,zaY];rcases zaP u hu with rfl|⟨x,rfl,hx⟩ <;> rcases zaP v hv with rfl|⟨y,rfl,hy⟩ <;> rcases zaP t ht with rfl|⟨z,rfl,hz⟩;rw[zcm];rw[zcm,zbd (fun h=>zt (zqbz _ h)),zcm];rw[zbd (fun h=>zv (zqbz _ h)),zbm (fun h=>zv (zqbz _ h))];rw[zbd (fun h=>zv (zqbz _ h)),zbd (fun h=>zt (zqbz _ h)),zbT,zbd (zzO (fun h=>zv (zqbz _ h)) (fun h=>zt (zqbz _ h)))];rw[zbm (fun h=>zu (zqbz _ h)),zcm,zbm (fun h=>zu (zqbz _ h))];rw[zbm (fun h=>zu (zqbz _ h)),zbd (fun h=>zt (zqbz _ h)),zbm (fun h=>zu (zqbz _ h))];rw[zbT,zbm (fun h=>zv (zqbz _ h)),zbm (fun h=>zu (zqbz _ h)),zbm (zzO (fun h=>zu (zqbz _ h)) (fun h=>zv (zqbz _ h)))];rw[zbT,zbT,zbT,zbT,Rat.mul_assoc]
def zlg (u:Ext)(hu:zaD 2 u=true):zaX u (.inr 1)=u:=by
 rcases zaP u hu with rfl|⟨x,rfl,hx⟩;exact zbd (by decide +kernel);rw[zbT,Rat.mul_one]
def zke (t u v:Ext)(ht:zaD 2 t=true)(hu:zaD 2 u=true)(hv:zaD 2 v=true)(h:leE u v):leE (zaX t u) (zaX t v):=by
 by_cases zt:t=.inr 0
 subst zt;rw[zbD,zbD];exact zds _;rcases zaP v hv with rfl|⟨y,rfl,hy⟩
 ·rcases zaP t ht with rfl|⟨z,rfl,hz⟩
  ·rw[zcm];exact zdu _
  rw[zbm (fun h=>zt (zqbz _ h))];exact zdu _
 rcases zaP u hu with rfl|⟨x,rfl,hx⟩;exact absurd h (zcV _);have k:=(zcg _ _).1 h;rcases zaP t ht with rfl|⟨z,rfl,hz⟩
 ·by_cases zx:x=0
  ·subst zx
   rw[zaY]
   by_cases zy:y=0
   subst zy;rw[zaY];exact zds _;rw[zbd zy];exact zdu _
  have zy:y≠0:=fun e=>zx (Rat.le_antisymm (e▸k) hx);rw[zbd zx,zbd zy];exact zds _
 rw[zbT,zbT];exact(zcg _ _).2 (zqai k hz)
def zzP (t u v:Ext)(ht:zaD 2 t=true)(hu:zaD 2 u=true)(hv:zaD 2 v=true):zaX t (zda u v)=zda (zaX t u) (zaX t v):=by
 rcases zgZ u v with h|h;rw[zhy h,zhy (zke t u v ht hu hv h)];rw[zhb h,zhb (zke t v u ht hv hu h)]
def zcS (x y:Rat):sumE (.inr x) (.inr y)=.inr (x+y):=rfl
def zcn (u:Ext):sumE (.inl true) u=.inl true:=by rcases u with(_|_)|x <;> rfl
def zbO (u:Ext):sumE u (.inl true)=.inl true:=by rcases u with(_|_)|x <;> rfl
def zCW (u v:Ext)(hu:zaD 2 u=true)(hv:zaD 2 v=true):sumE u v=sumE v u:=by
 rcases zaP u hu with rfl|⟨x,rfl,hx⟩ <;> rcases zaP v hv with rfl|⟨y,rfl,hy⟩;rfl;rfl;rfl;rw[zcS,zcS,Rat.add_comm]
def zzQ (u v t:Ext)(hu:zaD 2 u=true)(hv:zaD 2 v=true)(ht:zaD 2 t=true):sumE (sumE u v) t=sumE u (sumE v t):=by
 rcases zaP u hu with rfl|⟨x,rfl,hx⟩;rw[zcn,zcn,zcn];rcases zaP v hv with rfl|⟨y,rfl,hy⟩;rw[zbO,zcn,zbO];rcases zaP t ht with rfl|⟨z,rfl,hz⟩;rw[zbO,zbO,zbO];rw[zcS,zcS,zcS,zcS,Rat.add_assoc]
def zCX (u:Ext)(hu:zaD 2 u=true):sumE u (.inr 0)=u:=by
 rcases zaP u hu with rfl|⟨x,rfl,hx⟩;rfl;rw[zcS,Rat.add_zero]
def zFJ {x y:Rat}(hx:0<=x)(hy:0<=y)(h:x+y=0):x=0/\y=0:=by
 have h1:x<=x+y:=by
  have:=(Rat.add_le_add_left (c:=x)).2 hy
  rwa [Rat.add_zero] at this
 have h2:y<=x+y:=by
  have:=(Rat.add_le_add_right (c:=y)).2 hx
  rwa [Rat.zero_add] at this
 rw[h] at h1 h2;exact⟨Rat.le_antisymm h1 hx,Rat.le_antisymm h2 hy⟩
def zCY (t u v:Ext)(ht:zaD 2 t=true)(hu:zaD 2 u=true)(hv:zaD 2 v=true):zaX t (sumE u v)=sumE (zaX t u) (zaX t v):=by
 rcases zaP t ht with rfl|⟨z,rfl,hz⟩
 ·rcases zaP u hu with rfl|⟨x,rfl,hx⟩
  ·rw[zcn,zcm,zcn]
  rcases zaP v hv with rfl|⟨y,rfl,hy⟩;rw[zbO,zcm,zbO];rw[zcS]
  by_cases zx:x=0
  ·subst zx
   rw[Rat.zero_add,zaY]
   by_cases zy:y=0
   subst zy;rw[zaY,zcS,Rat.zero_add];rw[zbd zy];rfl
  rw[zbd zx,zcn];exact zbd (fun h=>zx (zFJ hx hy h).1)
 by_cases zz:z=0
 ·subst zz;rw[zbD,zbD,zbD,zcS,Rat.zero_add]
 rcases zaP u hu with rfl|⟨x,rfl,hx⟩;rw[zcn,zbm zz,zcn];rcases zaP v hv with rfl|⟨y,rfl,hy⟩;rw[zbO,zbm zz,zbO];rw[zcS,zbT,zbT,zbT,zcS,Rat.mul_add]
def zqQ {x:Rat}(h:0<=x):zaD 2 (.inr x)=true:=by simp[zaD,h]
def ztx {u v:Ext}(hu:zaD 2 u=true)(hv:zaD 2 v=true):zaD 2 (zaX u v)=true:=by
 by_cases zu:u=.inr 0
 subst zu;rw[zbD];exact hu
 by_cases zv:v=.inr 0
 subst zv;rw[zaY];exact hv;rcases zaP u hu with rfl|⟨x,rfl,hx⟩ <;> rcases zaP v hv with rfl|⟨y,rfl,hy⟩;rw[zcm];rfl;rw[zbd (fun h=>zv (zqbz _ h))];rfl;rw[zbm (fun h=>zu (zqbz _ h))];rfl;rw[zbT];exact zqQ (Rat.mul_nonneg hx hy)
def zFK {u v:Ext}(hu:zaD 2 u=true)(hv:zaD 2 v=true):zaD 2 (sumE u v)=true:=by
 rcases zaP u hu with rfl|⟨x,rfl,hx⟩;rw[zcn];rfl;rcases zaP v hv with rfl|⟨y,rfl,hy⟩;rw[zbO];rfl;rw[zcS];exact zqQ (Rat.add_nonneg hx hy)
abbrev zam (k:Int):Prop:=k=1∨k=2∨k=3
def zCZ {k:Int}(hk:zam k){u v:Ext}(hu:zaD k u=true)(hv:zaD k v=true):zaD k (zfR k u v)=true:=by
 rcases hk with rfl|rfl|rfl;exact znE _;exact zFK hu hv;show zaD 3 (zda u v)=true;rcases zwi u v with h|h <;> rw[h] <;> assumption
def zzR {k:Int}(hk:zam k){u v:Ext}(hu:zaD k u=true)(hv:zaD k v=true):zaD k (zbP k u v)=true:=by
 rcases hk with rfl|rfl|rfl;exact znE _;exact ztx hu hv;rw[<- zdi] at *;exact ztx hu hv
def zzS {k:Int}(hk:zam k):zaD k (zkc k)=true:=by rcases hk with rfl|rfl|rfl <;> decide +kernel
def zDa {k:Int}(hk:zam k):zaD k (ziu k)=true:=by rcases hk with rfl|rfl|rfl <;> decide +kernel
def zzT {k:Int}(hk:zam k){u v:Ext}(hu:zaD k u=true)(hv:zaD k v=true):zfR k u v=zfR k v u:=by
 rcases hk with rfl|rfl|rfl;exact zzL u v;exact zCW u v hu hv;exact zzM u v
def zxf {k:Int}(hk:zam k){u v t:Ext}(hu:zaD k u=true)(hv:zaD k v=true)(ht:zaD k t=true):zfR k (zfR k u v) t=zfR k u (zfR k v t):=by
 rcases hk with rfl|rfl|rfl;exact zxc u v t;exact zzQ u v t hu hv ht;exact zxd u v t
def zhz {k:Int}(hk:zam k){u v:Ext}(hu:zaD k u=true)(hv:zaD k v=true):zbP k u v=zbP k v u:=by
 rcases hk with rfl|rfl|rfl;exact zmm u v;exact zmp u v hu hv;rw[<- zdi] at *;exact zmp u v hu hv
def zvd {k:Int}(hk:zam k){u v t:Ext}(hu:zaD k u=true)(hv:zaD k v=true)(ht:zaD k t=true):zbP k (zbP k u v) t=zbP k u (zbP k v t):=by
 rcases hk with rfl|rfl|rfl;exact zxe u v t;exact zpH u v t hu hv ht;rw[<- zdi] at *;exact zpH u v t hu hv ht
def zxg {k:Int}(hk:zam k){u v t:Ext}(hu:zaD k u=true)(hv:zaD k v=true)(ht:zaD k t=true):zbP k u (zfR k v t)=zfR k (zbP k u v) (zbP k u t):=by
 rcases hk with rfl|rfl|rfl;exact zzN u v t;exact zCY u v t hu hv ht;rw[<- zdi] at *;exact zzP u v t hu hv ht
def zzU {k:Int}(hk:zam k){u:Ext}(hu:zaD k u=true):zfR k u (zkc k)=u:=by
 rcases hk with rfl|rfl|rfl;exact zha (zdu u);exact zCX u hu;rw[<- zdi] at hu;refine zhb ?_;rcases zaP u hu with rfl|⟨x,rfl,hx⟩
 exact zdu _;exact(zcg _ _).2 hx
def zzV {k:Int}(hk:zam k){u:Ext}(hu:zaD k u=true):zbP k u (ziu k)=u:=by
 rcases hk with rfl|rfl|rfl;exact zmn u;exact zlg u hu;rw[<- zdi] at hu;exact zlg u hu
def zxh {k:Int}(hk:zam k)(u:Ext):zbP k u (zkc k)=zkc k:=by
 rcases hk with rfl|rfl|rfl
 ·show zcL u (.inl true)=.inl true
  rw[zmm,zCV]
 exact zaY u;exact zaY u
def zve (k:Int)(u v:Ext):zcA k v u = -zcA k u v:=by
 unfold zcA;split;exact zfr u v;exact zfr v u
def znY (k:Int)(u v:Ext):zcA k u v=0↔u=v:=by
 unfold zcA;split;exact zfZ u v;exact(zfZ v u).trans ⟨Eq.symm,Eq.symm⟩
def zty (k:Int)(u v t:Ext)(h:zcA k u v<=0)(j:zcA k v t<=0):zcA k u t<=0:=by
 by_cases hk:k=1
 subst hk;exact zlf u v t h j;have e:∀ a b,zcA k a b=zcr b a:=fun a b=>if_neg hk;rw[e] at *;exact zlf t v u j h
def ztz {k:Int}(hk:zam k){u v t:Ext}(hu:zaD k u=true)(hv:zaD k v=true)(ht:zaD k t=true)(h:zcA k u v<=0):zcA k (zbP k u t) (zbP k v t)<=0:=by
 rw[zhz hk hu ht,zhz hk hv ht];rcases hk with rfl|rfl|rfl
 exact zmo t u v h;exact zke t v u ht hv hu h;rw[<- zdi] at *;exact zke t v u ht hv hu h
def zDb {x:Rat}(h:x<1):1/(1-x)=1+x*(1/(1-x)):=by
 have hne:(1-x)≠0:=fun k=>zwg h (by rw[k];rfl);have e:1/(1-x)*(1-x)=1:=Rat.div_mul_cancel hne;generalize 1/(1-x)=s at *;rw[Rat.sub_eq_add_neg,Rat.mul_add,Rat.mul_one,Rat.mul_neg] at e;have e2:s + -(s*x)+s*x=1+s*x:=by rw[e]
 rw[Rat.add_assoc,Rat.neg_add_cancel,Rat.add_zero] at e2;rw[Rat.mul_comm x s];exact e2
def znZ {x:Rat}(h:x<1):0<=1/(1-x):=by
 have h1:0<1-x:=(Rat.lt_iff_sub_pos x 1).1 h;rw[Rat.div_def,Rat.one_mul];exact Rat.le_of_lt (Rat.inv_pos.2 h1)
def zDc {k:Int}(hk:zam k)(u:Ext)(hu:zaD k u=true):zaD k (zkd k u)=true:=by
 rcases hk with rfl|rfl|rfl;exact znE _
 ·rcases zaP u hu with rfl|⟨x,rfl,hx⟩
  ·rfl
  show zaD 2 (if x<1 then .inr (1/(1-x)) else .inl true)=true
  by_cases h:x<1
  rw[if_pos h];exact zqQ (znZ h);rw[if_neg h];rfl
 show zaD 3 (if 0<zcr u (.inr 1) then .inl true else .inr 1)=true;split <;> decide +kernel
def star_law {k:Int}(hk:zam k)(u:Ext)(hu:zaD k u=true):zfR k (ziu k) (zbP k u (zkd k u))=zkd k u:=by
 rcases hk with rfl|rfl|rfl
 ·show zdz (.inr 0) (zcL u (if zcr u (.inr 0)<0 then .inl false else .inr 0))=if zcr u (.inr 0)<0 then .inl false else .inr 0
  by_cases h:zcr u (.inr 0)<0
  ·rw[if_pos h]
   have:zcL u (.inl false)=.inl false:=by
    rcases u with(_|_)|x;rfl;exact absurd (show(1:Int)<0 from h) (by decide);rfl
   rw[this];exact zhx (zwh _)
  rw[if_neg h,zmn];refine zha ?_;unfold leE;have:=zfr u (.inr 0);omega
 ·rcases zaP u hu with rfl|⟨x,rfl,hx⟩
  ·show sumE (.inr 1) (zaX (.inl true) (.inl true))=.inl true
   rw[zcm];rfl
  show sumE (.inr 1) (zaX (.inr x) (if x<1 then .inr (1/(1-x)) else .inl true))=if x<1 then .inr (1/(1-x)) else .inl true
  by_cases h:x<1
  rw[if_pos h,zbT,zcS,<- zDb h];rw[if_neg h,zbm (fun e=>by subst e;exact h (by decide +kernel)),zbO]
 rw[<- zdi] at hu;show zda (.inr 1) (zaX u (if 0<zcr u (.inr 1) then .inl true else .inr 1))=if 0<zcr u (.inr 1) then .inl true else .inr 1
 by_cases h:0<zcr u (.inr 1)
 ·rw[if_pos h]
  have:zaX u (.inl true)=.inl true:=by
   rcases zaP u hu with rfl|⟨x,rfl,hx⟩;exact zcm;exact zbm (fun e=>by subst e;revert h;decide +kernel)
  rw[this];exact zhy (zdu _)
 rw[if_neg h,zlg u hu];exact zhb (by unfold leE;omega)
def zaA (n:Nat):Ext->Prop
 | .inr x=>zdr n x
 | _=>True
def Fits:Ext->Prop
 | .inr x=>zcd x
 | _=>True
def zDd:Ext->ByteArray
 | .inl true=>zcU
 | .inl false=>zhw
 | .inr x=>zfW x
def zFL {v:Ext}(h:Fits v):IsE (zDd v) v:=by
 rcases v with(_|_)|x;rfl;rfl;exact⟨h,rfl⟩
def IsE.text {a:ByteArray}{v:Ext}(h:IsE a v):a=zDd v:=by
 rcases v with(_|_)|x;exact h;exact h;exact h.eq
def zaA.mono {m n:Nat}{v:Ext}(h:zaA m v)(k:m<=n):zaA n v:=by
 rcases v with(_|_)|x;trivial;trivial;exact zdr.mono h k
def zaA.fits {n:Nat}{v:Ext}(h:zaA n v)(k:n<=400):Fits v:=by
 rcases v with(_|_)|x;trivial;trivial;exact zdr.mono h k
def zlh:zaA 1 (.inr 0):=zzJ
def zzW:zaA 1 (.inr 1):=zCU
def zxi {m n:Nat}{u v:Ext}(hm:1<=m)(hu:zaA m u)(hv:zaA n v):zaA (m+n) (zaX u v):=by
 unfold zaX;split;exact zlh.mono (by omega);rcases u with(_|_)|x <;> rcases v with(_|_)|y
 all_goals first|exact zCS hu hv|trivial
def zkt (k:Int){m n:Nat}{u v:Ext}(hm:1<=m)(hu:zaA m u)(hv:zaA n v):zaA (m+n+1) (zbP k u v):=by
 unfold zbP;split
 ·rcases u with(_|_)|x <;> rcases v with(_|_)|y
  all_goals first|exact zCT hu hv|trivial
 exact(zxi hm hu hv).mono (by omega)
def zoa (k:Int):zaA 1 (zkc k):=by unfold zkc;split;trivial;exact zlh
def zli (k:Int):zaA 1 (ziu k):=by unfold ziu;split;exact zlh;exact zzW
end Go.Proofs.YtadgpgofcjpnjaaGreatDoor
