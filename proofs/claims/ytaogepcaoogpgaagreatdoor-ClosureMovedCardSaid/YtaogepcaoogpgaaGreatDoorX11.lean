/- W10 W64 -/
import Derived.Test.YtaogepcaoogpgaaGreatDoorX10
set_option linter.unusedVariables false
set_option linter.unusedSimpArgs false
set_option maxRecDepth 100000
set_option maxHeartbeats 16000000
namespace Go.Proofs.YtaogepcaoogpgaaGreatDoor
open Go.RowKit
open Go.Lib (nDigits decDigits)
def Fun (w:World)(g F:Nat):Prop:=w.heap[g]? = some (.cells #[.func (.func F) #[] #[]] 147 (0,0))
theorem Fun.grown {w w':World}{g F:Nat}(h:Fun w g F)(hg:w.grownBy w' none):Fun w' g F:=(hg.block _ (lt_of_block h) (by simp)).trans h
theorem zFR (F g0 g1 g2:Nat)(b1 b2:Bool)(A B C D S:ByteArray)(N:Value)(w:World)(hE:Enters F)(h0:Fun w g0 F)(h1:Num w g1 b1 A B)(h2:Num w g2 b2 C D)
  (M:Hid (∀ w,Calls Tryz.prog F #[.agg #[.bool b1,.string A,.string B],.agg #[.bool b2,.string C,.string D]] w (zab N w)))
  (X:Hid (∀ w,Calls Tryz.prog 199 #[N] w (zab (.string S) w))) :
  Calls Tryz.prog 198 #[.pointer (some ⟨g0,0,none⟩),.pointer (some ⟨g1,0,none⟩),.pointer (some ⟨g2,0,none⟩)] w (zab (.string S) w):=by
 have c0:=cell_of_one h0;obtain⟨x0,x1,x2,_⟩:=h1.cells;obtain⟨y0,y1,y2,_⟩:=h2.cells;have HE:=zHd hE;clear h0 h1 h2 hE;go_enter Tryz.func198,Tryz.ntmps198;go_wp2_with fail;rw[HE.out];refine(M.out _).mono ?_;rintro e w1 ⟨rfl,hg⟩;have G1:=zHd hg;clear hg;go_wp2_with fail;refine(X.out _).mono ?_;rintro e w2 ⟨rfl,hg⟩;have G2:=zHd (zaa G1.out hg);clear hg;go_wp2;go_ret;exact⟨rfl,G2.out⟩
theorem zDH (F g0 g1 g2:Nat)(b1 b2:Bool)(A B C D:ByteArray)(N:Value)(w:World)(hE:Enters F)(h0:Fun w g0 F)(h1:Num w g1 b1 A B)(h2:Num w g2 b2 C D)
  (M:Hid (∀ w,Calls Tryz.prog F #[.agg #[.bool b1,.string A,.string B],.agg #[.bool b2,.string C,.string D]] w (zab N w)))
  (X:Hid (∀ w,Calls Tryz.prog 199 #[N] w (zei 2 w))) :
  Calls Tryz.prog 198 #[.pointer (some ⟨g0,0,none⟩),.pointer (some ⟨g1,0,none⟩),.pointer (some ⟨g2,0,none⟩)] w (zei 2 w):=by
 have c0:=cell_of_one h0;obtain⟨x0,x1,x2,_⟩:=h1.cells;obtain⟨y0,y1,y2,_⟩:=h2.cells;have HE:=zHd hE;clear h0 h1 h2 hE;go_enter Tryz.func198,Tryz.ntmps198;go_wp2_with fail;rw[HE.out];refine(M.out _).mono ?_;rintro e w1 ⟨rfl,hg⟩;have G1:=zHd hg;clear hg;go_wp2_with fail;refine(X.out _).mono ?_;rintro e w2 ⟨rfl,hg⟩;exact⟨rfl,rfl,zaa G1.out hg⟩
theorem znz:Enters 198:=enters_of Tryz.func198 (by kernel_rfl) rfl
def zHP (F:Nat)(b1 b2:Bool)(A B C D S:ByteArray)(E:Int):Prop:=∀ (g0 g1 g2:Nat) (w:World),Fun w g0 F→Num w g1 b1 A B→Num w g2 b2 C D →
  Calls Tryz.prog 197 #[.func (.func 198) #[] #[.pointer (some ⟨g0,0,none⟩),.pointer (some ⟨g1,0,none⟩),.pointer (some ⟨g2,0,none⟩)]] w (zab (.tuple #[.string S,.int .i64 E]) w)
theorem znA (F:Nat)(a b:ByteArray)(b1 b2:Bool)(A B C D S:ByteArray)(E:Int)(w:World)
  (R1:Hid (∀ w,Calls Tryz.prog 152 #[.string a] w (zab (.tuple #[.agg #[.bool b1,.string A,.string B],.bool true]) w)))
  (R2:Hid (∀ w,Calls Tryz.prog 152 #[.string b] w (zab (.tuple #[.agg #[.bool b2,.string C,.string D],.bool true]) w)))
  (K:Hid (zHP F b1 b2 A B C D S E)) :
  Calls Tryz.prog 159 #[.string a,.string b,.func (.func F) #[] #[]] w (zab (.tuple #[.string S,.int .i64 E]) w):=by
 have hmf:∀ (fn:Fn) (first cap:Array Value) (w:World),(Instr.makeFunc fn first cap).run Tryz.prog w = .ok (.func fn first cap) w:=fun _ _ _ _=>rfl;go_enter Tryz.func159,Tryz.ntmps159;go_wp2_with fail;refine(R1.out _).mono ?_;rintro e w1 ⟨rfl,hg⟩;have hb:=alloc_old hg;have F1:=zHd (show Fun w1 w.heap.size F from hb);have G1:=zHd (zaa (zGA _ _ none) hg);clear hg hb;go_wp2_with fail;refine(R2.out _).mono ?_;rintro e w2 ⟨rfl,hg⟩;have hb:=alloc_old hg;have N1:=zHd (show Num w2 w1.heap.size b1 A B from hb);have hgg:=zaa (zGA _ _ none) hg;have F2:=zHd (F1.out.grown hgg);have G2:=zHd (zaa G1.out hgg);clear hg hb hgg F1 G1;go_wp2_with fail;refine(K.out _ _ _ _ (F2.out.grown (zGA _ _ none)) (N1.out.grown (zGA _ _ none)) (zau _ _)).mono ?_;rintro e w3 ⟨rfl,hg⟩;have G3:=zHd (zaa G2.out (zaa (zGA _ _ none) hg));clear hg;go_wp2
 go_ret2
 exact⟨rfl,G3.out⟩
def znB (F:Nat)(x y r:Rat):Prop:=∀ w,Calls Tryz.prog F #[ratV x,ratV y] w (zab (ratV r) w)
theorem zeF {F:Nat}{a b:ByteArray}{x y r:Rat}(hE:Enters F)(ha:zay a x)(hb:zay b y)(M:znB F x y r)(w:World) :
  Calls Tryz.prog 159 #[.string a,.string b,.func (.func F) #[] #[]] w (zab (finV r) w):=by
 have r1:=fun w=>ziX ha w (zgR ha);have r2:=fun w=>ziX hb w (zgR hb)
 by_cases h:zbd r
 ·rw[zll h]
  refine znA F a b _ _ _ _ _ _ _ _ w (zHd r1) (zHd r2) (zHd fun g0 g1 g2 w f n1 n2 => ?_);have k:=zGA w (.cells #[.int .i64 0] 24) none;exact znl _ znz #[] _ _ w (zFR F g0 g1 g2 _ _ _ _ _ _ _ _ _ hE (f.grown k) (n1.grown k) (n2.grown k) (zHd M) (zHd fun w=>zvJ r w h))
 ·rw[zhF h]
  refine znA F a b _ _ _ _ _ _ _ _ w (zHd r1) (zHd r2) (zHd fun g0 g1 g2 w f n1 n2 => ?_);have k:=zGA w (.cells #[.int .i64 0] 24) none;exact znm _ znz #[] _ _ w (zDH F g0 g1 g2 _ _ _ _ _ _ _ _ hE (f.grown k) (n1.grown k) (n2.grown k) (zHd M) (zHd fun w=>zsm r w h))
def zcS (a:ByteArray):Prop:=∀ x,¬ zay a x
theorem zHb (a:ByteArray):(∃ x,zay a x)∨zcS a:=by
 by_cases h:∃ x,zay a x
 ·exact .inl h
 ·exact .inr fun x k=>h ⟨x,k⟩
theorem znC (a:ByteArray)(ha:a.size≤maxLen):∃ b A B k,(∀ w,Calls Tryz.prog 152 #[.string a] w (zab (.tuple #[.agg #[.bool b,.string A,.string B],.bool k]) w))∧(zcS a→k=false):=by
 rcases zHb a with⟨x,h⟩|h
 ·exact⟨_,_,_,true,fun w=>ziX h w ha,fun n=>absurd h (n x)⟩
 ·exact⟨_,_,_,false,fun w=>zvK h w ha,fun _=>rfl⟩
open Go.RowKit
open Go.Lib (nDigits decDigits)
theorem zcF {x y:Nat}(hx:nDigits x≤400)(hy:nDigits y≤400):nDigits (x * y)≤800:=by have:=zlU x y;omega
theorem zeq (m n:Nat)(hm:nDigits m≤400)(hn:nDigits n≤400):zbp (decS m) (decS n):=fun w=>by
 have:=zcF hm hn;unfold mulS;rw[zaD,zaD];exact zzx m n w (by omega) (by omega) (by omega)
theorem zbw (m n:Nat):mulS (decS m) (decS n)=decS (m * n):=by unfold mulS;rw[zaD,zaD]
theorem zfm (neg:Bool)(n d:Nat)(hd:d≠0)(hn:nDigits n≤1000)(hdd:nDigits d≤1000){r:Rat}(hr:mkRat (sg neg n) d=r) :
  Hid (∀ w,Calls Tryz.prog 200 #[.bool neg,.string (decS n),.string (decS d)] w (zab (ratV r) w)) :=
 zHd fun w=>by rw[← hr];exact znn neg n d w hd hn hdd
theorem zgE (x y:Rat):x.den * y.den≠0:=Nat.mul_ne_zero x.den_nz y.den_nz
theorem zrl (x y:Rat)(hx:zbd x)(hy:zbd y):znB 161 x y (x * y):=fun w=>by
 have d1:=zcF hx.1 hy.1;have d2:=zcF hx.2 hy.2;have R:=zfm (sgn x != sgn y) _ _ (zgE x y) (by omega) (by omega) (zqd x y);rw[← zbw,← zbw] at R;exact zke _ _ _ _ _ _ _ _ _ w (zeq _ _ hx.1 hy.1) (zeq _ _ hx.2 hy.2) R
theorem zuH (x y:Rat)(hx:zbd x)(hy:zbd y)(h:y.num≠0)(w:World) :
  Calls Tryz.prog 161 #[ratV x,.agg #[.bool (sgn y),.string (decS y.den),.string (decS y.num.natAbs)]] w (zab (ratV (x / y)) w):=by
 have d1:=zcF hx.1 hy.2;have d2:=zcF hx.2 hy.1;have R:=zfm (sgn x != sgn y) _ _ (Nat.mul_ne_zero x.den_nz (show y.num.natAbs≠0 by omega)) (by omega) (by omega) (zzG x y h);rw[← zbw,← zbw] at R;exact zke _ _ _ _ _ _ _ _ _ w (zeq _ _ hx.1 hy.2) (zeq _ _ hx.2 hy.1) R
theorem zqm (x y:Rat)(hx:zbd x)(hy:zbd y):znB 192 x y (x+y):=fun w=>by
 have d1:=zcF hx.1 hy.2;have d2:=zcF hy.1 hx.2;have d3:=zcF hx.2 hy.2;have t1:=zeq _ _ hx.1 hy.2;have t2:=zeq _ _ hy.1 hx.2;have t3:=zeq _ _ hx.2 hy.2
 by_cases hs:sgn x=sgn y
 ·have d4:=zif _ _ _ d1 d2
  have R:=zfm (sgn x) (x.num.natAbs * y.den+y.num.natAbs * x.den) _ (zgE x y) (by omega) (by omega) (zge x y _ (by rw[← hs,zvL]));have ad:=fun w=>zFB (decS (x.num.natAbs * y.den)) (decS (y.num.natAbs * x.den)) w (zaK _ (by omega)) (zaK _ (by omega));rw[zsh _ _ (decS (x.num.natAbs * y.den+y.num.natAbs * x.den)) (zaM _ (by omega)) (zaM _ (by omega)) (zaM _ (by omega)) (by rw[zaD,zaD,zaD])] at ad;rw[← zbw x.den] at R;rw[← zbw x.num.natAbs y.den,← zbw y.num.natAbs x.den] at ad;have:=zCX (sgn x) _ _ _ _ _ _ _ _ w t1 t2 t3 (zHd ad) R;unfold ratV;rw[show decide (y.num<0)=sgn x from hs.symm];exact this
 ·by_cases hl:x.num.natAbs * y.den<y.num.natAbs * x.den
  ·have d4:=zbL (Nat.sub_le (y.num.natAbs * x.den) (x.num.natAbs * y.den))
   have R:=zfm (sgn y) (y.num.natAbs * x.den - x.num.natAbs * y.den) _ (zgE x y) (by omega) (by omega) (zge x y _ (by rw[zvM _ _ _ _ hs hl]));have cm:=fun w=>zlp (decS (x.num.natAbs * y.den)) (decS (y.num.natAbs * x.den)) w (zaK _ (by omega)) (zaK _ (by omega));have su:=fun w=>zvG (decS (y.num.natAbs * x.den)) (decS (x.num.natAbs * y.den)) w (zaK _ (by omega)) (zaK _ (by omega));rw[zlw _ _ (by omega) (by omega) (by omega)] at su;obtain⟨c,hc,hc0⟩:∃ c:Int,cmpV (decS (x.num.natAbs * y.den)) (decS (y.num.natAbs * x.den))=c∧c<0:=⟨_,rfl,by rw[zlv _ _ (by omega) (by omega)];exact(zdG _ _).2 hl⟩;rw[hc] at cm;rw[← zbw x.den] at R;rw[← zbw x.num.natAbs y.den,← zbw y.num.natAbs x.den] at su cm;exact zCY _ _ _ _ _ _ _ _ _ _ c w hs hc0 t1 t2 t3 (zHd cm) (zHd su) R
  ·have d4:=zbL (Nat.sub_le (x.num.natAbs * y.den) (y.num.natAbs * x.den))
   have R:=zfm (sgn x) (x.num.natAbs * y.den - y.num.natAbs * x.den) _ (zgE x y) (by omega) (by omega) (zge x y _ (by rw[zvN _ _ _ _ hs hl]));have cm:=fun w=>zlp (decS (x.num.natAbs * y.den)) (decS (y.num.natAbs * x.den)) w (zaK _ (by omega)) (zaK _ (by omega));have su:=fun w=>zvG (decS (x.num.natAbs * y.den)) (decS (y.num.natAbs * x.den)) w (zaK _ (by omega)) (zaK _ (by omega));rw[zlw _ _ (by omega) (by omega) (by omega)] at su;obtain⟨c,hc,hc0⟩:∃ c:Int,cmpV (decS (x.num.natAbs * y.den)) (decS (y.num.natAbs * x.den))=c∧¬ c<0:=⟨_,rfl,by rw[zlv _ _ (by omega) (by omega),zdG];exact hl⟩;rw[hc] at cm;rw[← zbw x.den] at R;rw[← zbw x.num.natAbs y.den,← zbw y.num.natAbs x.den] at su cm;exact zCZ _ _ _ _ _ _ _ _ _ _ c w hs hc0 t1 t2 t3 (zHd cm) (zHd su) R
theorem zAo (b1 b2 b3 b:Bool)(A B C D C3 D3 S T:ByteArray)(w:World)
  (NG:Hid (∀ w,Calls Tryz.prog 194 #[.agg #[.bool b2,.string C,.string D]] w (zab (.agg #[.bool b3,.string C3,.string D3]) w)))
  (SM:Hid (∀ w,Calls Tryz.prog 192 #[.agg #[.bool b1,.string A,.string B],.agg #[.bool b3,.string C3,.string D3]] w (zab (.agg #[.bool b,.string S,.string T]) w))) :
  Calls Tryz.prog 193 #[.agg #[.bool b1,.string A,.string B],.agg #[.bool b2,.string C,.string D]] w (zab (.agg #[.bool b,.string S,.string T]) w):=by
 have h0:=zel w b1 b2 A B C D;obtain⟨W0,hW0⟩:∃ W0,W0=(((w.alloc (.cells #[.bool b1,.string A,.string B] 142)).alloc (.cells #[.bool b2,.string C,.string D] 142)).alloc (.cells #[.bool false,.string ⟨#[]⟩,.string ⟨#[]⟩] 142)):=⟨_,rfl⟩;rw[← hW0] at h0;have H0:=zHd h0;have HW0:=zHd hW0;clear h0 hW0;go_enter Tryz.func193,Tryz.ntmps193;go_wp2_with fail;rw[← HW0.out];have hs:=H0.out.drew.seen;unfold Seen at hs;have hh:=zHd H0.out.drew;clear HW0
 go_region_held3 (fun W'=>(W'.cell? ⟨w.heap.size,0,none⟩=some (.bool b1)∧W'.cell? ⟨w.heap.size,1,none⟩=some (.string A)∧W'.cell? ⟨w.heap.size,2,none⟩=some (.string B) ∧
   W'.cell? ⟨w.heap.size+1,0,none⟩=some (.bool b2)∧W'.cell? ⟨w.heap.size+1,1,none⟩=some (.string C)∧W'.cell? ⟨w.heap.size+1,2,none⟩=some (.string D))∧Hid (Held w W' b1 b2 A B C D))
  (first
   | exact⟨hs,hh⟩
   | assumption
   | exact s1
   | exact s3
   | exact znq w b1 b2 A B C D _ _ _ s3
   | go_keep)
  (first
   | (go_at_call 194;refine(NG.out _).mono ?_;rintro e w5 ⟨rfl,hg5⟩;have s1:=zbc w b1 b2 A B C D hg5 ‹_›)
   | (go_at_call 192;refine(SM.out _).mono ?_;rintro e w7 ⟨rfl,hg7⟩;have s3:=zbc w b1 b2 A B C D hg7 ‹_›;obtain⟨zb,zS,zT,z0,z1,z2,z3,z4,z5⟩:=zgf w b1 b2 A B C D s3))
 have hend:=zdD (a := .bool b) (b := .string S) (c := .string T) s3.2.out.g (show w.heap.size≤w.heap.size+1+1 by omega);have HE:=zHd hend;clear hend s3 s1 hs hh;go_wp2;exact bodyPost_ret (v := .agg #[.bool _,.string _,.string _]) (by simp[results,Tryz.results193,go_sem,z0,z1,z2,z3,z4,z5]) rfl ⟨rfl,HE.out⟩
theorem zAp (b1 b2 b:Bool)(A B C D S T:ByteArray)(w:World)(f1:(C.toList == [48])=false)
  (PR:Hid (∀ w,Calls Tryz.prog 161 #[.agg #[.bool b1,.string A,.string B],.agg #[.bool b2,.string D,.string C]] w (zab (.agg #[.bool b,.string S,.string T]) w))) :
  Calls Tryz.prog 160 #[.agg #[.bool b1,.string A,.string B],.agg #[.bool b2,.string C,.string D]] w (zab (.agg #[.bool b,.string S,.string T]) w):=by
 have h0:=zel w b1 b2 A B C D;have H0:=zHd h0;clear h0;go_enter Tryz.func160,Tryz.ntmps160;go_wp2_with fail;refine(PR.out _).mono ?_;rintro e w1 ⟨rfl,hg⟩;have k:=H0.out.next hg;obtain⟨zb,zS,zT,z0,z1,z2,z3,z4,z5⟩:=k.room;have hend:=zdD (a := .bool b) (b := .string S) (c := .string T) k.g (show w.heap.size≤w.heap.size+1+1 by omega);have HE:=zHd hend;clear hend k hg H0;go_wp2;exact bodyPost_ret (v := .agg #[.bool _,.string _,.string _]) (by simp[results,Tryz.results160,go_sem,z0,z1,z2,z3,z4,z5]) rfl ⟨rfl,HE.out⟩
theorem zAq (x y:Rat)(hx:zbd x)(hy:zbd y):znB 193 x y (x - y):=fun w=>by
 rw[Rat.sub_eq_add_neg];exact zAo _ _ _ _ _ _ _ _ _ _ _ _ w (zHd fun w=>zuF y w) (zHd fun w=>zqm x (-y) hx (zzI hy) w)
theorem zAr (x y:Rat)(hx:zbd x)(hy:zbd y)(h:y.num≠0):znB 160 x y (x / y):=fun w =>
 zAp _ _ _ _ _ _ _ _ _ w (by rw[(zero_str' _).1];simpa using h) (zHd fun w=>zuH x y hx hy h w)
theorem zxB:Enters 192:=enters_of Tryz.func192 (by kernel_rfl) rfl
theorem zoX:Enters 161:=enters_of Tryz.func161 (by kernel_rfl) rfl
theorem zxC:Enters 193:=enters_of Tryz.func193 (by kernel_rfl) rfl
theorem zxD:Enters 160:=enters_of Tryz.func160 (by kernel_rfl) rfl
def errV (E:Int):Value := .tuple #[.string ⟨#[]⟩,.int .i64 E]
theorem zDI (a b S:ByteArray)(E:Int)(w:World)(O:Hid (∀ w,Calls Tryz.prog 159 #[.string a,.string b,.func (.func 192) #[] #[]] w (zab (.tuple #[.string S,.int .i64 E]) w))) :
  Calls Tryz.prog 153 #[.string a,.string b] w (zab (.tuple #[.string S,.int .i64 E]) w):=by
 go_enter Tryz.func153,Tryz.ntmps153;go_wp2_with fail;refine(O.out _).mono ?_;rintro e w1 ⟨rfl,hg⟩;have G1:=zHd hg;clear hg;go_wp2
 go_ret2
 exact⟨rfl,G1.out⟩
theorem zwc {a b:ByteArray}{x y:Rat}(ha:zay a x)(hb:zay b y)(w:World) :
  Calls Tryz.prog 153 #[.string a,.string b] w (zab (finV (x+y)) w):=by
 obtain⟨S,E,e⟩:=zcA (x+y);have O:=fun w=>zeF zxB ha hb (zqm x y ha.short hb.short) w;rw[e] at O ⊢;exact zDI a b S E w (zHd O)
theorem zDJ (a b S:ByteArray)(E:Int)(w:World)(O:Hid (∀ w,Calls Tryz.prog 159 #[.string a,.string b,.func (.func 193) #[] #[]] w (zab (.tuple #[.string S,.int .i64 E]) w))) :
  Calls Tryz.prog 154 #[.string a,.string b] w (zab (.tuple #[.string S,.int .i64 E]) w):=by
 go_enter Tryz.func154,Tryz.ntmps154;go_wp2_with fail;refine(O.out _).mono ?_;rintro e w1 ⟨rfl,hg⟩;have G1:=zHd hg;clear hg;go_wp2
 go_ret2
 exact⟨rfl,G1.out⟩
theorem zFS {a b:ByteArray}{x y:Rat}(ha:zay a x)(hb:zay b y)(w:World) :
  Calls Tryz.prog 154 #[.string a,.string b] w (zab (finV (x - y)) w):=by
 obtain⟨S,E,e⟩:=zcA (x - y);have O:=fun w=>zeF zxC ha hb (zAq x y ha.short hb.short) w;rw[e] at O ⊢;exact zDJ a b S E w (zHd O)
theorem zDK (a b S:ByteArray)(E:Int)(w:World)(O:Hid (∀ w,Calls Tryz.prog 159 #[.string a,.string b,.func (.func 161) #[] #[]] w (zab (.tuple #[.string S,.int .i64 E]) w))) :
  Calls Tryz.prog 158 #[.string a,.string b] w (zab (.tuple #[.string S,.int .i64 E]) w):=by
 go_enter Tryz.func158,Tryz.ntmps158;go_wp2_with fail;refine(O.out _).mono ?_;rintro e w1 ⟨rfl,hg⟩;have G1:=zHd hg;clear hg;go_wp2
 go_ret2
 exact⟨rfl,G1.out⟩
theorem zFT {a b:ByteArray}{x y:Rat}(ha:zay a x)(hb:zay b y)(w:World) :
  Calls Tryz.prog 158 #[.string a,.string b] w (zab (finV (x * y)) w):=by
 obtain⟨S,E,e⟩:=zcA (x * y);have O:=fun w=>zeF zoX ha hb (zrl x y ha.short hb.short) w;rw[e] at O ⊢;exact zDK a b S E w (zHd O)
theorem zDL (a b S:ByteArray)(E:Int)(w:World)(O:Hid (∀ w,Calls Tryz.prog 159 #[.string a,.string b,.func (.func 160) #[] #[]] w (zab (.tuple #[.string S,.int .i64 E]) w))) :
  Calls Tryz.prog 120 #[.string a,.string b] w (zab (.tuple #[.string S,.int .i64 E]) w):=by
 go_enter Tryz.func120,Tryz.ntmps120;go_wp2_with fail;refine(O.out _).mono ?_;rintro e w1 ⟨rfl,hg⟩;have G1:=zHd hg;clear hg;go_wp2
 go_ret2
 exact⟨rfl,G1.out⟩
theorem zFU {a b:ByteArray}{x y:Rat}(ha:zay a x)(hb:zay b y)(h:y.num≠0)(w:World) :
  Calls Tryz.prog 120 #[.string a,.string b] w (zab (finV (x / y)) w):=by
 obtain⟨S,E,e⟩:=zcA (x / y);have O:=fun w=>zeF zxD ha hb (zAr x y ha.short hb.short h) w;rw[e] at O ⊢;exact zDL a b S E w (zHd O)
open Go.RowKit
open Go.Lib (nDigits decDigits)
open Go.RowKit
open Go.Lib (nDigits decDigits)
def zeU (a:ByteArray)(b:Bool)(A B:ByteArray)(k:Bool):Prop:=∀ w,Calls Tryz.prog 152 #[.string a] w (zab (.tuple #[.agg #[.bool b,.string A,.string B],.bool k]) w)
theorem znD (a:ByteArray)(b:Bool)(A B:ByteArray)(k:Bool)(w:World)(R:Hid (zeU a b A B k)) :
  Calls Tryz.prog 109 #[.string a] w (zab (.bool k) w):=by
 go_enter Tryz.func109,Tryz.ntmps109;go_wp2_with fail;refine(R.out _).mono ?_;rintro e w1 ⟨rfl,hg⟩;have G1:=zHd hg;clear hg;go_wp2;go_ret;exact⟨rfl,G1.out⟩
theorem znE (a:ByteArray)(b:Bool)(A B:ByteArray)(k:Bool)(w:World)(R:Hid (zeU a b A B k)) :
  Calls Tryz.prog 157 #[.string a] w (zab (.tuple #[.bool b,.string A,.string B,.bool k]) w):=by
 go_enter Tryz.func157,Tryz.ntmps157;go_wp2_with fail;refine(R.out _).mono ?_;rintro e w1 ⟨rfl,hg⟩;have G1:=zHd hg;clear hg;go_wp2_with fail
 go_quiet (fail)
 go_wp2;exact bodyPost_ret (v := .tuple #[.bool _,.string _,.string _,.bool _]) (by simp[results,Tryz.results157,go_sem]) rfl ⟨rfl,zaa G1.out (zaa (zGA _ _ none) (zbz _ _ _))⟩
theorem zHc (a b:ByteArray)(b1 b2 k1 k2:Bool)(A B C D:ByteArray)(w:World)(hk:(k1&&k2)=false)(R1:Hid (zeU a b1 A B k1))(R2:Hid (zeU b b2 C D k2)) :
  Calls Tryz.prog 156 #[.string a,.string b] w (zab (.int .i64 0) w):=by
 cases k1 <;> cases k2 <;> simp only[Bool.and_self,Bool.and_true,Bool.true_and,Bool.true_eq_false] at hk
 all_goals
  go_enter Tryz.func156,Tryz.ntmps156;go_wp2_with fail;refine(R1.out _).mono ?_;rintro e w1 ⟨rfl,hg⟩;have G1:=zHd hg;clear hg;go_wp2_with fail;refine(R2.out _).mono ?_;rintro e w2 ⟨rfl,hg⟩;have G2:=zHd (zaa G1.out (zaa (zGA _ _ none) hg));clear hg;go_wp2;go_ret;exact⟨rfl,zaa G2.out (zGA _ _ none)⟩
theorem zFV (a b:ByteArray)(b1 b2:Bool)(A B C D:ByteArray)(c:Int)(w:World)(R1:Hid (zeU a b1 A B true))(R2:Hid (zeU b b2 C D true))
  (CP:Hid (∀ w,Calls Tryz.prog 196 #[.agg #[.bool b1,.string A,.string B],.agg #[.bool b2,.string C,.string D]] w (zab (.int .i64 c) w))) :
  Calls Tryz.prog 156 #[.string a,.string b] w (zab (.int .i64 c) w):=by
 go_enter Tryz.func156,Tryz.ntmps156;go_wp2_with fail;refine(R1.out _).mono ?_;rintro e w1 ⟨rfl,hg⟩;have G1:=zHd hg;clear hg;go_wp2_with fail;refine(R2.out _).mono ?_;rintro e w2 ⟨rfl,hg⟩;have hb:=alloc_old hg;have N1:=(show Num w2 w1.heap.size b1 A B from hb).grown (zGA w2 (.cells #[.bool b2,.string C,.string D] 142) none);obtain⟨x0,x1,x2,_⟩:=N1.cells;have G2:=zHd (zaa G1.out (zaa (zGA _ _ none) hg));clear hg hb N1;go_wp2_with fail;refine(CP.out _).mono ?_;rintro e w3 ⟨rfl,hg⟩;have G3:=zHd (zaa G2.out (zaa (zGA _ _ none) hg));clear hg x0 x1 x2;go_wp2;go_ret;exact⟨rfl,G3.out⟩
theorem zhR {a:ByteArray}{x:Rat}(h:zay a x):zeU a (sgn x) (decS x.num.natAbs) (decS x.den) true:=fun w=>ziX h w (zgR h)
theorem zsK {a:ByteArray}(h:zcS a)(ha:a.size≤maxLen):zeU a false ⟨#[]⟩ ⟨#[]⟩ false:=fun w=>zvK h w ha
theorem zkr {a:ByteArray}{x:Rat}(h:zay a x)(w:World):Calls Tryz.prog 109 #[.string a] w (zab (.bool true) w):=znD a _ _ _ _ w (zHd (zhR h))
theorem zfW {a:ByteArray}(h:zcS a)(ha:a.size≤maxLen)(w:World):Calls Tryz.prog 109 #[.string a] w (zab (.bool false) w):=znD a _ _ _ _ w (zHd (zsK h ha))
def zAs (x:Rat):Value := .tuple #[.bool (sgn x),.string (decS x.num.natAbs),.string (decS x.den),.bool true]
def zcO:Value := .tuple #[.bool false,.string ⟨#[]⟩,.string ⟨#[]⟩,.bool false]
theorem zAt {a:ByteArray}{x:Rat}(h:zay a x)(w:World):Calls Tryz.prog 157 #[.string a] w (zab (zAs x) w):=znE a _ _ _ _ w (zHd (zhR h))
theorem zDM {a:ByteArray}(h:zcS a)(ha:a.size≤maxLen)(w:World):Calls Tryz.prog 157 #[.string a] w (zab zcO w):=znE a _ _ _ _ w (zHd (zsK h ha))
theorem zwd (m n:Nat)(hm:nDigits m≤1000)(hn:nDigits n≤1000):∀ w,Calls Tryz.prog 227 #[.string (decS m),.string (decS n)] w fun e w'=>e = .returned (.int .i64 (cmpN m n))∧w.grownBy w' none:=fun w=>by
 have:=zlp (decS m) (decS n) w (zaK m hm) (zaK n hn);rw[zlv m n hm hn] at this;exact this
theorem zuI (x y:Rat)(hx:zbd x)(hy:zbd y)(w:World):Calls Tryz.prog 196 #[ratV x,ratV y] w (zab (.int .i64 (cmpQ x y)) w):=by
 have d1:=zcF hx.1 hy.2;have d2:=zcF hy.1 hx.2;have t1:=zeq _ _ hx.1 hy.2;have t2:=zeq _ _ hy.1 hx.2;unfold ratV;rw[show decide (x.num<0)=sgn x from rfl,show decide (y.num<0)=sgn y from rfl];cases h1:sgn x <;> cases h2:sgn y
 ·rw[zCV x y h1 h2]
  have cm:=zwd (x.num.natAbs * y.den) (y.num.natAbs * x.den) (by omega) (by omega);rw[← zbw x.num.natAbs y.den,← zbw y.num.natAbs x.den] at cm;exact zsp _ _ _ _ _ w t1 t2 (zHd cm)
 ·rw[zzK x y h1 h2];exact zkf false true _ _ _ _ w (by decide)
 ·rw[zzJ x y h1 h2];exact zkf true false _ _ _ _ w (by decide)
 ·rw[zzL x y h1 h2]
  have cm:=zwd (y.num.natAbs * x.den) (x.num.natAbs * y.den) (by omega) (by omega);rw[← zbw x.num.natAbs y.den,← zbw y.num.natAbs x.den] at cm;exact zrk _ _ _ _ _ w t2 t1 (zHd cm)
theorem znF {a b:ByteArray}{x y:Rat}(ha:zay a x)(hb:zay b y)(w:World):Calls Tryz.prog 156 #[.string a,.string b] w (zab (.int .i64 (cmpQ x y)) w) :=
 zFV a b _ _ _ _ _ _ _ w (zHd (zhR ha)) (zHd (zhR hb)) (zHd fun w=>zuI x y ha.short hb.short w)
theorem zgj {a b:ByteArray}(ha:a.size≤maxLen)(hb:b.size≤maxLen)(h:zcS a∨zcS b)(w:World):Calls Tryz.prog 156 #[.string a,.string b] w (zab (.int .i64 0) w):=by
 obtain⟨b1,A,B,k1,r1,n1⟩:=znC a ha;obtain⟨b2,C,D,k2,r2,n2⟩:=znC b hb;refine zHc a b _ _ k1 k2 _ _ _ _ w ?_ (zHd r1) (zHd r2);rcases h with h|h
 ·rw[n1 h];rfl
 ·rw[n2 h,Bool.and_false]
theorem zuJ (s chars:List UInt8):(Lib.indexAny s chars = -1∧∀ x∈s,chars.contains x=false)∨(∃ (i:Nat) (c:UInt8),Lib.indexAny s chars=i∧s[i]? = some c∧chars.contains c=true):=by
 induction s with
 | nil=>exact .inl ⟨rfl,by simp⟩
 | cons b l ih =>
  by_cases h:chars.contains b=true
  ·exact .inr ⟨0,b,by rw[Lib.indexAny,if_pos h];rfl,rfl,h⟩
  ·rcases ih with⟨h1,h2⟩|⟨i,c,h1,h2,h3⟩
   ·refine .inl ⟨by rw[Lib.indexAny,if_neg h,h1];rfl,?_⟩
    intro x hx;rcases List.mem_cons.1 hx with rfl|hx
    ·simpa using h
    ·exact h2 x hx
   ·refine .inr ⟨i+1,c,?_,by simpa using h2,h3⟩
    rw[Lib.indexAny,if_neg h,h1,if_neg (fun e=>by have:=beq_iff_eq.1 e;omega)]
    push_cast
    rfl
theorem zsL (l:List UInt8)(i:Nat):(⟨l.toArray⟩:ByteArray).extract 0 i=⟨(l.take i).toArray⟩:=by
 apply ByteArray.ext
 rw[ByteArray.data_extract];simp[List.extract_eq_take_drop]
theorem extract_drop (l:List UInt8)(i:Nat):(⟨l.toArray⟩:ByteArray).extract i (⟨l.toArray⟩:ByteArray).size=⟨(l.drop i).toArray⟩:=by
 apply ByteArray.ext
 rw[ByteArray.data_extract];simp[List.extract_eq_take_drop,ByteArray.size];rw[List.take_of_length_le (by simp)]
open Go.RowKit
open Go.Lib (nDigits decDigits)
open Go.RowKit
theorem zwe {f:Nat→Rat}{n:Nat}:∀ d,(∀ m,m<n+d→0≤f m)→rs n f≤rs (n+d) f
 | 0,_=>Rat.le_refl
 | d+1,h=>by
  have h1:=zwe (f:=f) (n:=n) d (fun m hm=>h m (by omega));have h2:=h (n+d) (by omega);show rs n f≤rs (n+d) f+f (n+d)
  grind
theorem zrG {f:Nat→Rat}:∀ {n j:Nat},(∀ m,m<n→0≤f m)→j<n→f j≤rs n f
 | n+1,j,h,hj=>by
  show f j≤rs n f+f n;have h0:=zcB (f:=f) (n:=n) (fun m hm=>h m (by omega))
  by_cases e:j=n
  ·subst e;grind
  ·have h1:=zrG (f:=f) (n:=n) (j:=j) (fun m hm=>h m (by omega)) (by omega)
   have h2:=h n (by omega)
   grind
theorem zwf {x:Rat}(h:isI x):isI (-x):=by
 have:=zbY (⟨-1,rfl⟩:isI (-1)) h;have e:(-1:Rat) * x = -x:=by grind
 rwa [e] at this
section
variable {A:Nat→Nat→El 2} {k i j n:Nat}
theorem zje (hk:k≤n)(hi:i<n){c:Nat}(hc:c<(onL A k i j).length+1):nd A k i j c<n:=by
 cases c with
 | zero=>exact hi
 | succ c=>have:=(zny (A:=A) (i:=i) (j:=j) (show c<(onL A k i j).length by omega)).1;omega
theorem zwg {c:Nat}:val (onA A k i j c 0)=0:=by unfold onA;rw[if_pos rfl];exact zdb
theorem zwh {c y:Nat}:onA A k i j c (y+1)=A (nd A k i j c) (nd A k i j (y+1)):=by unfold onA;rw[if_neg (by omega)]
theorem zHe (hk:k≤n)(c:Nat):rs ((onL A k i j).length+1) (fun y=>val (onA A k i j c y))≤rs n (fun m=>val (A (nd A k i j c) m)):=by
 rw[zjb,zwg]
 have e1:rs (onL A k i j).length (fun y=>val (onA A k i j c (y+1)))=rs k (fun m=>if onB A k i j m=true then val (A (nd A k i j c) m) else 0):=by
  rw[← zvY (fun m=>val (A (nd A k i j c) m)) (onB A k i j) k];refine zaL (fun y _ => ?_);rw[zwh,ziC];rfl
 rw[e1]
 have h1:rs k (fun m=>if onB A k i j m=true then val (A (nd A k i j c) m) else 0)≤rs k (fun m=>val (A (nd A k i j c) m)):=zhO (fun m _=>by
  by_cases hp:onB A k i j m=true
  ·rw[if_pos hp];exact Rat.le_refl
  ·rw[if_neg hp];exact zbE _)
 have h2:=zwe (f:=fun m=>val (A (nd A k i j c) m)) (n:=k) (n - k) (fun m _=>zbE _);rw[show k+(n - k)=n by omega] at h2
 grind
theorem zwi {Q:Nat→Rat}(hk:k≤n)(hi:i<n)(hQ:∀ x,x<n→1≤Q x):rp ((onL A k i j).length+1) (fun c=>Q (nd A k i j c))≤Q i * rp n Q:=by
 rw[zsI];have e0:nd A k i j 0=i:=rfl;rw[e0]
 have e1:rp (onL A k i j).length (fun c=>Q (nd A k i j (c+1)))=rp k (fun m=>if onB A k i j m=true then Q m else 1):=by
  rw[← zvZ Q (onB A k i j) k];refine zhn (fun y _ => ?_);rw[ziC];rfl
 rw[e1]
 have h1:rp k (fun m=>if onB A k i j m=true then Q m else 1)≤rp k Q:=zhP (fun m hm=>by
  have:=hQ m (by omega)
  by_cases hp:onB A k i j m=true
  ·rw[if_pos hp];grind
  ·rw[if_neg hp];grind) (fun m hm=>by
  have:=hQ m (by omega)
  by_cases hp:onB A k i j m=true
  ·rw[if_pos hp];exact Rat.le_refl
  ·rw[if_neg hp];exact this)
 have h2:=zwa (f:=Q) (n:=k) (n - k) (fun m hm=>hQ m (by omega));rw[show k+(n - k)=n by omega] at h2;have h3:=hQ i hi;exact Rat.mul_le_mul_of_nonneg_left (Rat.le_trans h1 h2) (by grind)
theorem quotient (h:Fin2 (el S2 A k i j))(hk:k≤n)(hi:i<n)(hj:j<n){d Q:Nat→Rat}(hd:∀ x,x<n→1≤d x)(hdI:∀ x,x<n→isI (d x))(hAI:∀ x y,x<n→y<n→Fin2 (A x y)→isI (d x * val (A x y)))
  (hQ:∀ x,x<n→2 * (d x * (1+rs n (fun m=>val (A x m))))≤Q x) :
  ∃ N M:Rat,isI N∧isI M∧M≠0∧val (el S2 A k i j) * M=N∧ab N≤Q i * rp n Q∧ab M≤Q i * rp n Q:=by
 have hsum:∀ x,0≤rs n (fun m=>val (A x m)):=fun x=>zcB (fun m _=>zbE _)
 have hdR:∀ x,x<n→d x≤d x * (1+rs n (fun m=>val (A x m))):=fun x hx=>by
  have h1:=hd x hx;have h2:=Rat.mul_nonneg (show 0≤d x by grind) (hsum x)
  grind
 have hQ1:∀ x,x<n→1≤Q x:=fun x hx=>by
  have:=hQ x hx;have:=hdR x hx;have:=hd x hx
  grind
 have hV:∀ y c,y<(onL A k i j).length+1→c<(onL A k i j).length+1→isI (d (nd A k i j c) * idV (fun x y=>val (onA A k i j x y)) y c):=fun y c hy hc=>by
  have hc2:=zje (A:=A) (j:=j) hk hi hc;have e:d (nd A k i j c) * idV (fun x y=>val (onA A k i j x y)) y c=d (nd A k i j c) * (if c=y then 1 else 0) + -(d (nd A k i j c) * val (onA A k i j c y)):=by unfold idV;grind
  rw[e];refine ziy (zbY (hdI _ hc2) (by split;exact⟨1,rfl⟩;exact⟨0,rfl⟩)) (zwf ?_);cases y with
  | zero=>rw[zwg];exact zbY (hdI _ hc2) ⟨0,rfl⟩
  | succ y =>
   rw[zwh];exact hAI _ _ hc2 (zje hk hi hy) (zsJ h hc (by omega))
 have hE:∀ c,c<(onL A k i j).length+1→isI (d (nd A k i j c) * val (A (nd A k i j c) j)):=fun c hc=>hAI _ _ (zje hk hi hc) hj (zfI (ziD h hc)).1
 have hcr:=zAk (k:=(onL A k i j).length) (fun y c=>d (nd A k i j c) * idV (fun x y=>val (onA A k i j x y)) y c) (fun y=>val (el S2 A k (nd A k i j y) j)) (fun c=>d (nd A k i j c) * val (A (nd A k i j c) j)) (fun c hc=>by
  rw[zHO h hc,← zcH];exact zaL (fun y _=>by grind))
 have hsc:=zms ((onL A k i j).length+1) (fun c=>d (nd A k i j c)) (idV (fun x y=>val (onA A k i j x y)));have hne:=zxA ((onL A k i j).length+1) (onA A k i j) (fun t x y ht hx hy=>zHa h ht hx hy);have hD:=zhQ (f:=fun c=>d (nd A k i j c)) (n:=(onL A k i j).length+1) (fun c hc=>hd _ (zje hk hi hc))
 have hrow:∀ c,c<(onL A k i j).length+1→rs ((onL A k i j).length+1) (fun y=>ab (d (nd A k i j c) * idV (fun x y=>val (onA A k i j x y)) y c))≤d (nd A k i j c) * (1+rs n (fun m=>val (A (nd A k i j c) m))):=fun c hc=>by
  have h1:=hd _ (zje (A:=A) (j:=j) hk hi hc)
  have hle:rs ((onL A k i j).length+1) (fun y=>ab (d (nd A k i j c) * idV (fun x y=>val (onA A k i j x y)) y c))≤rs ((onL A k i j).length+1) (fun y=>d (nd A k i j c) * (1 * (if c=y then 1 else 0)+val (onA A k i j c y))):=zhO (fun y _=>by
   rw[ziz,zeE (show 0≤d (nd A k i j c) by grind)];refine Rat.mul_le_mul_of_nonneg_left ?_ (by grind);have h2:=zbE (onA A k i j c y);unfold idV;refine zxy ?_ ?_ <;> split <;> grind)
  rw[zcH,zfl,zlA (fun _=>1) hc] at hle;exact Rat.le_trans hle (Rat.mul_le_mul_of_nonneg_left (by have:=zHe (A:=A) (i:=i) (j:=j) hk c;grind) (by grind))
 have hb1:rp ((onL A k i j).length+1) (fun c=>rs ((onL A k i j).length+1) (fun y=>ab (d (nd A k i j c) * idV (fun x y=>val (onA A k i j x y)) y c)))≤Q i * rp n Q:=by
  refine Rat.le_trans (zhP (fun c _=>zcB (fun y _=>zbR _)) (fun c hc => ?_)) (zwi (A:=A) (j:=j) (Q:=Q) hk hi hQ1);have hx:=zje (A:=A) (j:=j) hk hi hc;have h1:=hrow c hc;have h2:=hQ _ hx;have h3:=hdR _ hx;have h4:=hd _ hx
  grind
 have hb2:rp ((onL A k i j).length+1) (fun c=>rs ((onL A k i j).length+1) (fun y=>ab (up (fun y c=>d (nd A k i j c) * idV (fun x y=>val (onA A k i j x y)) y c) 0 (fun c=>d (nd A k i j c) * val (A (nd A k i j c) j)) y c)))≤Q i * rp n Q:=by
  refine Rat.le_trans (zhP (fun c _=>zcB (fun y _=>zbR _)) (fun c hc => ?_)) (zwi (A:=A) (j:=j) (Q:=Q) hk hi hQ1);have hx:=zje (A:=A) (j:=j) hk hi hc;have h1:=hrow c hc;have h2:=hQ _ hx;have h4:=hd _ hx;rw[zjb] at h1 ⊢;have e1:rs (onL A k i j).length (fun m=>ab (up (fun y c=>d (nd A k i j c) * idV (fun x y=>val (onA A k i j x y)) y c) 0 (fun c=>d (nd A k i j c) * val (A (nd A k i j c) j)) (m+1) c))=rs (onL A k i j).length (fun m=>ab (d (nd A k i j c) * idV (fun x y=>val (onA A k i j x y)) (m+1) c)):=zaL (fun m _=>by unfold up;rw[if_neg (by omega)]);have e2:up (fun y c=>d (nd A k i j c) * idV (fun x y=>val (onA A k i j x y)) y c) 0 (fun c=>d (nd A k i j c) * val (A (nd A k i j c) j)) 0 c=d (nd A k i j c) * val (A (nd A k i j c) j):=by unfold up;rw[if_pos rfl]
  rw[e1,e2,ziz,zeE (show 0≤d (nd A k i j c) by grind),zeE (zbE _)];have h5:=zrG (f:=fun m=>val (A (nd A k i j c) m)) (n:=n) (j:=j) (fun m _=>zbE _) hj;have h6:=Rat.mul_le_mul_of_nonneg_left h5 (show 0≤d (nd A k i j c) by grind);have h7:=zbR (d (nd A k i j c) * idV (fun x y=>val (onA A k i j x y)) 0 c)
  grind
 refine⟨_,_,zkp (fun y c hy hc => ?_),zkp hV,?_,hcr.symm,Rat.le_trans (zho _ _) hb2,Rat.le_trans (zho _ _) hb1⟩
 ·unfold up
  by_cases e:y=0
  ·rw[if_pos e];exact hE c hc
  ·rw[if_neg e];exact hV y c hy hc
 ·rw[hsc]
  intro e;rcases Rat.mul_eq_zero.1 e with e|e
  ·grind
  ·exact hne e
end
theorem zgF (y:Rat):(y.num:Rat)=y * (y.den:Rat):=by
 have h:=Rat.num_divInt_den y;rw[Rat.divInt_eq_div] at h;have hd:((y.den:Int):Rat)≠0:=fun e=>y.den_nz (by have:=Rat.intCast_inj.1 (e.trans (by rfl:(0:Rat)=((0:Int):Rat)));omega);have h2:=Rat.div_mul_cancel (a:=(y.num:Rat)) hd;rw[h] at h2;exact h2.symm
theorem zma {y:Rat}{N M:Rat}(hN:isI N)(hM:isI M)(h0:M≠0)(h:y * M=N){P:Nat}(h1:ab N≤(P:Rat))(h2:ab M≤(P:Rat)):y.num.natAbs≤P∧y.den≤P:=by
 obtain⟨a,rfl⟩:=hN;obtain⟨b,rfl⟩:=hM;have hb:b≠0:=fun e=>h0 (by rw[e];rfl)
 have hab:∀ z:Int,ab (z:Rat)≤(P:Rat)→z.natAbs≤P:=fun z hz=>by
  have h3:=Rat.le_trans (zxz (z:Rat)) hz;have h4:=Rat.le_trans (zkq (z:Rat)) hz
  have h5:z≤(P:Int):=by
   have:(z:Rat)≤((P:Int):Rat):=h3;exact Rat.intCast_le_intCast.1 this
  have h6 : -z≤(P:Int):=by
   have:((-z:Int):Rat)≤((P:Int):Rat):=by rw[Rat.intCast_neg];exact h4
   exact Rat.intCast_le_intCast.1 this
  omega
 have hA:=hab a h1;have hB:=hab b h2
 have hy:(y.num * b:Int)=a * (y.den:Int):=by
  have e1:(y.num:Rat)=y * (y.den:Rat):=zgF y
  have e2:((y.num * b:Int):Rat)=((a * (y.den:Int):Int):Rat):=by
   rw[Rat.intCast_mul,Rat.intCast_mul,e1,← h];show y * (y.den:Rat) * (b:Rat)=y * (b:Rat) * (y.den:Rat)
   grind
  exact Rat.intCast_inj.1 e2
 have hcop:=y.reduced
 have hden:y.den ∣ b.natAbs:=by
  have h3:(y.den:Int) ∣ y.num * b:=⟨a,by rw[hy];exact Int.mul_comm _ _⟩;have h4:y.den ∣ (y.num * b).natAbs:=Int.ofNat_dvd_left.1 h3;rw[Int.natAbs_mul] at h4;exact(Nat.Coprime.dvd_of_dvd_mul_left hcop.symm h4)
 have hdb:y.den≤b.natAbs:=Nat.le_of_dvd (by omega) hden;refine⟨?_,by omega⟩
 by_cases ha:a=0
 ·have:y.num * b=0:=by rw[hy,ha,Int.zero_mul]
  rcases Int.mul_eq_zero.1 this with h|h
  ·rw[h];exact Nat.zero_le _
  ·exact absurd h hb
 ·have hnum:y.num.natAbs ∣ a.natAbs:=by
   have h3:y.num ∣ a * (y.den:Int):=⟨b,hy.symm⟩;have h4:y.num.natAbs ∣ (a * (y.den:Int)).natAbs:=Int.natAbs_dvd_natAbs.2 h3;rw[Int.natAbs_mul] at h4;exact Nat.Coprime.dvd_of_dvd_mul_right hcop (by simpa using h4)
  exact Nat.le_trans (Nat.le_of_dvd (by omega) hnum) hA
open Go.RowKit
def dl:List Rat→Rat
 | []=>1
 | x::l=>(x.den:Rat) * dl l
def bl:List Rat→Rat
 | []=>1
 | x::l=>((x.num:Rat)+(x.den:Rat)) * bl l
def sl:List Rat→Rat
 | []=>0
 | x::l=>x+sl l
theorem zwj (x:Rat):(1:Rat)≤(x.den:Rat):=by
 have h:((1:Int):Rat)≤((x.den:Int):Rat):=Rat.intCast_le_intCast.2 (by have:=x.den_pos;omega);exact h
theorem zlB (x:Rat):isI (x.den:Rat):=⟨(x.den:Int),rfl⟩
theorem zez:∀ l,1≤dl l
 | []=>Rat.le_refl
 | x::l=>by
  have h1:=zez l;have h2:=zwj x;have h3:=Rat.mul_le_mul_of_nonneg_right h2 (show 0≤dl l by grind);show 1≤(x.den:Rat) * dl l
  grind
theorem zhr:∀ l,isI (dl l)
 | []=>⟨1,rfl⟩
 | x::l=>zbY (zlB x) (zhr l)
theorem zcT:∀ {l:List Rat},(∀ x∈l,0≤x)→0≤sl l
 | [],_=>Rat.le_refl
 | x::l,h=>by
  have h1:=zcT (l:=l) (fun y hy=>h y (List.mem_cons_of_mem _ hy));have h2:=h x (List.mem_cons_self ..);show 0≤x+sl l
  grind
theorem zjf:∀ {l:List Rat},(∀ x∈l,0≤x)→dl l * (1+sl l)≤bl l
 | [],_=>by show(1:Rat) * (1+0)≤1;grind
 | x::l,h=>by
  have ih:=zjf (l:=l) (fun y hy=>h y (List.mem_cons_of_mem _ hy));have hs:=zcT (l:=l) (fun y hy=>h y (List.mem_cons_of_mem _ hy));have h0:=h x (List.mem_cons_self ..);have h1:=zez l;have h2:=zwj x;have hn:=zgF x;have hn0:0≤(x.num:Rat):=by rw[hn];exact Rat.mul_nonneg h0 (by grind)
  have h3:=Rat.mul_le_mul_of_nonneg_left ih (show 0≤(x.den:Rat) by grind)
  have h4:dl l≤dl l * (1+sl l):=by
   have:=Rat.mul_nonneg (show 0≤dl l by grind) hs
   grind
  have h5:=Rat.mul_le_mul_of_nonneg_left (Rat.le_trans h4 ih) hn0;show(x.den:Rat) * dl l * (1+(x+sl l))≤((x.num:Rat)+(x.den:Rat)) * bl l;have e:(x.den:Rat) * dl l * (1+(x+sl l))=(x.den:Rat) * (dl l * (1+sl l))+(x.num:Rat) * dl l:=by rw[hn];grind
  rw[e]
  grind
theorem zjg (p:Nat→Bool):∀ (l:List (Nat × Rat)),isI (dl (l.map (·.2)) * sl ((l.filter (fun x=>p x.1)).map (·.2)))
 | []=>⟨0,by show(1:Rat) * 0=_;grind⟩
 | x::l=>by
  have ih:=zjg p l;have hd:=zhr (l.map (·.2));have hn:=zgF x.2;have hx:isI ((x.2.den:Rat) * x.2):=⟨x.2.num,by rw[hn];grind⟩;show isI ((x.2.den:Rat) * dl (l.map (·.2)) * sl (((x::l).filter (fun x=>p x.1)).map (·.2)))
  by_cases hp:p x.1=true
  ·rw[List.filter_cons_of_pos (p:=fun x:Nat × Rat=>p x.1) hp]
   show isI ((x.2.den:Rat) * dl (l.map (·.2)) * (x.2+sl ((l.filter (fun x=>p x.1)).map (·.2))));have e:(x.2.den:Rat) * dl (l.map (·.2)) * (x.2+sl ((l.filter (fun x=>p x.1)).map (·.2)))=(x.2.den:Rat) * x.2 * dl (l.map (·.2))+(x.2.den:Rat) * (dl (l.map (·.2)) * sl ((l.filter (fun x=>p x.1)).map (·.2))):=by grind
   rw[e];exact ziy (zbY hx hd) (zbY (zlB _) ih)
  ·rw[List.filter_cons_of_neg (p:=fun x:Nat × Rat=>p x.1) hp]
   have e:(x.2.den:Rat) * dl (l.map (·.2)) * sl ((l.filter (fun x=>p x.1)).map (·.2))=(x.2.den:Rat) * (dl (l.map (·.2)) * sl ((l.filter (fun x=>p x.1)).map (·.2))):=by grind
   rw[e];exact zbY (zlB _) ih
theorem zHf:∀ {l:List Rat},(∀ x∈l,0≤x)→1≤bl l
 | l,h=>by
  have h1:=zjf h;have h2:=zez l;have h3:=Rat.mul_nonneg (show 0≤dl l by grind) (zcT h)
  grind
def tenP (n:Nat):Rat:=((10 ^ n:Nat):Rat)
theorem zbV (m n:Nat):tenP (m+n)=tenP m * tenP n:=by
 unfold tenP;rw[Nat.pow_add];show(((10 ^ m * 10 ^ n:Nat):Int):Rat)=(((10 ^ m:Nat):Int):Rat) * (((10 ^ n:Nat):Int):Rat);rw[Int.natCast_mul,Rat.intCast_mul]
theorem zbx (n:Nat):0≤tenP n:=by
 have h:((0:Int):Rat)≤(((10 ^ n:Nat):Int):Rat):=Rat.intCast_le_intCast.2 (Int.natCast_nonneg _);exact h
theorem zrH {w:Nat}:∀ {l:List Rat},(∀ x∈l,0≤x∧(x.num:Rat)+(x.den:Rat)≤tenP w)→bl l≤tenP (w * l.length)
 | [],_=>by show(1:Rat)≤tenP (w * 0);rw[Nat.mul_zero];exact Rat.le_refl
 | x::l,h=>by
  have ih:=zrH (l:=l) (fun y hy=>h y (List.mem_cons_of_mem _ hy));have h1:=h x (List.mem_cons_self ..);have h2:=zHf (l:=l) (fun y hy=>(h y (List.mem_cons_of_mem _ hy)).1);show((x.num:Rat)+(x.den:Rat)) * bl l≤tenP (w * (l.length+1));rw[Nat.mul_succ,zbV];have h3:=Rat.mul_le_mul_of_nonneg_right h1.2 (show 0≤bl l by grind);have h4:=Rat.mul_le_mul_of_nonneg_left ih (zbx w);have:=Rat.le_trans h3 h4
  grind
open Go.RowKit
def ns:Nat→(Nat→Nat)→Nat
 | 0,_=>0
 | n+1,f=>ns n f+f n
theorem zFa {f:Nat→Nat}:∀ {n i:Nat},i<n→f i≤ns n f
 | n+1,i,h=>by
  show f i≤ns n f+f n
  by_cases e:i=n
  ·subst e;omega
  ·have:=zFa (f:=f) (n:=n) (i:=i) (by omega);omega
theorem zsM {f:Nat→Rat}{g:Nat→Nat}:∀ {n:Nat},(∀ m,m<n→0≤f m∧f m≤tenP (g m))→rp n f≤tenP (ns n g)
 | 0,_=>by show(1:Rat)≤tenP 0;exact Rat.le_refl
 | n+1,h=>by
  have ih:=zsM (f:=f) (g:=g) (n:=n) (fun m hm=>h m (by omega));have h1:=h n (by omega);show rp n f * f n≤tenP (ns n g+g n);rw[zbV];have h2:=Rat.mul_le_mul_of_nonneg_right ih h1.1;have h3:=Rat.mul_le_mul_of_nonneg_left h1.2 (zbx (ns n g));exact Rat.le_trans h2 h3
theorem zsN (f:Nat→Nat):∀ n,ns n (fun x=>4 * f x+1)=4 * ns n f+n
 | 0=>rfl
 | n+1=>by
  show ns n (fun x=>4 * f x+1)+(4 * f n+1)=4 * (ns n f+f n)+(n+1);rw[zsN f n];omega
theorem zAu (e:Nat)(v:Rat)(hv:0≤v):∀ n,rs n (fun m=>if e=m then v else 0)≤v
 | 0=>hv
 | n+1=>by
  show rs n (fun m=>if e=m then v else 0)+(if e=n then v else 0)≤v
  by_cases h:e=n
  ·rw[if_pos h,zgS (fun m hm=>by rw[if_neg (by omega)])];grind
  ·rw[if_neg h];have:=zAu e v hv n;grind
theorem zjh (n:Nat):∀ {l:List (Nat × Rat)},(∀ e∈l,0≤e.2)→rs n (fun m=>sl ((l.filter (fun e=>e.1 == m)).map (·.2)))≤sl (l.map (·.2))
 | [],_=>by
  have h:rs n (fun m=>sl ((([]:List (Nat × Rat)).filter (fun e=>e.1 == m)).map (·.2)))=0:=zgS (fun _ _=>rfl);rw[h];exact Rat.le_refl
 | e::l,h=>by
  have ih:=zjh n (l:=l) (fun y hy=>h y (List.mem_cons_of_mem _ hy));have h0:=h e (List.mem_cons_self ..)
  have e1:rs n (fun m=>sl (((e::l).filter (fun e=>e.1 == m)).map (·.2)))=rs n (fun m=>(if e.1=m then e.2 else 0)+sl ((l.filter (fun e=>e.1 == m)).map (·.2))):=zaL (fun m _=>by
   by_cases hp:e.1=m
   ·rw[if_pos hp,List.filter_cons_of_pos (p:=fun e:Nat × Rat=>e.1 == m) (by simp[hp])];rfl
   ·rw[if_neg hp,List.filter_cons_of_neg (p:=fun e:Nat × Rat=>e.1 == m) (by simp[hp])];grind)
  rw[e1,zfl];have h1:=zAu e.1 e.2 h0 n;show _≤e.2+sl (l.map (·.2))
  grind
theorem zAv {A:Nat→Nat→El 2}{k i j n c:Nat}(L:Nat→List (Nat × Rat))(hk:k≤n)(hi:i<n)(hj:j<n)
  (hL:∀ x,x<n→∀ e∈L x,0≤e.2∧(e.2.num:Rat)+(e.2.den:Rat)≤tenP 4)
  (hA:∀ x y,x<n→y<n→Fin2 (A x y)→val (A x y)=sl (((L x).filter (fun e=>e.1 == y)).map (·.2)))
  (hc:ns n (fun x=>(L x).length)≤c) (h:Fin2 (el S2 A k i j)):zaA (8 * c+n+2) (el S2 A k i j).1:=by
 have hpos:∀ x,x<n→∀ y∈(L x).map (·.2),0≤y:=fun x hx y hy=>by
  obtain⟨e,he,rfl⟩:=List.mem_map.1 hy;exact(hL x hx e he).1
 have hten:∀ x,x<n→bl ((L x).map (·.2))≤tenP (4 * (L x).length):=fun x hx=>by
  have:=zrH (w:=4) (l:=(L x).map (·.2)) (fun y hy=>by
   obtain⟨e,he,rfl⟩:=List.mem_map.1 hy;exact hL x hx e he)
  rwa [List.length_map] at this
 have hsum:∀ x,x<n→rs n (fun m=>val (A x m))≤sl ((L x).map (·.2)):=fun x hx=>by
  refine Rat.le_trans (zhO (fun m hm => ?_)) (zjh n (fun e he=>(hL x hx e he).1))
  by_cases hf:Fin2 (A x m)
  ·rw[hA x m hx hm hf];exact Rat.le_refl
  ·have:val (A x m)=0:=by unfold val;rw[zci.1 hf]
   rw[this];refine zcT (fun y hy => ?_);obtain⟨e,he,rfl⟩:=List.mem_map.1 hy;exact(hL x hx e (List.mem_filter.1 he).1).1
 have hQ:∀ x,x<n→2 * (dl ((L x).map (·.2)) * (1+rs n (fun m=>val (A x m))))≤tenP (4 * (L x).length+1):=fun x hx=>by
  have h1:=zjf (hpos x hx);have h2:=hten x hx;have h3:=hsum x hx;have h4:=zez ((L x).map (·.2));have h5:=Rat.mul_le_mul_of_nonneg_left h3 (show 0≤dl ((L x).map (·.2)) by grind);have h6:=zbx (4 * (L x).length);rw[zbV];have h7:tenP 1=10:=by unfold tenP;decide +kernel
  rw[h7]
  grind
 obtain⟨N,M,hN,hM,hM0,hy,hbN,hbM⟩:=quotient (A:=A) (k:=k) (i:=i) (j:=j) (n:=n) (d:=fun x=>dl ((L x).map (·.2))) (Q:=fun x=>tenP (4 * (L x).length+1)) h hk hi hj (fun x _=>zez _) (fun x _=>zhr _) (fun x y hx hy hf=>by
  rw[hA x y hx hy hf];exact zjg (fun z=>z == y) (L x)) hQ
 have hP:tenP (4 * (L i).length+1) * rp n (fun x=>tenP (4 * (L x).length+1))≤((10 ^ (8 * c+n+1):Nat):Rat):=by
  have h1:=zsM (f:=fun x=>tenP (4 * (L x).length+1)) (g:=fun x=>4 * (L x).length+1) (n:=n) (fun m _=>⟨zbx _,Rat.le_refl⟩);rw[zsN (fun x=>(L x).length) n] at h1;have h2:=Rat.mul_le_mul_of_nonneg_left h1 (zbx (4 * (L i).length+1));rw[← zbV] at h2
  have h3:4 * (L i).length+1+(4 * ns n (fun x=>(L x).length)+n)≤8 * c+n+1:=by
   have:=zFa (f:=fun x=>(L x).length) hi
   omega
  refine Rat.le_trans h2 ?_
  have h4:((10 ^ (4 * (L i).length+1+(4 * ns n (fun x=>(L x).length)+n)):Nat):Int)≤((10 ^ (8 * c+n+1):Nat):Int):=by
   have:=Nat.pow_le_pow_right (show 0<10 by omega) h3;exact Int.ofNat_le.2 this
  exact Rat.intCast_le_intCast.2 h4
 have hw:=zma (y:=val (el S2 A k i j)) hN hM hM0 hy (P:=10 ^ (8 * c+n+1)) (Rat.le_trans hbN hP) (Rat.le_trans hbM hP);rw[zcE h];have hlt:10 ^ (8 * c+n+1)<10 ^ (8 * c+n+2):=Nat.pow_lt_pow_right (by omega) (by omega);exact⟨zek _ _ (by omega) (Nat.lt_of_le_of_lt hw.1 hlt),zek _ _ (by omega) (Nat.lt_of_le_of_lt hw.2 hlt)⟩
open Go.RowKit
open Go.Lib (nDigits)
variable {α:Type}
def cs (S:Sr α):List (Nat × α)→Nat→α
 | [],_=>S.zero
 | e::l,y=>if e.1=y then S.add e.2 (cs S l y) else cs S l y
theorem zlC (S:Sr α)(e:Nat × α)(y:Nat):∀ l,cs S (l++[e]) y=if e.1=y then S.add (cs S l y) e.2 else cs S l y
 | []=>by
  show(if e.1=y then S.add e.2 S.zero else S.zero)=if e.1=y then S.add S.zero e.2 else S.zero
  rw[S.add_comm]
 | x::l=>by
  show(if x.1=y then S.add x.2 (cs S (l++[e]) y) else cs S (l++[e]) y)=if e.1=y then S.add (if x.1=y then S.add x.2 (cs S l y) else cs S l y) e.2 else (if x.1=y then S.add x.2 (cs S l y) else cs S l y)
  rw[zlC S e y l]
  by_cases h1:x.1=y
  ·simp only[h1,if_true]
   by_cases h2:e.1=y
   ·simp only[h2,if_true];rw[S.add_assoc]
   ·simp only[h2,if_false]
  ·simp only[h1,if_false]
def Sh4:Ext→Prop
 | .inr x=>nDigits x.num.natAbs+(if x.den=1 then 0 else nDigits x.den)≤4
 | _=>True
theorem Sh4.wide {v:Ext}(h:Sh4 v):zaA 4 v:=by
 rcases v with(_|_)|x
 ·trivial
 ·trivial
 ·have h1:nDigits x.num.natAbs+(if x.den=1 then 0 else nDigits x.den)≤4:=h
  refine⟨by omega,?_⟩
  by_cases hd:x.den=1
  ·rw[hd,show nDigits 1=1 from Lib.nDigits_small (by decide)];omega
  ·rw[if_neg hd] at h1;omega
theorem Sh4.ten {x:Rat}(h:Sh4 (.inr x))(h0:0≤x):(x.num:Rat)+(x.den:Rat)≤tenP 4:=by
 have h1:nDigits x.num.natAbs+(if x.den=1 then 0 else nDigits x.den)≤4:=h;have hn:=Rat.num_nonneg.2 h0;have u1:=zej x.num.natAbs;have u2:=zej x.den;have p1:=Lib.nDigits_pos x.num.natAbs
 have key:x.num+(x.den:Int)≤((10 ^ 4:Nat):Int):=by
  by_cases hd:x.den=1
  ·rw[if_pos hd] at h1
   have h2:x.num.natAbs<10 ^ 4:=Nat.lt_of_lt_of_le u1 (Nat.pow_le_pow_right (by omega) (by omega));rw[hd]
   omega
  ·rw[if_neg hd] at h1
   have p2:=Lib.nDigits_pos x.den;have h2:x.num.natAbs<10 ^ 3:=Nat.lt_of_lt_of_le u1 (Nat.pow_le_pow_right (by omega) (by omega));have h3:x.den<10 ^ 3:=Nat.lt_of_lt_of_le u2 (Nat.pow_le_pow_right (by omega) (by omega))
   omega
 have h3:=Rat.intCast_le_intCast.2 key;rw[Rat.intCast_add] at h3;exact h3
def fins:List (Nat × El 2)→List (Nat × Rat)
 | []=>[]
 | e::l=>match e.2.1 with
  | .inr x=>(e.1,x)::fins l
  | _=>fins l
theorem zhS (e:Nat × El 2)(l:List (Nat × El 2)):(¬ Fin2 e.2∧fins (e::l)=fins l)∨(Fin2 e.2∧fins (e::l)=(e.1,val e.2)::fins l):=by
 rcases El2.cases e.2 with h|⟨x,h,hx⟩
 ·refine .inl ⟨zci.2 h,?_⟩
  conv=>lhs;unfold fins
  rw[h]
 ·refine .inr ⟨⟨x,h⟩,?_⟩
  rw[zhp h]
  conv=>lhs;unfold fins
  rw[h]
theorem zhT:∀ l,(fins l).length≤l.length
 | []=>Nat.le_refl _
 | e::l=>by
  have ih:=zhT l;rcases zhS e l with⟨_,h⟩|⟨_,h⟩ <;> rw[h]
  ·rw[List.length_cons];omega
  ·rw[List.length_cons,List.length_cons];omega
theorem zcn:∀ {l:List (Nat × El 2)},(∀ e∈l,Sh4 e.2.1)→∀ e∈fins l,0≤e.2∧(e.2.num:Rat)+(e.2.den:Rat)≤tenP 4
 | [],_,e,he=>by cases he
 | a::l,h,e,he=>by
  have ih:=zcn (l:=l) (fun x hx=>h x (List.mem_cons_of_mem _ hx));rcases zhS a l with⟨_,h2⟩|⟨hf,h2⟩ <;> rw[h2] at he
  ·exact ih e he
  ·rcases List.mem_cons.1 he with rfl|he
   ·have h3:=h a (List.mem_cons_self ..)
    rw[zcE hf] at h3;exact⟨zbE _,h3.ten (zbE _)⟩
   ·exact ih e he
theorem zks (y:Nat):∀ {l:List (Nat × El 2)},Fin2 (cs S2 l y)→val (cs S2 l y)=sl (((fins l).filter (fun e=>e.1 == y)).map (·.2))
 | [],_=>rfl
 | e::l,h=>by
  by_cases hy:e.1=y
  ·have e1:cs S2 (e::l) y=S2.add e.2 (cs S2 l y):=if_pos hy
   rw[e1] at h ⊢;obtain⟨h1,h2⟩:=zgT.1 h;have ih:=zks y (l:=l) h2;rcases zhS e l with⟨h3,_⟩|⟨_,h3⟩
   ·exact absurd h1 h3
   ·rw[h3,List.filter_cons_of_pos (by simp[hy]),List.map_cons,zgU h1 h2,ih];rfl
  ·have e1:cs S2 (e::l) y=cs S2 l y:=if_neg hy
   rw[e1] at h ⊢;have ih:=zks y (l:=l) h;rcases zhS e l with⟨_,h3⟩|⟨_,h3⟩ <;> rw[h3]
   ·exact ih
   ·rw[List.filter_cons_of_neg (by simp[hy])];exact ih
theorem zoY {f g:Nat→Nat}:∀ {n:Nat},(∀ m,m<n→f m≤g m)→ns n f≤ns n g
 | 0,_=>Nat.le_refl _
 | n+1,h=>by
  have h1:=zoY (f:=f) (g:=g) (n:=n) (fun m hm=>h m (by omega));have h2:=h n (by omega);show ns n f+f n≤ns n g+g n
  omega
theorem zDN {A:Nat→Nat→El 2}{M:Nat→List (Nat × El 2)}{n c t i j:Nat}(ht:t≤n)(hi:i<n)(hj:j<n)
  (hA:∀ x y,x<n→y<n→A x y=cs S2 (M x) y) (hM:∀ x,x<n→∀ e∈M x,Sh4 e.2.1) (hc:ns n (fun x=>(M x).length)≤c) :
  zaA (8 * c+n+2) (el S2 A t i j).1:=by
 by_cases hf:Fin2 (el S2 A t i j)
 ·refine zAv (fun x=>fins (M x)) ht hi hj (fun x hx=>zcn (hM x hx)) (fun x y hx hy h => ?_) (Nat.le_trans (zoY (fun m _=>zhT (M m))) hc) hf
  rw[hA x y hx hy] at h ⊢;exact zks y h
 ·rw[zci.1 hf];trivial
theorem zgk {k:Int}(h:k=1∨k=3){n:Nat}{u v:Ext}(hu:zaA n u)(hv:zaA n v):zaA n (zcp k u v):=by
 rcases h with rfl|rfl
 ·show zaA n (zbH u v)
  rcases zvU u v with h|h <;> rw[h]
  ·exact hu
  ·exact hv
 ·show zaA n (zbD u v)
  rcases zoR u v with h|h <;> rw[h]
  ·exact hu
  ·exact hv
theorem zuK {k:Int}(h:k=1∨k=3)(u:Ext):zaA 1 (zcM k u):=by
 rcases h with rfl|rfl
 ·show zaA 1 (if cmpE u (.inr 0)<0 then .inl false else .inr 0)
  split
  ·trivial
  ·exact zgC
 ·show zaA 1 (if 0<cmpE u (.inr 1) then .inl true else .inr 1)
  split
  ·trivial
  ·exact zqi
def wn:Nat→Nat
 | 0=>4
 | t+1=>2 * wn t+3
theorem zHg:∀ t,1≤wn t
 | 0=>by decide
 | t+1=>by show 1≤2 * wn t+3;omega
theorem zwk:∀ {s t:Nat},s≤t→wn s≤wn t
 | s,0,h=>by rw[Nat.le_zero.1 h];exact Nat.le_refl _
 | s,t+1,h=>by
  by_cases e:s=t+1
  ·rw[e];exact Nat.le_refl _
  ·have:=zwk (s:=s) (t:=t) (by omega)
   show wn s≤2 * wn t+3
   omega
theorem zoZ {k:Int}(hk:zad k)(h:k=1∨k=3)(y:Nat):∀ {l:List (Nat × El k)},(∀ e∈l,Sh4 e.2.1)→zaA 4 (cs (srE k hk) l y).1
 | [],_=>(zda k).mono (by omega)
 | e::l,hl=>by
  have ih:=zoZ hk h y (l:=l) (fun x hx=>hl x (List.mem_cons_of_mem _ hx))
  by_cases hy:e.1=y
  ·have e1:cs (srE k hk) (e::l) y=(srE k hk).add e.2 (cs (srE k hk) l y):=if_pos hy
   rw[e1];exact zgk h (hl e (List.mem_cons_self ..)).wide ih
  ·have e1:cs (srE k hk) (e::l) y=cs (srE k hk) l y:=if_neg hy
   rw[e1];exact ih
theorem zqn {k:Int}(hk:zad k)(h:k=1∨k=3){A:Nat→Nat→El k}{n:Nat}(hA:∀ x y,x<n→y<n→zaA 4 (A x y).1):∀ t,t≤n→∀ i j,i<n→j<n→zaA (wn t) (el (srE k hk) A t i j).1
 | 0,_,i,j,hi,hj=>hA i j hi hj
 | t+1,ht,i,j,hi,hj=>by
  have ih:=zqn hk h hA t (by omega);have w1:=ih i j hi hj;have w2:=ih i t hi (by omega);have w4:=ih t j (by omega) hj;have w3:=zuK h (el (srE k hk) A t t t).1;have p:=zHg t;have t1:zaA (wn t+1+1) (zaZ k (el (srE k hk) A t i t).1 (zcM k (el (srE k hk) A t t t).1)):=zdH k p w2 w3;have t2:=zdH k (by omega) t1 w4;exact zgk h (w1.mono (by show wn t≤2 * wn t+3;omega)) (t2.mono (by show wn t+1+1+wn t+1≤2 * wn t+3;omega))
structure ziE (k:Int)(hk:zad k)(A:Nat→Nat→El k)(n:Nat)(M:Nat→List (Nat × El k)):Prop where
 row:n≤6
 is:∀ x y,x<n→y<n→A x y=cs (srE k hk) (M x) y
 short:∀ x,x<n→∀ e∈M x,Sh4 e.2.1
 few:ns n (fun x=>(M x).length)≤15
variable {k:Int} {hk:zad k} {A:Nat→Nat→El k} {n:Nat} {M:Nat→List (Nat × El k)}
theorem ziE.el (h:ziE k hk A n M){t i j:Nat}(h5:t≤5)(ht:t≤n)(hi:i<n)(hj:j<n):zaA (if k=2 then 128 else wn t) (el (srE k hk) A t i j).1:=by
 by_cases e:k=2
 ·subst e
  rw[if_pos rfl];have h1:=h.row;exact(zDN (c:=15) ht hi hj h.is h.short h.few).mono (by omega)
 ·rw[if_neg e]
  have e13:k=1∨k=3:=by rcases hk with h|h|h <;> omega
  refine zqn hk e13 (fun x y hx hy => ?_) t ht i j hi hj;rw[h.is x y hx hy];exact zoZ hk e13 y (h.short x hx)
theorem wn5:wn 5=221:=rfl
theorem ziE.wide (h:ziE k hk A n M){t i j:Nat}(h5:t≤5)(ht:t≤n)(hi:i<n)(hj:j<n):zaA 221 (Proofs.YtaogepcaoogpgaaGreatDoor.el (srE k hk) A t i j).1:=by
 refine(h.el h5 ht hi hj).mono ?_;have:=zwk h5;rw[wn5] at this
 split <;> omega
end Go.Proofs.YtaogepcaoogpgaaGreatDoor
