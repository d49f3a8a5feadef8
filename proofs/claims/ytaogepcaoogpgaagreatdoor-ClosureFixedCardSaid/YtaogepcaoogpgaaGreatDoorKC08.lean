/- WC10 WC13 WC61 -/
import Derived.Test.YtaogepcaoogpgaaGreatDoorKC07
set_option linter.unusedVariables false
set_option linter.unusedSimpArgs false
set_option maxRecDepth 100000
set_option maxHeartbeats 16000000
namespace Go.Proofs.YtaogepcaoogpgaaGreatDoor
open Go.RowKit
open Go.Lib (nDigits decDigits)
def Fun (w:World)(g F:Nat):Prop:=w.heap[g]? = some (.cells #[.func (.func F) #[] #[]] 147 (0,0))
theorem Fun.grown {w w':World}{g F:Nat}(h:Fun w g F)(hg:w.grownBy w' none):Fun w' g F:=(hg.block _ (lt_of_block h) (by simp)).trans h
theorem zET (F g0 g1 g2:Nat)(b1 b2:Bool)(A B C D S:ByteArray)(N:Value)(w:World)(hE:Enters F)(h0:Fun w g0 F)(h1:Num w g1 b1 A B)(h2:Num w g2 b2 C D)
  (M:Hid (∀ w,Calls Tryz.prog F #[.agg #[.bool b1,.string A,.string B],.agg #[.bool b2,.string C,.string D]] w (zab N w)))
  (X:Hid (∀ w,Calls Tryz.prog 199 #[N] w (zab (.string S) w))) :
  Calls Tryz.prog 198 #[.pointer (some ⟨g0,0,none⟩),.pointer (some ⟨g1,0,none⟩),.pointer (some ⟨g2,0,none⟩)] w (zab (.string S) w):=by
 have c0:=cell_of_one h0;obtain⟨x0,x1,x2,_⟩:=h1.cells;obtain⟨y0,y1,y2,_⟩:=h2.cells;have HE:=zHd hE;clear h0 h1 h2 hE;go_enter Tryz.func198,Tryz.ntmps198;go_wp2_with fail;rw[HE.out];refine(M.out _).mono ?_;rintro e w1 ⟨rfl,hg⟩;have G1:=zHd hg;clear hg;go_wp2_with fail;refine(X.out _).mono ?_;rintro e w2 ⟨rfl,hg⟩;have G2:=zHd (zaa G1.out hg);clear hg;go_wp2;go_ret;exact⟨rfl,G2.out⟩
theorem zCj (F g0 g1 g2:Nat)(b1 b2:Bool)(A B C D:ByteArray)(N:Value)(w:World)(hE:Enters F)(h0:Fun w g0 F)(h1:Num w g1 b1 A B)(h2:Num w g2 b2 C D)
  (M:Hid (∀ w,Calls Tryz.prog F #[.agg #[.bool b1,.string A,.string B],.agg #[.bool b2,.string C,.string D]] w (zab N w)))
  (X:Hid (∀ w,Calls Tryz.prog 199 #[N] w (zeh 2 w))) :
  Calls Tryz.prog 198 #[.pointer (some ⟨g0,0,none⟩),.pointer (some ⟨g1,0,none⟩),.pointer (some ⟨g2,0,none⟩)] w (zeh 2 w):=by
 have c0:=cell_of_one h0;obtain⟨x0,x1,x2,_⟩:=h1.cells;obtain⟨y0,y1,y2,_⟩:=h2.cells;have HE:=zHd hE;clear h0 h1 h2 hE;go_enter Tryz.func198,Tryz.ntmps198;go_wp2_with fail;rw[HE.out];refine(M.out _).mono ?_;rintro e w1 ⟨rfl,hg⟩;have G1:=zHd hg;clear hg;go_wp2_with fail;refine(X.out _).mono ?_;rintro e w2 ⟨rfl,hg⟩;exact⟨rfl,rfl,zaa G1.out hg⟩
theorem zmY:Enters 198:=enters_of Tryz.func198 (by kernel_rfl) rfl
def zGN (F:Nat)(b1 b2:Bool)(A B C D S:ByteArray)(E:Int):Prop:=∀ (g0 g1 g2:Nat) (w:World),Fun w g0 F→Num w g1 b1 A B→Num w g2 b2 C D →
  Calls Tryz.prog 197 #[.func (.func 198) #[] #[.pointer (some ⟨g0,0,none⟩),.pointer (some ⟨g1,0,none⟩),.pointer (some ⟨g2,0,none⟩)]] w (zab (.tuple #[.string S,.int .i64 E]) w)
theorem zmZ (F:Nat)(a b:ByteArray)(b1 b2:Bool)(A B C D S:ByteArray)(E:Int)(w:World)
  (R1:Hid (∀ w,Calls Tryz.prog 152 #[.string a] w (zab (.tuple #[.agg #[.bool b1,.string A,.string B],.bool true]) w)))
  (R2:Hid (∀ w,Calls Tryz.prog 152 #[.string b] w (zab (.tuple #[.agg #[.bool b2,.string C,.string D],.bool true]) w)))
  (K:Hid (zGN F b1 b2 A B C D S E)) :
  Calls Tryz.prog 159 #[.string a,.string b,.func (.func F) #[] #[]] w (zab (.tuple #[.string S,.int .i64 E]) w):=by
 have hmf:∀ (fn:Fn) (first cap:Array Value) (w:World),(Instr.makeFunc fn first cap).run Tryz.prog w = .ok (.func fn first cap) w:=fun _ _ _ _=>rfl;go_enter Tryz.func159,Tryz.ntmps159;go_wp2_with fail;refine(R1.out _).mono ?_;rintro e w1 ⟨rfl,hg⟩;have hb:=alloc_old hg;have F1:=zHd (show Fun w1 w.heap.size F from hb);have G1:=zHd (zaa (zGA _ _ none) hg);clear hg hb;go_wp2_with fail;refine(R2.out _).mono ?_;rintro e w2 ⟨rfl,hg⟩;have hb:=alloc_old hg;have N1:=zHd (show Num w2 w1.heap.size b1 A B from hb);have hgg:=zaa (zGA _ _ none) hg;have F2:=zHd (F1.out.grown hgg);have G2:=zHd (zaa G1.out hgg);clear hg hb hgg F1 G1;go_wp2_with fail;refine(K.out _ _ _ _ (F2.out.grown (zGA _ _ none)) (N1.out.grown (zGA _ _ none)) (zau _ _)).mono ?_;rintro e w3 ⟨rfl,hg⟩;have G3:=zHd (zaa G2.out (zaa (zGA _ _ none) hg));clear hg;go_wp2
 go_ret2
 exact⟨rfl,G3.out⟩
def zna (F:Nat)(x y r:Rat):Prop:=∀ w,Calls Tryz.prog F #[ratV x,ratV y] w (zab (ratV r) w)
theorem zeB {F:Nat}{a b:ByteArray}{x y r:Rat}(hE:Enters F)(ha:zax a x)(hb:zax b y)(M:zna F x y r)(w:World) :
  Calls Tryz.prog 159 #[.string a,.string b,.func (.func F) #[] #[]] w (zab (finV r) w):=by
 have r1:=fun w=>ziF ha w (zgF ha);have r2:=fun w=>ziF hb w (zgF hb)
 by_cases h:zbb r
 ·rw[zkQ h]
  refine zmZ F a b _ _ _ _ _ _ _ _ w (zHd r1) (zHd r2) (zHd fun g0 g1 g2 w f n1 n2 => ?_);have k:=zGA w (.cells #[.int .i64 0] 24) none;exact zmR _ zmY #[] _ _ w (zET F g0 g1 g2 _ _ _ _ _ _ _ _ _ hE (f.grown k) (n1.grown k) (n2.grown k) (zHd M) (zHd fun w=>zvg r w h))
 ·rw[zho h]
  refine zmZ F a b _ _ _ _ _ _ _ _ w (zHd r1) (zHd r2) (zHd fun g0 g1 g2 w f n1 n2 => ?_);have k:=zGA w (.cells #[.int .i64 0] 24) none;exact zmS _ zmY #[] _ _ w (zCj F g0 g1 g2 _ _ _ _ _ _ _ _ hE (f.grown k) (n1.grown k) (n2.grown k) (zHd M) (zHd fun w=>zrO r w h))
def zcP (a:ByteArray):Prop:=∀ x,¬ zax a x
theorem zGb (a:ByteArray):(∃ x,zax a x)∨zcP a:=by
 by_cases h:∃ x,zax a x
 ·exact .inl h
 ·exact .inr fun x k=>h ⟨x,k⟩
theorem znb (a:ByteArray)(ha:a.size≤maxLen):∃ b A B k,(∀ w,Calls Tryz.prog 152 #[.string a] w (zab (.tuple #[.agg #[.bool b,.string A,.string B],.bool k]) w))∧(zcP a→k=false):=by
 rcases zGb a with⟨x,h⟩|h
 ·exact⟨_,_,_,true,fun w=>ziF h w ha,fun n=>absurd h (n x)⟩
 ·exact⟨_,_,_,false,fun w=>zvh h w ha,fun _=>rfl⟩
open Go.RowKit
open Go.Lib (nDigits decDigits)
theorem zcB {x y:Nat}(hx:nDigits x≤400)(hy:nDigits y≤400):nDigits (x * y)≤800:=by have:=zlA x y;omega
theorem zem (m n:Nat)(hm:nDigits m≤400)(hn:nDigits n≤400):zbn (decS m) (decS n):=fun w=>by
 have:=zcB hm hn;unfold mulS;rw[zaC,zaC];exact zyN m n w (by omega) (by omega) (by omega)
theorem zbs (m n:Nat):mulS (decS m) (decS n)=decS (m * n):=by unfold mulS;rw[zaC,zaC]
theorem zfc (neg:Bool)(n d:Nat)(hd:d≠0)(hn:nDigits n≤1000)(hdd:nDigits d≤1000){r:Rat}(hr:mkRat (sg neg n) d=r) :
  Hid (∀ w,Calls Tryz.prog 200 #[.bool neg,.string (decS n),.string (decS d)] w (zab (ratV r) w)) :=
 zHd fun w=>by rw[← hr];exact zmT neg n d w hd hn hdd
theorem zgs (x y:Rat):x.den * y.den≠0:=Nat.mul_ne_zero x.den_nz y.den_nz
theorem zqR (x y:Rat)(hx:zbb x)(hy:zbb y):zna 161 x y (x * y):=fun w=>by
 have d1:=zcB hx.1 hy.1;have d2:=zcB hx.2 hy.2;have R:=zfc (sgn x != sgn y) _ _ (zgs x y) (by omega) (by omega) (zpL x y);rw[← zbs,← zbs] at R;exact zjK _ _ _ _ _ _ _ _ _ w (zem _ _ hx.1 hy.1) (zem _ _ hx.2 hy.2) R
theorem zud (x y:Rat)(hx:zbb x)(hy:zbb y)(h:y.num≠0)(w:World) :
  Calls Tryz.prog 161 #[ratV x,.agg #[.bool (sgn y),.string (decS y.den),.string (decS y.num.natAbs)]] w (zab (ratV (x / y)) w):=by
 have d1:=zcB hx.1 hy.2;have d2:=zcB hx.2 hy.1;have R:=zfc (sgn x != sgn y) _ _ (Nat.mul_ne_zero x.den_nz (show y.num.natAbs≠0 by omega)) (by omega) (by omega) (zyW x y h);rw[← zbs,← zbs] at R;exact zjK _ _ _ _ _ _ _ _ _ w (zem _ _ hx.1 hy.2) (zem _ _ hx.2 hy.1) R
theorem zpM (x y:Rat)(hx:zbb x)(hy:zbb y):zna 192 x y (x+y):=fun w=>by
 have d1:=zcB hx.1 hy.2;have d2:=zcB hy.1 hx.2;have d3:=zcB hx.2 hy.2;have t1:=zem _ _ hx.1 hy.2;have t2:=zem _ _ hy.1 hx.2;have t3:=zem _ _ hx.2 hy.2
 by_cases hs:sgn x=sgn y
 ·have d4:=zhN _ _ _ d1 d2
  have R:=zfc (sgn x) (x.num.natAbs * y.den+y.num.natAbs * x.den) _ (zgs x y) (by omega) (by omega) (zfX x y _ (by rw[← hs,zvi]));have ad:=fun w=>zEL (decS (x.num.natAbs * y.den)) (decS (y.num.natAbs * x.den)) w (zaK _ (by omega)) (zaK _ (by omega));rw[zrG _ _ (decS (x.num.natAbs * y.den+y.num.natAbs * x.den)) (zaM _ (by omega)) (zaM _ (by omega)) (zaM _ (by omega)) (by rw[zaC,zaC,zaC])] at ad;rw[← zbs x.den] at R;rw[← zbs x.num.natAbs y.den,← zbs y.num.natAbs x.den] at ad;have:=zCg (sgn x) _ _ _ _ _ _ _ _ w t1 t2 t3 (zHd ad) R;unfold ratV;rw[show decide (y.num<0)=sgn x from hs.symm];exact this
 ·by_cases hl:x.num.natAbs * y.den<y.num.natAbs * x.den
  ·have d4:=zbF (Nat.sub_le (y.num.natAbs * x.den) (x.num.natAbs * y.den))
   have R:=zfc (sgn y) (y.num.natAbs * x.den - x.num.natAbs * y.den) _ (zgs x y) (by omega) (by omega) (zfX x y _ (by rw[zvj _ _ _ _ hs hl]));have cm:=fun w=>zkU (decS (x.num.natAbs * y.den)) (decS (y.num.natAbs * x.den)) w (zaK _ (by omega)) (zaK _ (by omega));have su:=fun w=>zvd (decS (y.num.natAbs * x.den)) (decS (x.num.natAbs * y.den)) w (zaK _ (by omega)) (zaK _ (by omega));rw[zla _ _ (by omega) (by omega) (by omega)] at su;obtain⟨c,hc,hc0⟩:∃ c:Int,cmpV (decS (x.num.natAbs * y.den)) (decS (y.num.natAbs * x.den))=c∧c<0:=⟨_,rfl,by rw[zkZ _ _ (by omega) (by omega)];exact(zdB _ _).2 hl⟩;rw[hc] at cm;rw[← zbs x.den] at R;rw[← zbs x.num.natAbs y.den,← zbs y.num.natAbs x.den] at su cm;exact zCh _ _ _ _ _ _ _ _ _ _ c w hs hc0 t1 t2 t3 (zHd cm) (zHd su) R
  ·have d4:=zbF (Nat.sub_le (x.num.natAbs * y.den) (y.num.natAbs * x.den))
   have R:=zfc (sgn x) (x.num.natAbs * y.den - y.num.natAbs * x.den) _ (zgs x y) (by omega) (by omega) (zfX x y _ (by rw[zvk _ _ _ _ hs hl]));have cm:=fun w=>zkU (decS (x.num.natAbs * y.den)) (decS (y.num.natAbs * x.den)) w (zaK _ (by omega)) (zaK _ (by omega));have su:=fun w=>zvd (decS (x.num.natAbs * y.den)) (decS (y.num.natAbs * x.den)) w (zaK _ (by omega)) (zaK _ (by omega));rw[zla _ _ (by omega) (by omega) (by omega)] at su;obtain⟨c,hc,hc0⟩:∃ c:Int,cmpV (decS (x.num.natAbs * y.den)) (decS (y.num.natAbs * x.den))=c∧¬ c<0:=⟨_,rfl,by rw[zkZ _ _ (by omega) (by omega),zdB];exact hl⟩;rw[hc] at cm;rw[← zbs x.den] at R;rw[← zbs x.num.natAbs y.den,← zbs y.num.natAbs x.den] at su cm;exact zCi _ _ _ _ _ _ _ _ _ _ c w hs hc0 t1 t2 t3 (zHd cm) (zHd su) R
theorem zzd (b1 b2 b3 b:Bool)(A B C D C3 D3 S T:ByteArray)(w:World)
  (NG:Hid (∀ w,Calls Tryz.prog 194 #[.agg #[.bool b2,.string C,.string D]] w (zab (.agg #[.bool b3,.string C3,.string D3]) w)))
  (SM:Hid (∀ w,Calls Tryz.prog 192 #[.agg #[.bool b1,.string A,.string B],.agg #[.bool b3,.string C3,.string D3]] w (zab (.agg #[.bool b,.string S,.string T]) w))) :
  Calls Tryz.prog 193 #[.agg #[.bool b1,.string A,.string B],.agg #[.bool b2,.string C,.string D]] w (zab (.agg #[.bool b,.string S,.string T]) w):=by
 have h0:=zek w b1 b2 A B C D;obtain⟨W0,hW0⟩:∃ W0,W0=(((w.alloc (.cells #[.bool b1,.string A,.string B] 142)).alloc (.cells #[.bool b2,.string C,.string D] 142)).alloc (.cells #[.bool false,.string ⟨#[]⟩,.string ⟨#[]⟩] 142)):=⟨_,rfl⟩;rw[← hW0] at h0;have H0:=zHd h0;have HW0:=zHd hW0;clear h0 hW0;go_enter Tryz.func193,Tryz.ntmps193;go_wp2_with fail;rw[← HW0.out];have hs:=H0.out.drew.seen;unfold Seen at hs;have hh:=zHd H0.out.drew;clear HW0
 go_region_held3 (fun W'=>(W'.cell? ⟨w.heap.size,0,none⟩=some (.bool b1)∧W'.cell? ⟨w.heap.size,1,none⟩=some (.string A)∧W'.cell? ⟨w.heap.size,2,none⟩=some (.string B) ∧
   W'.cell? ⟨w.heap.size+1,0,none⟩=some (.bool b2)∧W'.cell? ⟨w.heap.size+1,1,none⟩=some (.string C)∧W'.cell? ⟨w.heap.size+1,2,none⟩=some (.string D))∧Hid (Held w W' b1 b2 A B C D))
  (first
   | exact⟨hs,hh⟩
   | assumption
   | exact s1
   | exact s3
   | exact zmW w b1 b2 A B C D _ _ _ s3
   | go_keep)
  (first
   | (go_at_call 194;refine(NG.out _).mono ?_;rintro e w5 ⟨rfl,hg5⟩;have s1:=zba w b1 b2 A B C D hg5 ‹_›)
   | (go_at_call 192;refine(SM.out _).mono ?_;rintro e w7 ⟨rfl,hg7⟩;have s3:=zba w b1 b2 A B C D hg7 ‹_›;obtain⟨zb,zS,zT,z0,z1,z2,z3,z4,z5⟩:=zfY w b1 b2 A B C D s3))
 have hend:=zdA (a := .bool b) (b := .string S) (c := .string T) s3.2.out.g (show w.heap.size≤w.heap.size+1+1 by omega);have HE:=zHd hend;clear hend s3 s1 hs hh;go_wp2;exact bodyPost_ret (v := .agg #[.bool _,.string _,.string _]) (by simp[results,Tryz.results193,go_sem,z0,z1,z2,z3,z4,z5]) rfl ⟨rfl,HE.out⟩
theorem zze (b1 b2 b:Bool)(A B C D S T:ByteArray)(w:World)(f1:(C.toList == [48])=false)
  (PR:Hid (∀ w,Calls Tryz.prog 161 #[.agg #[.bool b1,.string A,.string B],.agg #[.bool b2,.string D,.string C]] w (zab (.agg #[.bool b,.string S,.string T]) w))) :
  Calls Tryz.prog 160 #[.agg #[.bool b1,.string A,.string B],.agg #[.bool b2,.string C,.string D]] w (zab (.agg #[.bool b,.string S,.string T]) w):=by
 have h0:=zek w b1 b2 A B C D;have H0:=zHd h0;clear h0;go_enter Tryz.func160,Tryz.ntmps160;go_wp2_with fail;refine(PR.out _).mono ?_;rintro e w1 ⟨rfl,hg⟩;have k:=H0.out.next hg;obtain⟨zb,zS,zT,z0,z1,z2,z3,z4,z5⟩:=k.room;have hend:=zdA (a := .bool b) (b := .string S) (c := .string T) k.g (show w.heap.size≤w.heap.size+1+1 by omega);have HE:=zHd hend;clear hend k hg H0;go_wp2;exact bodyPost_ret (v := .agg #[.bool _,.string _,.string _]) (by simp[results,Tryz.results160,go_sem,z0,z1,z2,z3,z4,z5]) rfl ⟨rfl,HE.out⟩
theorem zzf (x y:Rat)(hx:zbb x)(hy:zbb y):zna 193 x y (x - y):=fun w=>by
 rw[Rat.sub_eq_add_neg];exact zzd _ _ _ _ _ _ _ _ _ _ _ _ w (zHd fun w=>zuc y w) (zHd fun w=>zpM x (-y) hx (zyY hy) w)
theorem zzg (x y:Rat)(hx:zbb x)(hy:zbb y)(h:y.num≠0):zna 160 x y (x / y):=fun w =>
 zze _ _ _ _ _ _ _ _ _ w (by rw[(zero_str' _).1];simpa using h) (zHd fun w=>zud x y hx hy h w)
theorem zww:Enters 192:=enters_of Tryz.func192 (by kernel_rfl) rfl
theorem zou:Enters 161:=enters_of Tryz.func161 (by kernel_rfl) rfl
theorem zwx:Enters 193:=enters_of Tryz.func193 (by kernel_rfl) rfl
theorem zwy:Enters 160:=enters_of Tryz.func160 (by kernel_rfl) rfl
def errV (E:Int):Value := .tuple #[.string ⟨#[]⟩,.int .i64 E]
theorem zCk (a b S:ByteArray)(E:Int)(w:World)(O:Hid (∀ w,Calls Tryz.prog 159 #[.string a,.string b,.func (.func 192) #[] #[]] w (zab (.tuple #[.string S,.int .i64 E]) w))) :
  Calls Tryz.prog 153 #[.string a,.string b] w (zab (.tuple #[.string S,.int .i64 E]) w):=by
 go_enter Tryz.func153,Tryz.ntmps153;go_wp2_with fail;refine(O.out _).mono ?_;rintro e w1 ⟨rfl,hg⟩;have G1:=zHd hg;clear hg;go_wp2
 go_ret2
 exact⟨rfl,G1.out⟩
theorem zvm {a b:ByteArray}{x y:Rat}(ha:zax a x)(hb:zax b y)(w:World) :
  Calls Tryz.prog 153 #[.string a,.string b] w (zab (finV (x+y)) w):=by
 obtain⟨S,E,e⟩:=zcy (x+y);have O:=fun w=>zeB zww ha hb (zpM x y ha.short hb.short) w;rw[e] at O ⊢;exact zCk a b S E w (zHd O)
theorem zCl (a b S:ByteArray)(E:Int)(w:World)(O:Hid (∀ w,Calls Tryz.prog 159 #[.string a,.string b,.func (.func 193) #[] #[]] w (zab (.tuple #[.string S,.int .i64 E]) w))) :
  Calls Tryz.prog 154 #[.string a,.string b] w (zab (.tuple #[.string S,.int .i64 E]) w):=by
 go_enter Tryz.func154,Tryz.ntmps154;go_wp2_with fail;refine(O.out _).mono ?_;rintro e w1 ⟨rfl,hg⟩;have G1:=zHd hg;clear hg;go_wp2
 go_ret2
 exact⟨rfl,G1.out⟩
theorem zEU {a b:ByteArray}{x y:Rat}(ha:zax a x)(hb:zax b y)(w:World) :
  Calls Tryz.prog 154 #[.string a,.string b] w (zab (finV (x - y)) w):=by
 obtain⟨S,E,e⟩:=zcy (x - y);have O:=fun w=>zeB zwx ha hb (zzf x y ha.short hb.short) w;rw[e] at O ⊢;exact zCl a b S E w (zHd O)
theorem zCm (a b S:ByteArray)(E:Int)(w:World)(O:Hid (∀ w,Calls Tryz.prog 159 #[.string a,.string b,.func (.func 161) #[] #[]] w (zab (.tuple #[.string S,.int .i64 E]) w))) :
  Calls Tryz.prog 158 #[.string a,.string b] w (zab (.tuple #[.string S,.int .i64 E]) w):=by
 go_enter Tryz.func158,Tryz.ntmps158;go_wp2_with fail;refine(O.out _).mono ?_;rintro e w1 ⟨rfl,hg⟩;have G1:=zHd hg;clear hg;go_wp2
 go_ret2
 exact⟨rfl,G1.out⟩
theorem zEV {a b:ByteArray}{x y:Rat}(ha:zax a x)(hb:zax b y)(w:World) :
  Calls Tryz.prog 158 #[.string a,.string b] w (zab (finV (x * y)) w):=by
 obtain⟨S,E,e⟩:=zcy (x * y);have O:=fun w=>zeB zou ha hb (zqR x y ha.short hb.short) w;rw[e] at O ⊢;exact zCm a b S E w (zHd O)
theorem zCn (a b S:ByteArray)(E:Int)(w:World)(O:Hid (∀ w,Calls Tryz.prog 159 #[.string a,.string b,.func (.func 160) #[] #[]] w (zab (.tuple #[.string S,.int .i64 E]) w))) :
  Calls Tryz.prog 120 #[.string a,.string b] w (zab (.tuple #[.string S,.int .i64 E]) w):=by
 go_enter Tryz.func120,Tryz.ntmps120;go_wp2_with fail;refine(O.out _).mono ?_;rintro e w1 ⟨rfl,hg⟩;have G1:=zHd hg;clear hg;go_wp2
 go_ret2
 exact⟨rfl,G1.out⟩
theorem zEW {a b:ByteArray}{x y:Rat}(ha:zax a x)(hb:zax b y)(h:y.num≠0)(w:World) :
  Calls Tryz.prog 120 #[.string a,.string b] w (zab (finV (x / y)) w):=by
 obtain⟨S,E,e⟩:=zcy (x / y);have O:=fun w=>zeB zwy ha hb (zzg x y ha.short hb.short h) w;rw[e] at O ⊢;exact zCn a b S E w (zHd O)
open Go.RowKit
open Go.Lib (nDigits decDigits)
open Go.RowKit
open Go.Lib (nDigits decDigits)
def zeL (a:ByteArray)(b:Bool)(A B:ByteArray)(k:Bool):Prop:=∀ w,Calls Tryz.prog 152 #[.string a] w (zab (.tuple #[.agg #[.bool b,.string A,.string B],.bool k]) w)
theorem znc (a:ByteArray)(b:Bool)(A B:ByteArray)(k:Bool)(w:World)(R:Hid (zeL a b A B k)) :
  Calls Tryz.prog 109 #[.string a] w (zab (.bool k) w):=by
 go_enter Tryz.func109,Tryz.ntmps109;go_wp2_with fail;refine(R.out _).mono ?_;rintro e w1 ⟨rfl,hg⟩;have G1:=zHd hg;clear hg;go_wp2;go_ret;exact⟨rfl,G1.out⟩
theorem znd (a:ByteArray)(b:Bool)(A B:ByteArray)(k:Bool)(w:World)(R:Hid (zeL a b A B k)) :
  Calls Tryz.prog 157 #[.string a] w (zab (.tuple #[.bool b,.string A,.string B,.bool k]) w):=by
 go_enter Tryz.func157,Tryz.ntmps157;go_wp2_with fail;refine(R.out _).mono ?_;rintro e w1 ⟨rfl,hg⟩;have G1:=zHd hg;clear hg;go_wp2_with fail
 go_quiet (fail)
 go_wp2;exact bodyPost_ret (v := .tuple #[.bool _,.string _,.string _,.bool _]) (by simp[results,Tryz.results157,go_sem]) rfl ⟨rfl,zaa G1.out (zaa (zGA _ _ none) (zbu _ _ _))⟩
theorem zGc (a b:ByteArray)(b1 b2 k1 k2:Bool)(A B C D:ByteArray)(w:World)(hk:(k1&&k2)=false)(R1:Hid (zeL a b1 A B k1))(R2:Hid (zeL b b2 C D k2)) :
  Calls Tryz.prog 156 #[.string a,.string b] w (zab (.int .i64 0) w):=by
 cases k1 <;> cases k2 <;> simp only[Bool.and_self,Bool.and_true,Bool.true_and,Bool.true_eq_false] at hk
 all_goals
  go_enter Tryz.func156,Tryz.ntmps156;go_wp2_with fail;refine(R1.out _).mono ?_;rintro e w1 ⟨rfl,hg⟩;have G1:=zHd hg;clear hg;go_wp2_with fail;refine(R2.out _).mono ?_;rintro e w2 ⟨rfl,hg⟩;have G2:=zHd (zaa G1.out (zaa (zGA _ _ none) hg));clear hg;go_wp2;go_ret;exact⟨rfl,zaa G2.out (zGA _ _ none)⟩
theorem zEX (a b:ByteArray)(b1 b2:Bool)(A B C D:ByteArray)(c:Int)(w:World)(R1:Hid (zeL a b1 A B true))(R2:Hid (zeL b b2 C D true))
  (CP:Hid (∀ w,Calls Tryz.prog 196 #[.agg #[.bool b1,.string A,.string B],.agg #[.bool b2,.string C,.string D]] w (zab (.int .i64 c) w))) :
  Calls Tryz.prog 156 #[.string a,.string b] w (zab (.int .i64 c) w):=by
 go_enter Tryz.func156,Tryz.ntmps156;go_wp2_with fail;refine(R1.out _).mono ?_;rintro e w1 ⟨rfl,hg⟩;have G1:=zHd hg;clear hg;go_wp2_with fail;refine(R2.out _).mono ?_;rintro e w2 ⟨rfl,hg⟩;have hb:=alloc_old hg;have N1:=(show Num w2 w1.heap.size b1 A B from hb).grown (zGA w2 (.cells #[.bool b2,.string C,.string D] 142) none);obtain⟨x0,x1,x2,_⟩:=N1.cells;have G2:=zHd (zaa G1.out (zaa (zGA _ _ none) hg));clear hg hb N1;go_wp2_with fail;refine(CP.out _).mono ?_;rintro e w3 ⟨rfl,hg⟩;have G3:=zHd (zaa G2.out (zaa (zGA _ _ none) hg));clear hg x0 x1 x2;go_wp2;go_ret;exact⟨rfl,G3.out⟩
theorem zhu {a:ByteArray}{x:Rat}(h:zax a x):zeL a (sgn x) (decS x.num.natAbs) (decS x.den) true:=fun w=>ziF h w (zgF h)
theorem zrS {a:ByteArray}(h:zcP a)(ha:a.size≤maxLen):zeL a false ⟨#[]⟩ ⟨#[]⟩ false:=fun w=>zvh h w ha
theorem zjM {a:ByteArray}{x:Rat}(h:zax a x)(w:World):Calls Tryz.prog 109 #[.string a] w (zab (.bool true) w):=znc a _ _ _ _ w (zHd (zhu h))
theorem zfK {a:ByteArray}(h:zcP a)(ha:a.size≤maxLen)(w:World):Calls Tryz.prog 109 #[.string a] w (zab (.bool false) w):=znc a _ _ _ _ w (zHd (zrS h ha))
def zzh (x:Rat):Value := .tuple #[.bool (sgn x),.string (decS x.num.natAbs),.string (decS x.den),.bool true]
def zcM:Value := .tuple #[.bool false,.string ⟨#[]⟩,.string ⟨#[]⟩,.bool false]
theorem zzi {a:ByteArray}{x:Rat}(h:zax a x)(w:World):Calls Tryz.prog 157 #[.string a] w (zab (zzh x) w):=znd a _ _ _ _ w (zHd (zhu h))
theorem zCo {a:ByteArray}(h:zcP a)(ha:a.size≤maxLen)(w:World):Calls Tryz.prog 157 #[.string a] w (zab zcM w):=znd a _ _ _ _ w (zHd (zrS h ha))
theorem zvn (m n:Nat)(hm:nDigits m≤1000)(hn:nDigits n≤1000):∀ w,Calls Tryz.prog 227 #[.string (decS m),.string (decS n)] w fun e w'=>e = .returned (.int .i64 (cmpN m n))∧w.grownBy w' none:=fun w=>by
 have:=zkU (decS m) (decS n) w (zaK m hm) (zaK n hn);rw[zkZ m n hm hn] at this;exact this
theorem zue (x y:Rat)(hx:zbb x)(hy:zbb y)(w:World):Calls Tryz.prog 196 #[ratV x,ratV y] w (zab (.int .i64 (cmpQ x y)) w):=by
 have d1:=zcB hx.1 hy.2;have d2:=zcB hy.1 hx.2;have t1:=zem _ _ hx.1 hy.2;have t2:=zem _ _ hy.1 hx.2;unfold ratV;rw[show decide (x.num<0)=sgn x from rfl,show decide (y.num<0)=sgn y from rfl];cases h1:sgn x <;> cases h2:sgn y
 ·rw[zCe x y h1 h2]
  have cm:=zvn (x.num.natAbs * y.den) (y.num.natAbs * x.den) (by omega) (by omega);rw[← zbs x.num.natAbs y.den,← zbs y.num.natAbs x.den] at cm;exact zrR _ _ _ _ _ w t1 t2 (zHd cm)
 ·rw[zza x y h1 h2];exact zjL false true _ _ _ _ w (by decide)
 ·rw[zyZ x y h1 h2];exact zjL true false _ _ _ _ w (by decide)
 ·rw[zzb x y h1 h2]
  have cm:=zvn (y.num.natAbs * x.den) (x.num.natAbs * y.den) (by omega) (by omega);rw[← zbs x.num.natAbs y.den,← zbs y.num.natAbs x.den] at cm;exact zqQ _ _ _ _ _ w t2 t1 (zHd cm)
theorem zne {a b:ByteArray}{x y:Rat}(ha:zax a x)(hb:zax b y)(w:World):Calls Tryz.prog 156 #[.string a,.string b] w (zab (.int .i64 (cmpQ x y)) w) :=
 zEX a b _ _ _ _ _ _ _ w (zHd (zhu ha)) (zHd (zhu hb)) (zHd fun w=>zue x y ha.short hb.short w)
theorem zfZ {a b:ByteArray}(ha:a.size≤maxLen)(hb:b.size≤maxLen)(h:zcP a∨zcP b)(w:World):Calls Tryz.prog 156 #[.string a,.string b] w (zab (.int .i64 0) w):=by
 obtain⟨b1,A,B,k1,r1,n1⟩:=znb a ha;obtain⟨b2,C,D,k2,r2,n2⟩:=znb b hb;refine zGc a b _ _ k1 k2 _ _ _ _ w ?_ (zHd r1) (zHd r2);rcases h with h|h
 ·rw[n1 h];rfl
 ·rw[n2 h,Bool.and_false]
theorem zuf (s chars:List UInt8):(Lib.indexAny s chars = -1∧∀ x∈s,chars.contains x=false)∨(∃ (i:Nat) (c:UInt8),Lib.indexAny s chars=i∧s[i]? = some c∧chars.contains c=true):=by
 induction s with
 | nil=>exact .inl ⟨rfl,by simp⟩
 | cons b l ih =>
  by_cases h:chars.contains b=true
  ·exact .inr ⟨0,b,by rw[Lib.indexAny,if_pos h];rfl,rfl,h⟩
  ·rcases ih with⟨h1,h2⟩|⟨i,c,h1,h2,h3⟩
   ·refine .inl ⟨by rw[Lib.indexAny,if_neg h,h1];rfl,?_⟩
    intro x hx;rcases List.mem_cons.1 hx with rfl|hx
    ·simpa using h
    ·exact h2 x hx
   ·refine .inr ⟨i+1,c,?_,by simpa using h2,h3⟩
    rw[Lib.indexAny,if_neg h,h1,if_neg (fun e=>by have:=beq_iff_eq.1 e;omega)]
    push_cast
    rfl
theorem zrT (l:List UInt8)(i:Nat):(⟨l.toArray⟩:ByteArray).extract 0 i=⟨(l.take i).toArray⟩:=by
 apply ByteArray.ext
 rw[ByteArray.data_extract];simp[List.extract_eq_take_drop]
theorem extract_drop (l:List UInt8)(i:Nat):(⟨l.toArray⟩:ByteArray).extract i (⟨l.toArray⟩:ByteArray).size=⟨(l.drop i).toArray⟩:=by
 apply ByteArray.ext
 rw[ByteArray.data_extract];simp[List.extract_eq_take_drop,ByteArray.size];rw[List.take_of_length_le (by simp)]
open Go.RowKit
open Go.Lib (nDigits decDigits)
open Go.RowKit
open Go.Lib (nDigits decDigits)
def infS:ByteArray:=⟨#[105,110,102]⟩
def lowS:ByteArray:=⟨#[45,105,110,102]⟩
def zdG:ByteArray:=⟨#[48]⟩
def oneS:ByteArray:=⟨#[49]⟩
abbrev Ext:=Sum Bool Rat
def IsE (a:ByteArray):Ext→Prop
 | .inl true=>a=infS
 | .inl false=>a=lowS
 | .inr x=>zax a x
def extV:Ext→Value
 | .inl true => .tuple #[.string infS,.int .i64 0]
 | .inl false => .tuple #[.string lowS,.int .i64 0]
 | .inr x=>finV x
theorem zfy {a:ByteArray}{v:Ext}(h:IsE a v):extV v = .tuple #[.string a,.int .i64 0]:=by
 rcases v with(_|_)|x
 ·cases h;rfl
 ·cases h;rfl
 ·exact zgQ h
theorem zov:∀ x,¬ zax infS x:=fun x h=>by
 have h1:=(zhp h).n
 revert h1
 decide +kernel
theorem zow:∀ x,¬ zax lowS x:=fun x h=>by
 have h1:=(zhp h).n
 revert h1
 decide +kernel
theorem zvo:lowS≠infS:=by decide +kernel
theorem IsE.uniq {a:ByteArray}{u v:Ext}(h:IsE a u)(k:IsE a v):u=v:=by
 rcases u with(_|_)|x <;> rcases v with(_|_)|y
 ·rfl
 ·exact absurd (h.symm.trans k) zvo
 ·cases h;exact absurd k (zow y)
 ·exact absurd (k.symm.trans h) zvo
 ·rfl
 ·cases h;exact absurd k (zov y)
 ·cases k;exact absurd h (zow x)
 ·cases k;exact absurd h (zov x)
 ·rw[zax.uniq h k]
theorem IsE.same {a b:ByteArray}{v:Ext}(h:IsE a v)(k:IsE b v):a=b:=by
 rcases v with(_|_)|x
 ·exact h.trans k.symm
 ·exact h.trans k.symm
 ·exact h.eq.trans k.eq.symm
theorem IsE.len {a:ByteArray}{v:Ext}(h:IsE a v):a.size≤maxLen:=by
 rcases v with(_|_)|x
 ·cases h;decide
 ·cases h;decide
 ·exact zgF h
theorem znf:IsE zdG (.inr 0):=ziG
theorem oneE:IsE oneS (.inr 1):=⟨by decide +kernel,by decide +kernel⟩
theorem topE:IsE infS (.inl true):=rfl
theorem lowE:IsE lowS (.inl false):=rfl
def zwz:Ext→Int
 | .inl true=>1
 | .inl false => -1
 | .inr _=>0
def cmpI (m n:Int):Int:=if m<n then -1 else if n<m then 1 else 0
def cmpE:Ext→Ext→Int
 | .inr x,.inr y=>cmpQ x y
 | u,v=>cmpI (zwz u) (zwz v)
theorem zzj (x:Rat):cmpQ x x=0:=by unfold cmpQ;rw[if_neg (Rat.lt_irrefl),if_neg (Rat.lt_irrefl)]
theorem zeI (x y:Rat):cmpQ x y<0↔x<y:=by
 unfold cmpQ
 split
 ·simp_all
 ·split <;> simp_all
theorem zjN (x y:Rat):cmpQ y x = -cmpQ x y:=by
 unfold cmpQ
 by_cases h:x<y
 ·rw[if_pos h,if_neg (Rat.not_lt.2 (Rat.le_of_lt h)),if_pos h];rfl
 ·by_cases k:y<x
  ·rw[if_pos k,if_neg h,if_pos k]
  ·rw[if_neg k,if_neg h,if_neg h,if_neg k];rfl
theorem zlV (x y:Rat):0<cmpQ x y↔y<x:=by
 rw[← zeI,zjN];omega
theorem zpN (x y:Rat):cmpQ x y=0↔x=y:=by
 constructor
 ·intro h
  have h1:¬ x<y:=fun k=>by have:=(zeI x y).2 k;omega
  have h2:¬ y<x:=fun k=>by have:=(zlV x y).2 k;omega
  exact Rat.le_antisymm (Rat.not_lt.1 h2) (Rat.not_lt.1 h1)
 ·rintro rfl;exact zzj x
theorem zlb (x y:Rat):cmpQ x y≤0↔x≤y:=by
 rw[← Rat.not_lt,← zlV];omega
theorem zdR (u v:Ext):cmpE v u = -cmpE u v:=by
 rcases u with(_|_)|x <;> rcases v with(_|_)|y
 all_goals first|exact zjN x y|rfl
theorem zeM (u v:Ext):cmpE u v=0↔u=v:=by
 rcases u with(_|_)|x <;> rcases v with(_|_)|y
 all_goals first
  | exact⟨fun h=>congrArg _ ((zpN x y).1 h),fun h=>(zpN x y).2 (Sum.inr.inj h)⟩
  | exact⟨fun h=>absurd (show(-1:Int)=0 from h) (by decide),fun h=>by cases h⟩
  | exact⟨fun h=>absurd (show(1:Int)=0 from h) (by decide),fun h=>by cases h⟩
  | exact⟨fun _=>rfl,fun _=>rfl⟩
theorem ziH (u v t:Ext)(h:cmpE u v≤0)(k:cmpE v t≤0):cmpE u t≤0:=by
 rcases u with(_|_)|x <;> rcases v with(_|_)|y <;> rcases t with(_|_)|z
 all_goals first
  | exact(zlb x z).2 (Rat.le_trans ((zlb x y).1 h) ((zlb y z).1 k))
  | exact absurd (show(1:Int)≤0 from h) (by decide)
  | exact absurd (show(1:Int)≤0 from k) (by decide)
  | exact(show(-1:Int)≤0 by decide)
  | exact(show(0:Int)≤0 by decide)
def zeC (k:Int):Bool:=decide (k=1) || (decide (k=2) || decide (k=3))
def hasE (k:Int):Ext→Bool
 | .inl true=>zeC k
 | .inl false=>decide (k=1)
 | .inr x=>decide (k=1) || ((decide (k=2) || decide (k=3))&&decide (0≤x))
def wgtE (k:Int):Ext→Bool
 | .inl _=>false
 | .inr x=>decide (k=1) || ((decide (k=2) || decide (k=3))&&decide (0<x))
def zfL (k:Int):Ext:=if k=1 then .inl true else .inr 0
def zga (k:Int):Ext:=if k=1 then .inr 0 else .inr 1
def zbB (u v:Ext):Ext:=if cmpE v u<0 then v else u
def zby (u v:Ext):Ext:=if 0<cmpE v u then v else u
def zbC:Ext→Ext→Ext
 | .inr x,.inr y => .inr (x+y)
 | .inl true,_ => .inl true
 | _,.inl true => .inl true
 | _,_ => .inl false
def sumE:Ext→Ext→Ext
 | .inr x,.inr y => .inr (x+y)
 | _,_ => .inl true
def zaA (u v:Ext):Ext:=if u = .inr 0∨v = .inr 0 then .inr 0 else match u,v with
 | .inr x,.inr y => .inr (x * y)
 | _,_ => .inl true
def zcm (k:Int)(u v:Ext):Ext:=if k=1 then zbB u v else if k=2 then sumE u v else zby u v
def zaW (k:Int)(u v:Ext):Ext:=if k=1 then zbC u v else zaA u v
def zcK (k:Int)(u:Ext):Ext :=
 if k=1 then (if cmpE u (.inr 0)<0 then .inl false else .inr 0)
 else if k=2 then (match u with
  | .inr x=>if x<1 then .inr (1 / (1 - x)) else .inl true
  | _ => .inl true)
 else (if 0<cmpE u (.inr 1) then .inl true else .inr 1)
def zbT (k:Int)(u v:Ext):Int:=if k=1 then cmpE u v else cmpE v u
structure Val (k:Int)(a:ByteArray)(v:Ext):Prop where
 e:IsE a v
 has:hasE k v=true
structure Wgt (k:Int)(a:ByteArray)(v:Ext):Prop where
 e:IsE a v
 has:wgtE k v=true
def zfM (k:Int)(a:ByteArray):Prop:=∀ v,IsE a v→hasE k v=false
def zwA (k:Int)(a:ByteArray):Prop:=∀ v,IsE a v→wgtE k v=false
theorem zgb (k:Int)(a:ByteArray):(∃ v,Val k a v)∨zfM k a:=by
 by_cases h:∃ v,Val k a v
 ·exact .inl h
 ·refine .inr fun v hv => ?_
  cases hk:hasE k v
  ·rfl
  ·exact absurd ⟨v,hv,hk⟩ h
theorem zGd (k:Int)(a:ByteArray):(∃ v,Wgt k a v)∨zwA k a:=by
 by_cases h:∃ v,Wgt k a v
 ·exact .inl h
 ·refine .inr fun v hv => ?_
  cases hk:wgtE k v
  ·rfl
  ·exact absurd ⟨v,hv,hk⟩ h
theorem zEY {k:Int}{v:Ext}(h:wgtE k v=true):hasE k v=true:=by
 rcases v with(_|_)|x
 ·cases h
 ·cases h
 ·unfold wgtE at h;unfold hasE
  simp only[Bool.or_eq_true,Bool.and_eq_true,decide_eq_true_eq] at h ⊢;rcases h with h|⟨h1,h2⟩
  ·exact .inl h
  ·exact .inr ⟨h1,Rat.le_of_lt h2⟩
theorem Wgt.val {k:Int}{a:ByteArray}{v:Ext}(h:Wgt k a v):Val k a v:=⟨h.e,zEY h.has⟩
theorem zox {k:Int}(h1:k≠1)(h2:k≠2)(h3:k≠3)(v:Ext):hasE k v=false:=by
 rcases v with(_|_)|x <;> simp[hasE,zeC,h1,h2,h3]
theorem Val.kind {k:Int}{a:ByteArray}{v:Ext}(h:Val k a v):k=1∨k=2∨k=3:=by
 by_cases h1:k=1
 ·exact .inl h1
 by_cases h2:k=2
 ·exact .inr (.inl h2)
 by_cases h3:k=3
 ·exact .inr (.inr h3)
 have:=zox h1 h2 h3 v;rw[h.has] at this;cases this
theorem zce (v:Ext):hasE 2 v=hasE 3 v:=by rcases v with(_|_)|x <;> rfl
theorem zvp (v:Ext):wgtE 2 v=wgtE 3 v:=by rcases v with(_|_)|x <;> rfl
theorem zlc (v:Ext):hasE 1 v=true:=by rcases v with(_|_)|x <;> rfl
theorem zat (v:Ext)(h:hasE 2 v=true):v = .inl true∨∃ x,v = .inr x∧0≤x:=by
 rcases v with(_|_)|x
 ·cases h
 ·exact .inl rfl
 ·refine .inr ⟨x,rfl,?_⟩
  simpa [hasE] using h
open Go.RowKit
open Go.Lib (nDigits decDigits)
def Wide (n:Nat)(x:Rat):Prop:=nDigits x.num.natAbs≤n∧nDigits x.den≤n
theorem Wide.mono {m n:Nat}{x:Rat}(h:Wide m x)(k:m≤n):Wide n x:=⟨Nat.le_trans h.1 k,Nat.le_trans h.2 k⟩
theorem zCp (z:Int)(d:Nat)(hd:d≠0):(mkRat z d).num.natAbs≤z.natAbs∧(mkRat z d).den≤d:=by
 have e:sg (decide (z<0)) z.natAbs=z:=by
  unfold sg
  by_cases h:z<0
  ·rw[if_pos (by simpa using h)];omega
  ·rw[if_neg (by simpa using h)];omega
 have h1:=zrv (decide (z<0)) z.natAbs d hd;have h2:=zrw (decide (z<0)) z.natAbs d hd;rw[e] at h1 h2;rw[h1,h2];exact⟨Nat.div_le_self _ _,Nat.div_le_self _ _⟩
theorem zoy (z:Int)(d n:Nat)(hd:d≠0)(h1:nDigits z.natAbs≤n)(h2:nDigits d≤n):Wide n (mkRat z d):=by
 obtain⟨k1,k2⟩:=zCp z d hd;exact⟨Nat.le_trans (zbF k1) h1,Nat.le_trans (zbF k2) h2⟩
theorem dig_mul' {x y m n:Nat}(hx:nDigits x≤m)(hy:nDigits y≤n):nDigits (x * y)≤m+n:=by have:=zlA x y;omega
theorem zzk (x y:Rat):x.den * y.den≠0:=Nat.mul_ne_zero x.den_nz y.den_nz
theorem zCq {m n:Nat}{x y:Rat}(hx:Wide m x)(hy:Wide n y):Wide (m+n) (x * y):=by
 rw[← zpL x y];refine zoy _ _ _ (zzk x y) ?_ (dig_mul' hx.2 hy.2);rw[zhX];exact dig_mul' hx.1 hy.1
theorem zCr {m n:Nat}{x y:Rat}(hx:Wide m x)(hy:Wide n y):Wide (m+n+1) (x+y):=by
 rw[← zfX x y _ rfl];refine zoy _ _ _ (zzk x y) ?_ (Nat.le_succ_of_le (dig_mul' hx.2 hy.2));have d1:=dig_mul' hx.1 hy.2;have d2:nDigits (y.num.natAbs * x.den)≤m+n:=by have:=dig_mul' hy.1 hx.2;omega
 refine Nat.le_trans (zbF ?_) (zhN _ _ _ d1 d2);have e1:=zhX (sgn x) (x.num.natAbs * y.den);have e2:=zhX (sgn y) (y.num.natAbs * x.den)
 omega
theorem zzl:Wide 1 (0:Rat):=by unfold Wide;decide +kernel
theorem zCs:Wide 1 (1:Rat):=by unfold Wide;decide +kernel
theorem zwB {x:Rat}:(1 - x)=mkRat ((x.den:Int) - x.num) x.den:=by
 have e:=zfX 1 (-x) _ rfl;rw[Rat.sub_eq_add_neg,← e]
 have h1:sg (sgn 1) ((1:Rat).num.natAbs * (-x).den)=(x.den:Int):=by
  rw[Rat.neg_den,show sgn 1=false by decide +kernel,show(1:Rat).num.natAbs=1 by decide +kernel];unfold sg;simp
 have h2:sg (sgn (-x)) ((-x).num.natAbs * (1:Rat).den) = -x.num:=by
  rw[show(1:Rat).den=1 by decide +kernel,Nat.mul_one,← Rat.neg_num];exact zru (-x)
 rw[h1,h2,show(1:Rat).den * (-x).den=x.den by rw[Rat.neg_den,show(1:Rat).den=1 by decide +kernel,Nat.one_mul],Int.sub_eq_add_neg]
theorem zwC {x:Rat}(h0:0≤x)(h1:x≤1)(h:zbb x):zbb (1 - x):=by
 rw[zwB];have k0:=Rat.num_nonneg.2 h0
 have k1:x.num≤x.den:=by
  have:=(Rat.le_iff x 1).1 h1;rw[show(1:Rat).num=1 by decide +kernel,show(1:Rat).den=1 by decide +kernel] at this
  omega
 refine zoy _ _ 400 x.den_nz ?_ h.2;refine Nat.le_trans (zbF ?_) h.2
 omega
theorem zvq {x:Rat}(h:x<1):(1 - x).num≠0:=fun k=>by
 rw[Rat.num_eq_zero] at k;have:=Rat.sub_add_cancel (a:=1) (b:=x);rw[k,Rat.zero_add] at this;rw[this] at h;exact Rat.lt_irrefl h
open Go.RowKit
open Go.Lib (nDigits decDigits)
def leE (u v:Ext):Prop:=cmpE u v≤0
theorem zbQ (u:Ext):leE u u:=by unfold leE;rw[(zeM u u).2 rfl];decide
theorem zdr {u v t:Ext}(h:leE u v)(k:leE v t):leE u t:=ziH u v t h k
theorem zeN (u v:Ext):leE u v∨leE v u:=by
 unfold leE;have:=zdR u v
 omega
theorem zrU {u v:Ext}(h:leE u v)(k:leE v u):u=v:=by
 unfold leE at *;have:=zdR u v;exact(zeM u v).1 (by omega)
theorem zbg (x y:Rat):leE (.inr x) (.inr y)↔x≤y:=zlb x y
theorem zbL (u:Ext):leE u (.inl true):=by
 rcases u with(_|_)|x
 ·exact(show(-1:Int)≤0 by decide)
 ·exact(show(0:Int)≤0 by decide)
 ·exact(show(-1:Int)≤0 by decide)
theorem zvr (u:Ext):leE (.inl false) u:=by
 rcases u with(_|_)|x
 ·exact(show(0:Int)≤0 by decide)
 ·exact(show(-1:Int)≤0 by decide)
 ·exact(show(-1:Int)≤0 by decide)
theorem zbv (x:Rat):¬ leE (.inl true) (.inr x):=fun h=>absurd (show(1:Int)≤0 from h) (by decide)
theorem zhO:¬ leE (.inl true) (.inl false):=fun h=>absurd (show(1:Int)≤0 from h) (by decide)
theorem zeu (x:Rat):¬ leE (.inr x) (.inl false):=fun h=>absurd (show(1:Int)≤0 from h) (by decide)
theorem zeO {u v:Ext}(h:leE u v):zbB u v=u:=by
 unfold zbB;unfold leE at h;have:=zdR u v;rw[if_neg (by omega)]
theorem zfd {u v:Ext}(h:leE v u):zbB u v=v:=by
 unfold zbB
 by_cases k:cmpE v u<0
 ·rw[if_pos k]
 ·rw[if_neg k]
  unfold leE at h;exact((zeM v u).1 (by omega)).symm
theorem zeP {u v:Ext}(h:leE v u):zby u v=u:=by
 unfold zby;unfold leE at h;rw[if_neg (by omega)]
theorem zfe {u v:Ext}(h:leE u v):zby u v=v:=by
 unfold zby
 by_cases k:0<cmpE v u
 ·rw[if_pos k]
 ·rw[if_neg k]
  unfold leE at h;have:=zdR u v;exact(zeM u v).1 (by omega)
theorem zfz (t u v:Ext):leE t (zbB u v)↔leE t u∧leE t v:=by
 rcases zeN u v with h|h
 ·rw[zeO h];exact⟨fun k=>⟨k,zdr k h⟩,fun k=>k.1⟩
 ·rw[zfd h];exact⟨fun k=>⟨zdr k h,k⟩,fun k=>k.2⟩
theorem zfA (t u v:Ext):leE (zby u v) t↔leE u t∧leE v t:=by
 rcases zeN u v with h|h
 ·rw[zfe h];exact⟨fun k=>⟨zdr h k,k⟩,fun k=>k.2⟩
 ·rw[zeP h];exact⟨fun k=>⟨k,zdr h k⟩,fun k=>k.1⟩
theorem zrV {u v:Ext}(h:∀ t,leE t u↔leE t v):u=v:=zrU ((h u).1 (zbQ u)) ((h v).2 (zbQ v))
theorem zrW {u v:Ext}(h:∀ t,leE u t↔leE v t):u=v:=zrU ((h v).2 (zbQ v)) ((h u).1 (zbQ u))
theorem zzm (u v:Ext):zbB u v=zbB v u:=zrV fun t=>by rw[zfz,zfz];exact and_comm
theorem zzn (u v:Ext):zby u v=zby v u:=zrW fun t=>by rw[zfA,zfA];exact and_comm
theorem zwD (u v t:Ext):zbB (zbB u v) t=zbB u (zbB v t):=zrV fun s=>by simp only[zfz,and_assoc]
theorem zwE (u v t:Ext):zby (zby u v) t=zby u (zby v t):=zrW fun s=>by simp only[zfA,and_assoc]
theorem zvs (u v:Ext):zbB u v=u∨zbB u v=v:=by rcases zeN u v with h|h;exact .inl (zeO h);exact .inr (zfd h)
theorem zoz (u v:Ext):zby u v=u∨zby u v=v:=by rcases zeN u v with h|h;exact .inr (zfe h);exact .inl (zeP h)
theorem zCt (u:Ext):zbC (.inl true) u = .inl true:=by rcases u with(_|_)|x <;> rfl
theorem zjO (u v:Ext):zbC u v=zbC v u:=by
 rcases u with(_|_)|x <;> rcases v with(_|_)|y
 all_goals first|exact congrArg Sum.inr (Rat.add_comm x y)|rfl
theorem zwF (u v t:Ext):zbC (zbC u v) t=zbC u (zbC v t):=by
 rcases u with(_|_)|x <;> rcases v with(_|_)|y <;> rcases t with(_|_)|z
 all_goals first|exact congrArg Sum.inr (Rat.add_assoc x y z)|rfl
theorem zjP (u:Ext):zbC u (.inr 0)=u:=by
 rcases u with(_|_)|x
 ·rfl
 ·rfl
 ·exact congrArg Sum.inr (Rat.add_zero x)
theorem zjQ (t u v:Ext)(h:leE u v):leE (zbC t u) (zbC t v):=by
 rcases t with(_|_)|z <;> rcases u with(_|_)|x <;> rcases v with(_|_)|y
 all_goals first
  | exact zbL _
  | exact zvr _
  | exact absurd h zhO
  | exact absurd h (zbv _)
  | exact absurd h (zeu _)
  | exact(zbg _ _).2 (Rat.add_le_add_left.2 ((zbg _ _).1 h))
theorem zzo (t u v:Ext):zbC t (zbB u v)=zbB (zbC t u) (zbC t v):=by
 rcases zeN u v with h|h
 ·rw[zeO h,zeO (zjQ t u v h)]
 ·rw[zfd h,zfd (zjQ t v u h)]
theorem zaU (x y:Rat):zaA (.inr x) (.inr y) = .inr (x * y):=by
 unfold zaA
 by_cases hx:x=0
 ·subst hx;rw[if_pos (.inl rfl),Rat.zero_mul]
 by_cases hy:y=0
 ·subst hy;rw[if_pos (.inr rfl),Rat.mul_zero]
 rw[if_neg (fun h=>by rcases h with h|h;exact hx (Sum.inr.inj h);exact hy (Sum.inr.inj h))]
theorem zaS (u:Ext):zaA (.inr 0) u = .inr 0:=if_pos (.inl rfl)
theorem zay (u:Ext):zaA u (.inr 0) = .inr 0:=if_pos (.inr rfl)
theorem zaB {x:Rat}(h:x≠0):zaA (.inl true) (.inr x) = .inl true:=by
 unfold zaA;rw[if_neg (fun k=>by rcases k with k|k;cases k;exact h (Sum.inr.inj k))]
theorem zaD {x:Rat}(h:x≠0):zaA (.inr x) (.inl true) = .inl true:=by
 unfold zaA;rw[if_neg (fun k=>by rcases k with k|k;exact h (Sum.inr.inj k);cases k)]
theorem zbd:zaA (.inl true) (.inl true) = .inl true:=by
 unfold zaA;rw[if_neg (fun k=>by rcases k with k|k <;> cases k)]
theorem zjR (u v:Ext)(hu:hasE 2 u=true)(hv:hasE 2 v=true):zaA u v=zaA v u:=by
 rcases zat u hu with rfl|⟨x,rfl,hx⟩ <;> rcases zat v hv with rfl|⟨y,rfl,hy⟩
 ·rfl
 ·by_cases h:y=0
  ·subst h;rw[zaS,zay]
  ·rw[zaB h,zaD h]
 ·by_cases h:x=0
  ·subst h;rw[zaS,zay]
  ·rw[zaB h,zaD h]
 ·rw[zaU,zaU,Rat.mul_comm]
theorem zzp {x y:Rat}(hx:x≠0)(hy:y≠0):x * y≠0:=fun h=>by rcases Rat.mul_eq_zero.1 h with h|h;exact hx h;exact hy h
theorem zng (u v t:Ext)(hu:hasE 2 u=true)(hv:hasE 2 v=true)(ht:hasE 2 t=true):zaA (zaA u v) t=zaA u (zaA v t):=by
 by_cases zu:u = .inr 0
 ·subst zu;rw[zaS,zaS,zaS]
 by_cases zv:v = .inr 0
 ·subst zv;rw[zaS,zay,zaS]
 by_cases zt:t = .inr 0
 ·subst zt;rw[zay,zay,zay]
 rcases zat u hu with rfl|⟨x,rfl,hx⟩ <;> rcases zat v hv with rfl|⟨y,rfl,hy⟩ <;> rcases zat t ht with rfl|⟨z,rfl,hz⟩
 ·rw[zbd]
 ·rw[zbd,zaB (fun h=>zt (congrArg _ h)),zbd]
 ·rw[zaB (fun h=>zv (congrArg _ h)),zaD (fun h=>zv (congrArg _ h))]
 ·rw[zaB (fun h=>zv (congrArg _ h)),zaB (fun h=>zt (congrArg _ h)),zaU,zaB (zzp (fun h=>zv (congrArg _ h)) (fun h=>zt (congrArg _ h)))]
 ·rw[zaD (fun h=>zu (congrArg _ h)),zbd,zaD (fun h=>zu (congrArg _ h))]
 ·rw[zaD (fun h=>zu (congrArg _ h)),zaB (fun h=>zt (congrArg _ h)),zaD (fun h=>zu (congrArg _ h))]
 ·rw[zaU,zaD (fun h=>zv (congrArg _ h)),zaD (fun h=>zu (congrArg _ h)),zaD (zzp (fun h=>zu (congrArg _ h)) (fun h=>zv (congrArg _ h)))]
 ·rw[zaU,zaU,zaU,zaU,Rat.mul_assoc]
theorem ziI (u:Ext)(hu:hasE 2 u=true):zaA u (.inr 1)=u:=by
 rcases zat u hu with rfl|⟨x,rfl,hx⟩
 ·exact zaB (by decide +kernel)
 ·rw[zaU,Rat.mul_one]
theorem zhv (t u v:Ext)(ht:hasE 2 t=true)(hu:hasE 2 u=true)(hv:hasE 2 v=true)(h:leE u v):leE (zaA t u) (zaA t v):=by
 by_cases zt:t = .inr 0
 ·subst zt;rw[zaS,zaS];exact zbQ _
 rcases zat v hv with rfl|⟨y,rfl,hy⟩
 ·rcases zat t ht with rfl|⟨z,rfl,hz⟩
  ·rw[zbd];exact zbL _
  ·rw[zaD (fun h=>zt (congrArg _ h))];exact zbL _
 rcases zat u hu with rfl|⟨x,rfl,hx⟩
 ·exact absurd h (zbv _)
 have k:=(zbg _ _).1 h;rcases zat t ht with rfl|⟨z,rfl,hz⟩
 ·by_cases zx:x=0
  ·subst zx
   rw[zay]
   by_cases zy:y=0
   ·subst zy;rw[zay];exact zbQ _
   ·rw[zaB zy];exact zbL _
  ·have zy:y≠0:=fun e=>zx (Rat.le_antisymm (e ▸ k) hx)
   rw[zaB zx,zaB zy];exact zbQ _
 ·rw[zaU,zaU]
  exact(zbg _ _).2 (Rat.mul_le_mul_of_nonneg_left k hz)
theorem zzq (t u v:Ext)(ht:hasE 2 t=true)(hu:hasE 2 u=true)(hv:hasE 2 v=true):zaA t (zby u v)=zby (zaA t u) (zaA t v):=by
 rcases zeN u v with h|h
 ·rw[zfe h,zfe (zhv t u v ht hu hv h)]
 ·rw[zeP h,zeP (zhv t v u ht hv hu h)]
theorem zbo (x y:Rat):sumE (.inr x) (.inr y) = .inr (x+y):=rfl
theorem zbe (u:Ext):sumE (.inl true) u = .inl true:=by rcases u with(_|_)|x <;> rfl
theorem zaT (u:Ext):sumE u (.inl true) = .inl true:=by rcases u with(_|_)|x <;> rfl
theorem zCu (u v:Ext)(hu:hasE 2 u=true)(hv:hasE 2 v=true):sumE u v=sumE v u:=by
 rcases zat u hu with rfl|⟨x,rfl,hx⟩ <;> rcases zat v hv with rfl|⟨y,rfl,hy⟩
 ·rfl
 ·rfl
 ·rfl
 ·rw[zbo,zbo,Rat.add_comm]
theorem zzr (u v t:Ext)(hu:hasE 2 u=true)(hv:hasE 2 v=true)(ht:hasE 2 t=true):sumE (sumE u v) t=sumE u (sumE v t):=by
 rcases zat u hu with rfl|⟨x,rfl,hx⟩
 ·rw[zbe,zbe,zbe]
 rcases zat v hv with rfl|⟨y,rfl,hy⟩
 ·rw[zaT,zbe,zaT]
 rcases zat t ht with rfl|⟨z,rfl,hz⟩
 ·rw[zaT,zaT,zaT]
 rw[zbo,zbo,zbo,zbo,Rat.add_assoc]
theorem zCv (u:Ext)(hu:hasE 2 u=true):sumE u (.inr 0)=u:=by
 rcases zat u hu with rfl|⟨x,rfl,hx⟩
 ·rfl
 ·rw[zbo,Rat.add_zero]
theorem zEZ {x y:Rat}(hx:0≤x)(hy:0≤y)(h:x+y=0):x=0∧y=0:=by
 have h1:x≤x+y:=by
  have:=(Rat.add_le_add_left (c:=x)).2 hy
  rwa [Rat.add_zero] at this
 have h2:y≤x+y:=by
  have:=(Rat.add_le_add_right (c:=y)).2 hx
  rwa [Rat.zero_add] at this
 rw[h] at h1 h2;exact⟨Rat.le_antisymm h1 hx,Rat.le_antisymm h2 hy⟩
theorem zCw (t u v:Ext)(ht:hasE 2 t=true)(hu:hasE 2 u=true)(hv:hasE 2 v=true):zaA t (sumE u v)=sumE (zaA t u) (zaA t v):=by
 rcases zat t ht with rfl|⟨z,rfl,hz⟩
 ·rcases zat u hu with rfl|⟨x,rfl,hx⟩
  ·rw[zbe,zbd,zbe]
  rcases zat v hv with rfl|⟨y,rfl,hy⟩
  ·rw[zaT,zbd,zaT]
  rw[zbo]
  by_cases zx:x=0
  ·subst zx
   rw[Rat.zero_add,zay]
   by_cases zy:y=0
   ·subst zy;rw[zay,zbo,Rat.zero_add]
   ·rw[zaB zy];rfl
  ·rw[zaB zx,zbe]
   exact zaB (fun h=>zx (zEZ hx hy h).1)
 ·by_cases zz:z=0
  ·subst zz;rw[zaS,zaS,zaS,zbo,Rat.zero_add]
  rcases zat u hu with rfl|⟨x,rfl,hx⟩
  ·rw[zbe,zaD zz,zbe]
  rcases zat v hv with rfl|⟨y,rfl,hy⟩
  ·rw[zaT,zaD zz,zaT]
  rw[zbo,zaU,zaU,zaU,zbo,Rat.mul_add]
theorem zoA {x:Rat}(h:0≤x):hasE 2 (.inr x)=true:=by simp[hasE,h]
theorem zrX {u v:Ext}(hu:hasE 2 u=true)(hv:hasE 2 v=true):hasE 2 (zaA u v)=true:=by
 by_cases zu:u = .inr 0
 ·subst zu;rw[zaS];exact hu
 by_cases zv:v = .inr 0
 ·subst zv;rw[zay];exact hv
 rcases zat u hu with rfl|⟨x,rfl,hx⟩ <;> rcases zat v hv with rfl|⟨y,rfl,hy⟩
 ·rw[zbd];rfl
 ·rw[zaB (fun h=>zv (congrArg _ h))];rfl
 ·rw[zaD (fun h=>zu (congrArg _ h))];rfl
 ·rw[zaU];exact zoA (Rat.mul_nonneg hx hy)
theorem zFa {u v:Ext}(hu:hasE 2 u=true)(hv:hasE 2 v=true):hasE 2 (sumE u v)=true:=by
 rcases zat u hu with rfl|⟨x,rfl,hx⟩
 ·rw[zbe];rfl
 rcases zat v hv with rfl|⟨y,rfl,hy⟩
 ·rw[zaT];rfl
 ·rw[zbo];exact zoA (Rat.add_nonneg hx hy)
abbrev zad (k:Int):Prop:=k=1∨k=2∨k=3
theorem zCx {k:Int}(hk:zad k){u v:Ext}(hu:hasE k u=true)(hv:hasE k v=true):hasE k (zcm k u v)=true:=by
 rcases hk with rfl|rfl|rfl
 ·exact zlc _
 ·exact zFa hu hv
 ·show hasE 3 (zby u v)=true
  rcases zoz u v with h|h <;> rw[h] <;> assumption
theorem zzs {k:Int}(hk:zad k){u v:Ext}(hu:hasE k u=true)(hv:hasE k v=true):hasE k (zaW k u v)=true:=by
 rcases hk with rfl|rfl|rfl
 ·exact zlc _
 ·exact zrX hu hv
 ·rw[← zce] at *;exact zrX hu hv
theorem zzt {k:Int}(hk:zad k):hasE k (zfL k)=true:=by rcases hk with rfl|rfl|rfl <;> decide +kernel
theorem zCy {k:Int}(hk:zad k):hasE k (zga k)=true:=by rcases hk with rfl|rfl|rfl <;> decide +kernel
theorem zzu {k:Int}(hk:zad k){u v:Ext}(hu:hasE k u=true)(hv:hasE k v=true):zcm k u v=zcm k v u:=by
 rcases hk with rfl|rfl|rfl
 ·exact zzm u v
 ·exact zCu u v hu hv
 ·exact zzn u v
theorem zwG {k:Int}(hk:zad k){u v t:Ext}(hu:hasE k u=true)(hv:hasE k v=true)(ht:hasE k t=true):zcm k (zcm k u v) t=zcm k u (zcm k v t):=by
 rcases hk with rfl|rfl|rfl
 ·exact zwD u v t
 ·exact zzr u v t hu hv ht
 ·exact zwE u v t
theorem zff {k:Int}(hk:zad k){u v:Ext}(hu:hasE k u=true)(hv:hasE k v=true):zaW k u v=zaW k v u:=by
 rcases hk with rfl|rfl|rfl
 ·exact zjO u v
 ·exact zjR u v hu hv
 ·rw[← zce] at *;exact zjR u v hu hv
theorem zug {k:Int}(hk:zad k){u v t:Ext}(hu:hasE k u=true)(hv:hasE k v=true)(ht:hasE k t=true):zaW k (zaW k u v) t=zaW k u (zaW k v t):=by
 rcases hk with rfl|rfl|rfl
 ·exact zwF u v t
 ·exact zng u v t hu hv ht
 ·rw[← zce] at *;exact zng u v t hu hv ht
theorem zwH {k:Int}(hk:zad k){u v t:Ext}(hu:hasE k u=true)(hv:hasE k v=true)(ht:hasE k t=true):zaW k u (zcm k v t)=zcm k (zaW k u v) (zaW k u t):=by
 rcases hk with rfl|rfl|rfl
 ·exact zzo u v t
 ·exact zCw u v t hu hv ht
 ·rw[← zce] at *;exact zzq u v t hu hv ht
theorem zzv {k:Int}(hk:zad k){u:Ext}(hu:hasE k u=true):zcm k u (zfL k)=u:=by
 rcases hk with rfl|rfl|rfl
 ·exact zeO (zbL u)
 ·exact zCv u hu
 ·rw[← zce] at hu
  refine zeP ?_;rcases zat u hu with rfl|⟨x,rfl,hx⟩
  ·exact zbL _
  ·exact(zbg _ _).2 hx
theorem zzw {k:Int}(hk:zad k){u:Ext}(hu:hasE k u=true):zaW k u (zga k)=u:=by
 rcases hk with rfl|rfl|rfl
 ·exact zjP u
 ·exact ziI u hu
 ·rw[← zce] at hu;exact ziI u hu
theorem zwI {k:Int}(hk:zad k)(u:Ext):zaW k u (zfL k)=zfL k:=by
 rcases hk with rfl|rfl|rfl
 ·show zbC u (.inl true) = .inl true
  rw[zjO,zCt]
 ·exact zay u
 ·exact zay u
theorem zuh (k:Int)(u v:Ext):zbT k v u = -zbT k u v:=by
 unfold zbT
 split
 ·exact zdR u v
 ·exact zdR v u
theorem zlB (k:Int)(u v:Ext):zbT k u v=0↔u=v:=by
 unfold zbT
 split
 ·exact zeM u v
 ·exact(zeM v u).trans ⟨Eq.symm,Eq.symm⟩
theorem zrY (k:Int)(u v t:Ext)(h:zbT k u v≤0)(j:zbT k v t≤0):zbT k u t≤0:=by
 by_cases hk:k=1
 ·subst hk;exact ziH u v t h j
 ·have e:∀ a b,zbT k a b=cmpE b a:=fun a b=>if_neg hk
  rw[e] at *;exact ziH t v u j h
theorem zrZ {k:Int}(hk:zad k){u v t:Ext}(hu:hasE k u=true)(hv:hasE k v=true)(ht:hasE k t=true)(h:zbT k u v≤0):zbT k (zaW k u t) (zaW k v t)≤0:=by
 rw[zff hk hu ht,zff hk hv ht];rcases hk with rfl|rfl|rfl
 ·exact zjQ t u v h
 ·exact zhv t v u ht hv hu h
 ·rw[← zce] at *;exact zhv t v u ht hv hu h
theorem zCz {x:Rat}(h:x<1):1 / (1 - x)=1+x * (1 / (1 - x)):=by
 have hne:(1 - x)≠0:=fun k=>zvq h (by rw[k];rfl);have e:1 / (1 - x) * (1 - x)=1:=Rat.div_mul_cancel hne;generalize 1 / (1 - x)=s at *;rw[Rat.sub_eq_add_neg,Rat.mul_add,Rat.mul_one,Rat.mul_neg] at e;have e2:s + -(s * x)+s * x=1+s * x:=by rw[e]
 rw[Rat.add_assoc,Rat.neg_add_cancel,Rat.add_zero] at e2;rw[Rat.mul_comm x s];exact e2
theorem zlC {x:Rat}(h:x<1):0≤1 / (1 - x):=by
 have h1:0<1 - x:=(Rat.lt_iff_sub_pos x 1).1 h;rw[Rat.div_def,Rat.one_mul];exact Rat.le_of_lt (Rat.inv_pos.2 h1)
theorem zCA {k:Int}(hk:zad k)(u:Ext)(hu:hasE k u=true):hasE k (zcK k u)=true:=by
 rcases hk with rfl|rfl|rfl
 ·exact zlc _
 ·rcases zat u hu with rfl|⟨x,rfl,hx⟩
  ·rfl
  ·show hasE 2 (if x<1 then .inr (1 / (1 - x)) else .inl true)=true
   by_cases h:x<1
   ·rw[if_pos h];exact zoA (zlC h)
   ·rw[if_neg h];rfl
 ·show hasE 3 (if 0<cmpE u (.inr 1) then .inl true else .inr 1)=true
  split <;> decide +kernel
theorem star_law {k:Int}(hk:zad k)(u:Ext)(hu:hasE k u=true):zcm k (zga k) (zaW k u (zcK k u))=zcK k u:=by
 rcases hk with rfl|rfl|rfl
 ·show zbB (.inr 0) (zbC u (if cmpE u (.inr 0)<0 then .inl false else .inr 0))=if cmpE u (.inr 0)<0 then .inl false else .inr 0
  by_cases h:cmpE u (.inr 0)<0
  ·rw[if_pos h]
   have:zbC u (.inl false) = .inl false:=by
    rcases u with(_|_)|x
    ·rfl
    ·exact absurd (show(1:Int)<0 from h) (by decide)
    ·rfl
   rw[this];exact zfd (zvr _)
  ·rw[if_neg h,zjP]
   refine zeO ?_;unfold leE;have:=zdR u (.inr 0)
   omega
 ·rcases zat u hu with rfl|⟨x,rfl,hx⟩
  ·show sumE (.inr 1) (zaA (.inl true) (.inl true)) = .inl true
   rw[zbd];rfl
  ·show sumE (.inr 1) (zaA (.inr x) (if x<1 then .inr (1 / (1 - x)) else .inl true))=if x<1 then .inr (1 / (1 - x)) else .inl true
   by_cases h:x<1
   ·rw[if_pos h,zaU,zbo,← zCz h]
   ·rw[if_neg h,zaD (fun e=>by subst e;exact h (by decide +kernel)),zaT]
 ·rw[← zce] at hu
  show zby (.inr 1) (zaA u (if 0<cmpE u (.inr 1) then .inl true else .inr 1))=if 0<cmpE u (.inr 1) then .inl true else .inr 1
  by_cases h:0<cmpE u (.inr 1)
  ·rw[if_pos h]
   have:zaA u (.inl true) = .inl true:=by
    rcases zat u hu with rfl|⟨x,rfl,hx⟩
    ·exact zbd
    ·exact zaD (fun e=>by subst e;revert h;decide +kernel)
   rw[this];exact zfe (zbL _)
  ·rw[if_neg h,ziI u hu]
   exact zeP (by unfold leE;omega)
def zaz (n:Nat):Ext→Prop
 | .inr x=>Wide n x
 | _=>True
def Fits:Ext→Prop
 | .inr x=>zbb x
 | _=>True
def extT:Ext→ByteArray
 | .inl true=>infS
 | .inl false=>lowS
 | .inr x=>ratS x
theorem zvt {v:Ext}(h:Fits v):IsE (extT v) v:=by
 rcases v with(_|_)|x
 ·rfl
 ·rfl
 ·exact⟨h,rfl⟩
theorem zjS {v:Ext}(h:Fits v):extV v = .tuple #[.string (extT v),.int .i64 0]:=zfy (zvt h)
theorem IsE.text {a:ByteArray}{v:Ext}(h:IsE a v):a=extT v:=by
 rcases v with(_|_)|x
 ·exact h
 ·exact h
 ·exact h.eq
theorem zaz.mono {m n:Nat}{v:Ext}(h:zaz m v)(k:m≤n):zaz n v:=by
 rcases v with(_|_)|x
 ·trivial
 ·trivial
 ·exact Wide.mono h k
theorem zaz.fits {n:Nat}{v:Ext}(h:zaz n v)(k:n≤400):Fits v:=by
 rcases v with(_|_)|x
 ·trivial
 ·trivial
 ·exact Wide.mono h k
theorem zgt:zaz 1 (.inr 0):=zzl
theorem zpO:zaz 1 (.inr 1):=zCs
theorem zwJ {m n:Nat}{u v:Ext}(hm:1≤m)(hu:zaz m u)(hv:zaz n v):zaz (m+n) (zaA u v):=by
 unfold zaA
 split
 ·exact zgt.mono (by omega)
 ·rcases u with(_|_)|x <;> rcases v with(_|_)|y
  all_goals first|exact zCq hu hv|trivial
theorem zdC (k:Int){m n:Nat}{u v:Ext}(hm:1≤m)(hu:zaz m u)(hv:zaz n v):zaz (m+n+1) (zaW k u v):=by
 unfold zaW
 split
 ·rcases u with(_|_)|x <;> rcases v with(_|_)|y
  all_goals first|exact zCr hu hv|trivial
 ·exact(zwJ hm hu hv).mono (by omega)
theorem zcW (k:Int):zaz 1 (zfL k):=by unfold zfL;split;trivial;exact zgt
theorem zgu (k:Int):zaz 1 (zga k):=by unfold zga;split;exact zgt;exact zpO
end Go.Proofs.YtaogepcaoogpgaaGreatDoor
