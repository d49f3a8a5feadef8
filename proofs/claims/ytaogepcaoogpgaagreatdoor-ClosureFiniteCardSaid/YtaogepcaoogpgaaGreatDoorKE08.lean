/- WE10 WE13 WE61 -/
import Derived.Test.YtaogepcaoogpgaaGreatDoorKE07
set_option linter.unusedVariables false
set_option linter.unusedSimpArgs false
set_option maxRecDepth 100000
set_option maxHeartbeats 16000000
namespace Go.Proofs.YtaogepcaoogpgaaGreatDoor
open Go.RowKit
open Go.Lib (nDigits decDigits)
def Fun (w:World)(g F:Nat):Prop:=w.heap[g]? = some (.cells #[.func (.func F) #[] #[]] 147 (0,0))
theorem Fun.grown {w w':World}{g F:Nat}(h:Fun w g F)(hg:w.grownBy w' none):Fun w' g F:=(hg.block _ (lt_of_block h) (by simp)).trans h
theorem zFc (F g0 g1 g2:Nat)(b1 b2:Bool)(A B C D S:ByteArray)(N:Value)(w:World)(hE:Enters F)(h0:Fun w g0 F)(h1:Num w g1 b1 A B)(h2:Num w g2 b2 C D)
  (M:Hid (∀ w,Calls Tryz.prog F #[.agg #[.bool b1,.string A,.string B],.agg #[.bool b2,.string C,.string D]] w (zab N w)))
  (X:Hid (∀ w,Calls Tryz.prog 199 #[N] w (zab (.string S) w))) :
  Calls Tryz.prog 198 #[.pointer (some ⟨g0,0,none⟩),.pointer (some ⟨g1,0,none⟩),.pointer (some ⟨g2,0,none⟩)] w (zab (.string S) w):=by
 have c0:=cell_of_one h0;obtain⟨x0,x1,x2,_⟩:=h1.cells;obtain⟨y0,y1,y2,_⟩:=h2.cells;have HE:=zHd hE;clear h0 h1 h2 hE;go_enter Tryz.func198,Tryz.ntmps198;go_wp2_with fail;rw[HE.out];refine(M.out _).mono ?_;rintro e w1 ⟨rfl,hg⟩;have G1:=zHd hg;clear hg;go_wp2_with fail;refine(X.out _).mono ?_;rintro e w2 ⟨rfl,hg⟩;have G2:=zHd (zaa G1.out hg);clear hg;go_wp2;go_ret;exact⟨rfl,G2.out⟩
theorem zCr (F g0 g1 g2:Nat)(b1 b2:Bool)(A B C D:ByteArray)(N:Value)(w:World)(hE:Enters F)(h0:Fun w g0 F)(h1:Num w g1 b1 A B)(h2:Num w g2 b2 C D)
  (M:Hid (∀ w,Calls Tryz.prog F #[.agg #[.bool b1,.string A,.string B],.agg #[.bool b2,.string C,.string D]] w (zab N w)))
  (X:Hid (∀ w,Calls Tryz.prog 199 #[N] w (zeh 2 w))) :
  Calls Tryz.prog 198 #[.pointer (some ⟨g0,0,none⟩),.pointer (some ⟨g1,0,none⟩),.pointer (some ⟨g2,0,none⟩)] w (zeh 2 w):=by
 have c0:=cell_of_one h0;obtain⟨x0,x1,x2,_⟩:=h1.cells;obtain⟨y0,y1,y2,_⟩:=h2.cells;have HE:=zHd hE;clear h0 h1 h2 hE;go_enter Tryz.func198,Tryz.ntmps198;go_wp2_with fail;rw[HE.out];refine(M.out _).mono ?_;rintro e w1 ⟨rfl,hg⟩;have G1:=zHd hg;clear hg;go_wp2_with fail;refine(X.out _).mono ?_;rintro e w2 ⟨rfl,hg⟩;exact⟨rfl,rfl,zaa G1.out hg⟩
theorem znb:Enters 198:=enters_of Tryz.func198 (by kernel_rfl) rfl
def zGW (F:Nat)(b1 b2:Bool)(A B C D S:ByteArray)(E:Int):Prop:=∀ (g0 g1 g2:Nat) (w:World),Fun w g0 F→Num w g1 b1 A B→Num w g2 b2 C D →
  Calls Tryz.prog 197 #[.func (.func 198) #[] #[.pointer (some ⟨g0,0,none⟩),.pointer (some ⟨g1,0,none⟩),.pointer (some ⟨g2,0,none⟩)]] w (zab (.tuple #[.string S,.int .i64 E]) w)
theorem znc (F:Nat)(a b:ByteArray)(b1 b2:Bool)(A B C D S:ByteArray)(E:Int)(w:World)
  (R1:Hid (∀ w,Calls Tryz.prog 152 #[.string a] w (zab (.tuple #[.agg #[.bool b1,.string A,.string B],.bool true]) w)))
  (R2:Hid (∀ w,Calls Tryz.prog 152 #[.string b] w (zab (.tuple #[.agg #[.bool b2,.string C,.string D],.bool true]) w)))
  (K:Hid (zGW F b1 b2 A B C D S E)) :
  Calls Tryz.prog 159 #[.string a,.string b,.func (.func F) #[] #[]] w (zab (.tuple #[.string S,.int .i64 E]) w):=by
 have hmf:∀ (fn:Fn) (first cap:Array Value) (w:World),(Instr.makeFunc fn first cap).run Tryz.prog w = .ok (.func fn first cap) w:=fun _ _ _ _=>rfl;go_enter Tryz.func159,Tryz.ntmps159;go_wp2_with fail;refine(R1.out _).mono ?_;rintro e w1 ⟨rfl,hg⟩;have hb:=alloc_old hg;have F1:=zHd (show Fun w1 w.heap.size F from hb);have G1:=zHd (zaa (zGA _ _ none) hg);clear hg hb;go_wp2_with fail;refine(R2.out _).mono ?_;rintro e w2 ⟨rfl,hg⟩;have hb:=alloc_old hg;have N1:=zHd (show Num w2 w1.heap.size b1 A B from hb);have hgg:=zaa (zGA _ _ none) hg;have F2:=zHd (F1.out.grown hgg);have G2:=zHd (zaa G1.out hgg);clear hg hb hgg F1 G1;go_wp2_with fail;refine(K.out _ _ _ _ (F2.out.grown (zGA _ _ none)) (N1.out.grown (zGA _ _ none)) (zau _ _)).mono ?_;rintro e w3 ⟨rfl,hg⟩;have G3:=zHd (zaa G2.out (zaa (zGA _ _ none) hg));clear hg;go_wp2
 go_ret2
 exact⟨rfl,G3.out⟩
def znd (F:Nat)(x y r:Rat):Prop:=∀ w,Calls Tryz.prog F #[ratV x,ratV y] w (zab (ratV r) w)
theorem zeD {F:Nat}{a b:ByteArray}{x y r:Rat}(hE:Enters F)(ha:zax a x)(hb:zax b y)(M:znd F x y r)(w:World) :
  Calls Tryz.prog 159 #[.string a,.string b,.func (.func F) #[] #[]] w (zab (finV r) w):=by
 have r1:=fun w=>ziJ ha w (zgI ha);have r2:=fun w=>ziJ hb w (zgI hb)
 by_cases h:zbd r
 ·rw[zkV h]
  refine znc F a b _ _ _ _ _ _ _ _ w (zHd r1) (zHd r2) (zHd fun g0 g1 g2 w f n1 n2 => ?_);have k:=zGA w (.cells #[.int .i64 0] 24) none;exact zmU _ znb #[] _ _ w (zFc F g0 g1 g2 _ _ _ _ _ _ _ _ _ hE (f.grown k) (n1.grown k) (n2.grown k) (zHd M) (zHd fun w=>zvj r w h))
 ·rw[zhr h]
  refine znc F a b _ _ _ _ _ _ _ _ w (zHd r1) (zHd r2) (zHd fun g0 g1 g2 w f n1 n2 => ?_);have k:=zGA w (.cells #[.int .i64 0] 24) none;exact zmV _ znb #[] _ _ w (zCr F g0 g1 g2 _ _ _ _ _ _ _ _ hE (f.grown k) (n1.grown k) (n2.grown k) (zHd M) (zHd fun w=>zrQ r w h))
def zcP (a:ByteArray):Prop:=∀ x,¬ zax a x
theorem zGk (a:ByteArray):(∃ x,zax a x)∨zcP a:=by
 by_cases h:∃ x,zax a x
 ·exact .inl h
 ·exact .inr fun x k=>h ⟨x,k⟩
theorem zne (a:ByteArray)(ha:a.size≤maxLen):∃ b A B k,(∀ w,Calls Tryz.prog 152 #[.string a] w (zab (.tuple #[.agg #[.bool b,.string A,.string B],.bool k]) w))∧(zcP a→k=false):=by
 rcases zGk a with⟨x,h⟩|h
 ·exact⟨_,_,_,true,fun w=>ziJ h w ha,fun n=>absurd h (n x)⟩
 ·exact⟨_,_,_,false,fun w=>zvk h w ha,fun _=>rfl⟩
open Go.RowKit
open Go.Lib (nDigits decDigits)
theorem zcB {x y:Nat}(hx:nDigits x≤400)(hy:nDigits y≤400):nDigits (x * y)≤800:=by have:=zlF x y;omega
theorem zem (m n:Nat)(hm:nDigits m≤400)(hn:nDigits n≤400):zbo (decS m) (decS n):=fun w=>by
 have:=zcB hm hn;unfold mulS;rw[zaD,zaD];exact zyQ m n w (by omega) (by omega) (by omega)
theorem zbt (m n:Nat):mulS (decS m) (decS n)=decS (m * n):=by unfold mulS;rw[zaD,zaD]
theorem zfg (neg:Bool)(n d:Nat)(hd:d≠0)(hn:nDigits n≤1000)(hdd:nDigits d≤1000){r:Rat}(hr:mkRat (sg neg n) d=r) :
  Hid (∀ w,Calls Tryz.prog 200 #[.bool neg,.string (decS n),.string (decS d)] w (zab (ratV r) w)) :=
 zHd fun w=>by rw[← hr];exact zmW neg n d w hd hn hdd
theorem zgu (x y:Rat):x.den * y.den≠0:=Nat.mul_ne_zero x.den_nz y.den_nz
theorem zqR (x y:Rat)(hx:zbd x)(hy:zbd y):znd 161 x y (x * y):=fun w=>by
 have d1:=zcB hx.1 hy.1;have d2:=zcB hx.2 hy.2;have R:=zfg (sgn x != sgn y) _ _ (zgu x y) (by omega) (by omega) (zpM x y);rw[← zbt,← zbt] at R;exact zjR _ _ _ _ _ _ _ _ _ w (zem _ _ hx.1 hy.1) (zem _ _ hx.2 hy.2) R
theorem zuh (x y:Rat)(hx:zbd x)(hy:zbd y)(h:y.num≠0)(w:World) :
  Calls Tryz.prog 161 #[ratV x,.agg #[.bool (sgn y),.string (decS y.den),.string (decS y.num.natAbs)]] w (zab (ratV (x / y)) w):=by
 have d1:=zcB hx.1 hy.2;have d2:=zcB hx.2 hy.1;have R:=zfg (sgn x != sgn y) _ _ (Nat.mul_ne_zero x.den_nz (show y.num.natAbs≠0 by omega)) (by omega) (by omega) (zyZ x y h);rw[← zbt,← zbt] at R;exact zjR _ _ _ _ _ _ _ _ _ w (zem _ _ hx.1 hy.2) (zem _ _ hx.2 hy.1) R
theorem zpN (x y:Rat)(hx:zbd x)(hy:zbd y):znd 192 x y (x+y):=fun w=>by
 have d1:=zcB hx.1 hy.2;have d2:=zcB hy.1 hx.2;have d3:=zcB hx.2 hy.2;have t1:=zem _ _ hx.1 hy.2;have t2:=zem _ _ hy.1 hx.2;have t3:=zem _ _ hx.2 hy.2
 by_cases hs:sgn x=sgn y
 ·have d4:=zhR _ _ _ d1 d2
  have R:=zfg (sgn x) (x.num.natAbs * y.den+y.num.natAbs * x.den) _ (zgu x y) (by omega) (by omega) (zga x y _ (by rw[← hs,zvl]));have ad:=fun w=>zEU (decS (x.num.natAbs * y.den)) (decS (y.num.natAbs * x.den)) w (zaK _ (by omega)) (zaK _ (by omega));rw[zrI _ _ (decS (x.num.natAbs * y.den+y.num.natAbs * x.den)) (zaM _ (by omega)) (zaM _ (by omega)) (zaM _ (by omega)) (by rw[zaD,zaD,zaD])] at ad;rw[← zbt x.den] at R;rw[← zbt x.num.natAbs y.den,← zbt y.num.natAbs x.den] at ad;have:=zCo (sgn x) _ _ _ _ _ _ _ _ w t1 t2 t3 (zHd ad) R;unfold ratV;rw[show decide (y.num<0)=sgn x from hs.symm];exact this
 ·by_cases hl:x.num.natAbs * y.den<y.num.natAbs * x.den
  ·have d4:=zbH (Nat.sub_le (y.num.natAbs * x.den) (x.num.natAbs * y.den))
   have R:=zfg (sgn y) (y.num.natAbs * x.den - x.num.natAbs * y.den) _ (zgu x y) (by omega) (by omega) (zga x y _ (by rw[zvm _ _ _ _ hs hl]));have cm:=fun w=>zkZ (decS (x.num.natAbs * y.den)) (decS (y.num.natAbs * x.den)) w (zaK _ (by omega)) (zaK _ (by omega));have su:=fun w=>zvg (decS (y.num.natAbs * x.den)) (decS (x.num.natAbs * y.den)) w (zaK _ (by omega)) (zaK _ (by omega));rw[zlf _ _ (by omega) (by omega) (by omega)] at su;obtain⟨c,hc,hc0⟩:∃ c:Int,cmpV (decS (x.num.natAbs * y.den)) (decS (y.num.natAbs * x.den))=c∧c<0:=⟨_,rfl,by rw[zle _ _ (by omega) (by omega)];exact(zdC _ _).2 hl⟩;rw[hc] at cm;rw[← zbt x.den] at R;rw[← zbt x.num.natAbs y.den,← zbt y.num.natAbs x.den] at su cm;exact zCp _ _ _ _ _ _ _ _ _ _ c w hs hc0 t1 t2 t3 (zHd cm) (zHd su) R
  ·have d4:=zbH (Nat.sub_le (x.num.natAbs * y.den) (y.num.natAbs * x.den))
   have R:=zfg (sgn x) (x.num.natAbs * y.den - y.num.natAbs * x.den) _ (zgu x y) (by omega) (by omega) (zga x y _ (by rw[zvn _ _ _ _ hs hl]));have cm:=fun w=>zkZ (decS (x.num.natAbs * y.den)) (decS (y.num.natAbs * x.den)) w (zaK _ (by omega)) (zaK _ (by omega));have su:=fun w=>zvg (decS (x.num.natAbs * y.den)) (decS (y.num.natAbs * x.den)) w (zaK _ (by omega)) (zaK _ (by omega));rw[zlf _ _ (by omega) (by omega) (by omega)] at su;obtain⟨c,hc,hc0⟩:∃ c:Int,cmpV (decS (x.num.natAbs * y.den)) (decS (y.num.natAbs * x.den))=c∧¬ c<0:=⟨_,rfl,by rw[zle _ _ (by omega) (by omega),zdC];exact hl⟩;rw[hc] at cm;rw[← zbt x.den] at R;rw[← zbt x.num.natAbs y.den,← zbt y.num.natAbs x.den] at su cm;exact zCq _ _ _ _ _ _ _ _ _ _ c w hs hc0 t1 t2 t3 (zHd cm) (zHd su) R
theorem zzg (b1 b2 b3 b:Bool)(A B C D C3 D3 S T:ByteArray)(w:World)
  (NG:Hid (∀ w,Calls Tryz.prog 194 #[.agg #[.bool b2,.string C,.string D]] w (zab (.agg #[.bool b3,.string C3,.string D3]) w)))
  (SM:Hid (∀ w,Calls Tryz.prog 192 #[.agg #[.bool b1,.string A,.string B],.agg #[.bool b3,.string C3,.string D3]] w (zab (.agg #[.bool b,.string S,.string T]) w))) :
  Calls Tryz.prog 193 #[.agg #[.bool b1,.string A,.string B],.agg #[.bool b2,.string C,.string D]] w (zab (.agg #[.bool b,.string S,.string T]) w):=by
 have h0:=zek w b1 b2 A B C D;obtain⟨W0,hW0⟩:∃ W0,W0=(((w.alloc (.cells #[.bool b1,.string A,.string B] 142)).alloc (.cells #[.bool b2,.string C,.string D] 142)).alloc (.cells #[.bool false,.string ⟨#[]⟩,.string ⟨#[]⟩] 142)):=⟨_,rfl⟩;rw[← hW0] at h0;have H0:=zHd h0;have HW0:=zHd hW0;clear h0 hW0;go_enter Tryz.func193,Tryz.ntmps193;go_wp2_with fail;rw[← HW0.out];have hs:=H0.out.drew.seen;unfold Seen at hs;have hh:=zHd H0.out.drew;clear HW0
 go_region_held3 (fun W'=>(W'.cell? ⟨w.heap.size,0,none⟩=some (.bool b1)∧W'.cell? ⟨w.heap.size,1,none⟩=some (.string A)∧W'.cell? ⟨w.heap.size,2,none⟩=some (.string B) ∧
   W'.cell? ⟨w.heap.size+1,0,none⟩=some (.bool b2)∧W'.cell? ⟨w.heap.size+1,1,none⟩=some (.string C)∧W'.cell? ⟨w.heap.size+1,2,none⟩=some (.string D))∧Hid (Held w W' b1 b2 A B C D))
  (first
   | exact⟨hs,hh⟩
   | assumption
   | exact s1
   | exact s3
   | exact zmZ w b1 b2 A B C D _ _ _ s3
   | go_keep)
  (first
   | (go_at_call 194;refine(NG.out _).mono ?_;rintro e w5 ⟨rfl,hg5⟩;have s1:=zbc w b1 b2 A B C D hg5 ‹_›)
   | (go_at_call 192;refine(SM.out _).mono ?_;rintro e w7 ⟨rfl,hg7⟩;have s3:=zbc w b1 b2 A B C D hg7 ‹_›;obtain⟨zb,zS,zT,z0,z1,z2,z3,z4,z5⟩:=zgb w b1 b2 A B C D s3))
 have hend:=zdB (a := .bool b) (b := .string S) (c := .string T) s3.2.out.g (show w.heap.size≤w.heap.size+1+1 by omega);have HE:=zHd hend;clear hend s3 s1 hs hh;go_wp2;exact bodyPost_ret (v := .agg #[.bool _,.string _,.string _]) (by simp[results,Tryz.results193,go_sem,z0,z1,z2,z3,z4,z5]) rfl ⟨rfl,HE.out⟩
theorem zzh (b1 b2 b:Bool)(A B C D S T:ByteArray)(w:World)(f1:(C.toList == [48])=false)
  (PR:Hid (∀ w,Calls Tryz.prog 161 #[.agg #[.bool b1,.string A,.string B],.agg #[.bool b2,.string D,.string C]] w (zab (.agg #[.bool b,.string S,.string T]) w))) :
  Calls Tryz.prog 160 #[.agg #[.bool b1,.string A,.string B],.agg #[.bool b2,.string C,.string D]] w (zab (.agg #[.bool b,.string S,.string T]) w):=by
 have h0:=zek w b1 b2 A B C D;have H0:=zHd h0;clear h0;go_enter Tryz.func160,Tryz.ntmps160;go_wp2_with fail;refine(PR.out _).mono ?_;rintro e w1 ⟨rfl,hg⟩;have k:=H0.out.next hg;obtain⟨zb,zS,zT,z0,z1,z2,z3,z4,z5⟩:=k.room;have hend:=zdB (a := .bool b) (b := .string S) (c := .string T) k.g (show w.heap.size≤w.heap.size+1+1 by omega);have HE:=zHd hend;clear hend k hg H0;go_wp2;exact bodyPost_ret (v := .agg #[.bool _,.string _,.string _]) (by simp[results,Tryz.results160,go_sem,z0,z1,z2,z3,z4,z5]) rfl ⟨rfl,HE.out⟩
theorem zzi (x y:Rat)(hx:zbd x)(hy:zbd y):znd 193 x y (x - y):=fun w=>by
 rw[Rat.sub_eq_add_neg];exact zzg _ _ _ _ _ _ _ _ _ _ _ _ w (zHd fun w=>zug y w) (zHd fun w=>zpN x (-y) hx (zzb hy) w)
theorem zzj (x y:Rat)(hx:zbd x)(hy:zbd y)(h:y.num≠0):znd 160 x y (x / y):=fun w =>
 zzh _ _ _ _ _ _ _ _ _ w (by rw[(zero_str' _).1];simpa using h) (zHd fun w=>zuh x y hx hy h w)
theorem zwy:Enters 192:=enters_of Tryz.func192 (by kernel_rfl) rfl
theorem zou:Enters 161:=enters_of Tryz.func161 (by kernel_rfl) rfl
theorem zwz:Enters 193:=enters_of Tryz.func193 (by kernel_rfl) rfl
theorem zwA:Enters 160:=enters_of Tryz.func160 (by kernel_rfl) rfl
def errV (E:Int):Value := .tuple #[.string ⟨#[]⟩,.int .i64 E]
theorem zCs (a b S:ByteArray)(E:Int)(w:World)(O:Hid (∀ w,Calls Tryz.prog 159 #[.string a,.string b,.func (.func 192) #[] #[]] w (zab (.tuple #[.string S,.int .i64 E]) w))) :
  Calls Tryz.prog 153 #[.string a,.string b] w (zab (.tuple #[.string S,.int .i64 E]) w):=by
 go_enter Tryz.func153,Tryz.ntmps153;go_wp2_with fail;refine(O.out _).mono ?_;rintro e w1 ⟨rfl,hg⟩;have G1:=zHd hg;clear hg;go_wp2
 go_ret2
 exact⟨rfl,G1.out⟩
theorem zvp {a b:ByteArray}{x y:Rat}(ha:zax a x)(hb:zax b y)(w:World) :
  Calls Tryz.prog 153 #[.string a,.string b] w (zab (finV (x+y)) w):=by
 obtain⟨S,E,e⟩:=zcy (x+y);have O:=fun w=>zeD zwy ha hb (zpN x y ha.short hb.short) w;rw[e] at O ⊢;exact zCs a b S E w (zHd O)
theorem zCt (a b S:ByteArray)(E:Int)(w:World)(O:Hid (∀ w,Calls Tryz.prog 159 #[.string a,.string b,.func (.func 193) #[] #[]] w (zab (.tuple #[.string S,.int .i64 E]) w))) :
  Calls Tryz.prog 154 #[.string a,.string b] w (zab (.tuple #[.string S,.int .i64 E]) w):=by
 go_enter Tryz.func154,Tryz.ntmps154;go_wp2_with fail;refine(O.out _).mono ?_;rintro e w1 ⟨rfl,hg⟩;have G1:=zHd hg;clear hg;go_wp2
 go_ret2
 exact⟨rfl,G1.out⟩
theorem zFd {a b:ByteArray}{x y:Rat}(ha:zax a x)(hb:zax b y)(w:World) :
  Calls Tryz.prog 154 #[.string a,.string b] w (zab (finV (x - y)) w):=by
 obtain⟨S,E,e⟩:=zcy (x - y);have O:=fun w=>zeD zwz ha hb (zzi x y ha.short hb.short) w;rw[e] at O ⊢;exact zCt a b S E w (zHd O)
theorem zCu (a b S:ByteArray)(E:Int)(w:World)(O:Hid (∀ w,Calls Tryz.prog 159 #[.string a,.string b,.func (.func 161) #[] #[]] w (zab (.tuple #[.string S,.int .i64 E]) w))) :
  Calls Tryz.prog 158 #[.string a,.string b] w (zab (.tuple #[.string S,.int .i64 E]) w):=by
 go_enter Tryz.func158,Tryz.ntmps158;go_wp2_with fail;refine(O.out _).mono ?_;rintro e w1 ⟨rfl,hg⟩;have G1:=zHd hg;clear hg;go_wp2
 go_ret2
 exact⟨rfl,G1.out⟩
theorem zFe {a b:ByteArray}{x y:Rat}(ha:zax a x)(hb:zax b y)(w:World) :
  Calls Tryz.prog 158 #[.string a,.string b] w (zab (finV (x * y)) w):=by
 obtain⟨S,E,e⟩:=zcy (x * y);have O:=fun w=>zeD zou ha hb (zqR x y ha.short hb.short) w;rw[e] at O ⊢;exact zCu a b S E w (zHd O)
theorem zCv (a b S:ByteArray)(E:Int)(w:World)(O:Hid (∀ w,Calls Tryz.prog 159 #[.string a,.string b,.func (.func 160) #[] #[]] w (zab (.tuple #[.string S,.int .i64 E]) w))) :
  Calls Tryz.prog 120 #[.string a,.string b] w (zab (.tuple #[.string S,.int .i64 E]) w):=by
 go_enter Tryz.func120,Tryz.ntmps120;go_wp2_with fail;refine(O.out _).mono ?_;rintro e w1 ⟨rfl,hg⟩;have G1:=zHd hg;clear hg;go_wp2
 go_ret2
 exact⟨rfl,G1.out⟩
theorem zFf {a b:ByteArray}{x y:Rat}(ha:zax a x)(hb:zax b y)(h:y.num≠0)(w:World) :
  Calls Tryz.prog 120 #[.string a,.string b] w (zab (finV (x / y)) w):=by
 obtain⟨S,E,e⟩:=zcy (x / y);have O:=fun w=>zeD zwA ha hb (zzj x y ha.short hb.short h) w;rw[e] at O ⊢;exact zCv a b S E w (zHd O)
open Go.RowKit
open Go.Lib (nDigits decDigits)
open Go.RowKit
open Go.Lib (nDigits decDigits)
def zeO (a:ByteArray)(b:Bool)(A B:ByteArray)(k:Bool):Prop:=∀ w,Calls Tryz.prog 152 #[.string a] w (zab (.tuple #[.agg #[.bool b,.string A,.string B],.bool k]) w)
theorem znf (a:ByteArray)(b:Bool)(A B:ByteArray)(k:Bool)(w:World)(R:Hid (zeO a b A B k)) :
  Calls Tryz.prog 109 #[.string a] w (zab (.bool k) w):=by
 go_enter Tryz.func109,Tryz.ntmps109;go_wp2_with fail;refine(R.out _).mono ?_;rintro e w1 ⟨rfl,hg⟩;have G1:=zHd hg;clear hg;go_wp2;go_ret;exact⟨rfl,G1.out⟩
theorem zng (a:ByteArray)(b:Bool)(A B:ByteArray)(k:Bool)(w:World)(R:Hid (zeO a b A B k)) :
  Calls Tryz.prog 157 #[.string a] w (zab (.tuple #[.bool b,.string A,.string B,.bool k]) w):=by
 go_enter Tryz.func157,Tryz.ntmps157;go_wp2_with fail;refine(R.out _).mono ?_;rintro e w1 ⟨rfl,hg⟩;have G1:=zHd hg;clear hg;go_wp2_with fail
 go_quiet (fail)
 go_wp2;exact bodyPost_ret (v := .tuple #[.bool _,.string _,.string _,.bool _]) (by simp[results,Tryz.results157,go_sem]) rfl ⟨rfl,zaa G1.out (zaa (zGA _ _ none) (zbv _ _ _))⟩
theorem zGl (a b:ByteArray)(b1 b2 k1 k2:Bool)(A B C D:ByteArray)(w:World)(hk:(k1&&k2)=false)(R1:Hid (zeO a b1 A B k1))(R2:Hid (zeO b b2 C D k2)) :
  Calls Tryz.prog 156 #[.string a,.string b] w (zab (.int .i64 0) w):=by
 cases k1 <;> cases k2 <;> simp only[Bool.and_self,Bool.and_true,Bool.true_and,Bool.true_eq_false] at hk
 all_goals
  go_enter Tryz.func156,Tryz.ntmps156;go_wp2_with fail;refine(R1.out _).mono ?_;rintro e w1 ⟨rfl,hg⟩;have G1:=zHd hg;clear hg;go_wp2_with fail;refine(R2.out _).mono ?_;rintro e w2 ⟨rfl,hg⟩;have G2:=zHd (zaa G1.out (zaa (zGA _ _ none) hg));clear hg;go_wp2;go_ret;exact⟨rfl,zaa G2.out (zGA _ _ none)⟩
theorem zFg (a b:ByteArray)(b1 b2:Bool)(A B C D:ByteArray)(c:Int)(w:World)(R1:Hid (zeO a b1 A B true))(R2:Hid (zeO b b2 C D true))
  (CP:Hid (∀ w,Calls Tryz.prog 196 #[.agg #[.bool b1,.string A,.string B],.agg #[.bool b2,.string C,.string D]] w (zab (.int .i64 c) w))) :
  Calls Tryz.prog 156 #[.string a,.string b] w (zab (.int .i64 c) w):=by
 go_enter Tryz.func156,Tryz.ntmps156;go_wp2_with fail;refine(R1.out _).mono ?_;rintro e w1 ⟨rfl,hg⟩;have G1:=zHd hg;clear hg;go_wp2_with fail;refine(R2.out _).mono ?_;rintro e w2 ⟨rfl,hg⟩;have hb:=alloc_old hg;have N1:=(show Num w2 w1.heap.size b1 A B from hb).grown (zGA w2 (.cells #[.bool b2,.string C,.string D] 142) none);obtain⟨x0,x1,x2,_⟩:=N1.cells;have G2:=zHd (zaa G1.out (zaa (zGA _ _ none) hg));clear hg hb N1;go_wp2_with fail;refine(CP.out _).mono ?_;rintro e w3 ⟨rfl,hg⟩;have G3:=zHd (zaa G2.out (zaa (zGA _ _ none) hg));clear hg x0 x1 x2;go_wp2;go_ret;exact⟨rfl,G3.out⟩
theorem zhx {a:ByteArray}{x:Rat}(h:zax a x):zeO a (sgn x) (decS x.num.natAbs) (decS x.den) true:=fun w=>ziJ h w (zgI h)
theorem zrU {a:ByteArray}(h:zcP a)(ha:a.size≤maxLen):zeO a false ⟨#[]⟩ ⟨#[]⟩ false:=fun w=>zvk h w ha
theorem zjT {a:ByteArray}{x:Rat}(h:zax a x)(w:World):Calls Tryz.prog 109 #[.string a] w (zab (.bool true) w):=znf a _ _ _ _ w (zHd (zhx h))
theorem zfO {a:ByteArray}(h:zcP a)(ha:a.size≤maxLen)(w:World):Calls Tryz.prog 109 #[.string a] w (zab (.bool false) w):=znf a _ _ _ _ w (zHd (zrU h ha))
def zzk (x:Rat):Value := .tuple #[.bool (sgn x),.string (decS x.num.natAbs),.string (decS x.den),.bool true]
def zcM:Value := .tuple #[.bool false,.string ⟨#[]⟩,.string ⟨#[]⟩,.bool false]
theorem zzl {a:ByteArray}{x:Rat}(h:zax a x)(w:World):Calls Tryz.prog 157 #[.string a] w (zab (zzk x) w):=zng a _ _ _ _ w (zHd (zhx h))
theorem zCw {a:ByteArray}(h:zcP a)(ha:a.size≤maxLen)(w:World):Calls Tryz.prog 157 #[.string a] w (zab zcM w):=zng a _ _ _ _ w (zHd (zrU h ha))
theorem zvq (m n:Nat)(hm:nDigits m≤1000)(hn:nDigits n≤1000):∀ w,Calls Tryz.prog 227 #[.string (decS m),.string (decS n)] w fun e w'=>e = .returned (.int .i64 (cmpN m n))∧w.grownBy w' none:=fun w=>by
 have:=zkZ (decS m) (decS n) w (zaK m hm) (zaK n hn);rw[zle m n hm hn] at this;exact this
theorem zui (x y:Rat)(hx:zbd x)(hy:zbd y)(w:World):Calls Tryz.prog 196 #[ratV x,ratV y] w (zab (.int .i64 (cmpQ x y)) w):=by
 have d1:=zcB hx.1 hy.2;have d2:=zcB hy.1 hx.2;have t1:=zem _ _ hx.1 hy.2;have t2:=zem _ _ hy.1 hx.2;unfold ratV;rw[show decide (x.num<0)=sgn x from rfl,show decide (y.num<0)=sgn y from rfl];cases h1:sgn x <;> cases h2:sgn y
 ·rw[zCm x y h1 h2]
  have cm:=zvq (x.num.natAbs * y.den) (y.num.natAbs * x.den) (by omega) (by omega);rw[← zbt x.num.natAbs y.den,← zbt y.num.natAbs x.den] at cm;exact zrT _ _ _ _ _ w t1 t2 (zHd cm)
 ·rw[zzd x y h1 h2];exact zjS false true _ _ _ _ w (by decide)
 ·rw[zzc x y h1 h2];exact zjS true false _ _ _ _ w (by decide)
 ·rw[zze x y h1 h2]
  have cm:=zvq (y.num.natAbs * x.den) (x.num.natAbs * y.den) (by omega) (by omega);rw[← zbt x.num.natAbs y.den,← zbt y.num.natAbs x.den] at cm;exact zqQ _ _ _ _ _ w t2 t1 (zHd cm)
theorem znh {a b:ByteArray}{x y:Rat}(ha:zax a x)(hb:zax b y)(w:World):Calls Tryz.prog 156 #[.string a,.string b] w (zab (.int .i64 (cmpQ x y)) w) :=
 zFg a b _ _ _ _ _ _ _ w (zHd (zhx ha)) (zHd (zhx hb)) (zHd fun w=>zui x y ha.short hb.short w)
theorem zgc {a b:ByteArray}(ha:a.size≤maxLen)(hb:b.size≤maxLen)(h:zcP a∨zcP b)(w:World):Calls Tryz.prog 156 #[.string a,.string b] w (zab (.int .i64 0) w):=by
 obtain⟨b1,A,B,k1,r1,n1⟩:=zne a ha;obtain⟨b2,C,D,k2,r2,n2⟩:=zne b hb;refine zGl a b _ _ k1 k2 _ _ _ _ w ?_ (zHd r1) (zHd r2);rcases h with h|h
 ·rw[n1 h];rfl
 ·rw[n2 h,Bool.and_false]
theorem zuj (s chars:List UInt8):(Lib.indexAny s chars = -1∧∀ x∈s,chars.contains x=false)∨(∃ (i:Nat) (c:UInt8),Lib.indexAny s chars=i∧s[i]? = some c∧chars.contains c=true):=by
 induction s with
 | nil=>exact .inl ⟨rfl,by simp⟩
 | cons b l ih =>
  by_cases h:chars.contains b=true
  ·exact .inr ⟨0,b,by rw[Lib.indexAny,if_pos h];rfl,rfl,h⟩
  ·rcases ih with⟨h1,h2⟩|⟨i,c,h1,h2,h3⟩
   ·refine .inl ⟨by rw[Lib.indexAny,if_neg h,h1];rfl,?_⟩
    intro x hx;rcases List.mem_cons.1 hx with rfl|hx
    ·simpa using h
    ·exact h2 x hx
   ·refine .inr ⟨i+1,c,?_,by simpa using h2,h3⟩
    rw[Lib.indexAny,if_neg h,h1,if_neg (fun e=>by have:=beq_iff_eq.1 e;omega)]
    push_cast
    rfl
theorem zrV (l:List UInt8)(i:Nat):(⟨l.toArray⟩:ByteArray).extract 0 i=⟨(l.take i).toArray⟩:=by
 apply ByteArray.ext
 rw[ByteArray.data_extract];simp[List.extract_eq_take_drop]
theorem extract_drop (l:List UInt8)(i:Nat):(⟨l.toArray⟩:ByteArray).extract i (⟨l.toArray⟩:ByteArray).size=⟨(l.drop i).toArray⟩:=by
 apply ByteArray.ext
 rw[ByteArray.data_extract];simp[List.extract_eq_take_drop,ByteArray.size];rw[List.take_of_length_le (by simp)]
open Go.RowKit
open Go.Lib (nDigits decDigits)
open Go.RowKit
open Go.Lib (nDigits decDigits)
def infS:ByteArray:=⟨#[105,110,102]⟩
def lowS:ByteArray:=⟨#[45,105,110,102]⟩
def zdH:ByteArray:=⟨#[48]⟩
def oneS:ByteArray:=⟨#[49]⟩
abbrev Ext:=Sum Bool Rat
def IsE (a:ByteArray):Ext→Prop
 | .inl true=>a=infS
 | .inl false=>a=lowS
 | .inr x=>zax a x
def extV:Ext→Value
 | .inl true => .tuple #[.string infS,.int .i64 0]
 | .inl false => .tuple #[.string lowS,.int .i64 0]
 | .inr x=>finV x
theorem zfC {a:ByteArray}{v:Ext}(h:IsE a v):extV v = .tuple #[.string a,.int .i64 0]:=by
 rcases v with(_|_)|x
 ·cases h;rfl
 ·cases h;rfl
 ·exact zgT h
theorem zov:∀ x,¬ zax infS x:=fun x h=>by
 have h1:=(zhs h).n
 revert h1
 decide +kernel
theorem zow:∀ x,¬ zax lowS x:=fun x h=>by
 have h1:=(zhs h).n
 revert h1
 decide +kernel
theorem zvr:lowS≠infS:=by decide +kernel
theorem IsE.uniq {a:ByteArray}{u v:Ext}(h:IsE a u)(k:IsE a v):u=v:=by
 rcases u with(_|_)|x <;> rcases v with(_|_)|y
 ·rfl
 ·exact absurd (h.symm.trans k) zvr
 ·cases h;exact absurd k (zow y)
 ·exact absurd (k.symm.trans h) zvr
 ·rfl
 ·cases h;exact absurd k (zov y)
 ·cases k;exact absurd h (zow x)
 ·cases k;exact absurd h (zov x)
 ·rw[zax.uniq h k]
theorem IsE.same {a b:ByteArray}{v:Ext}(h:IsE a v)(k:IsE b v):a=b:=by
 rcases v with(_|_)|x
 ·exact h.trans k.symm
 ·exact h.trans k.symm
 ·exact h.eq.trans k.eq.symm
theorem IsE.len {a:ByteArray}{v:Ext}(h:IsE a v):a.size≤maxLen:=by
 rcases v with(_|_)|x
 ·cases h;decide
 ·cases h;decide
 ·exact zgI h
theorem zni:IsE zdH (.inr 0):=ziK
theorem oneE:IsE oneS (.inr 1):=⟨by decide +kernel,by decide +kernel⟩
theorem topE:IsE infS (.inl true):=rfl
theorem lowE:IsE lowS (.inl false):=rfl
def zwB:Ext→Int
 | .inl true=>1
 | .inl false => -1
 | .inr _=>0
def cmpI (m n:Int):Int:=if m<n then -1 else if n<m then 1 else 0
def cmpE:Ext→Ext→Int
 | .inr x,.inr y=>cmpQ x y
 | u,v=>cmpI (zwB u) (zwB v)
theorem zzm (x:Rat):cmpQ x x=0:=by unfold cmpQ;rw[if_neg (Rat.lt_irrefl),if_neg (Rat.lt_irrefl)]
theorem zeL (x y:Rat):cmpQ x y<0↔x<y:=by
 unfold cmpQ
 split
 ·simp_all
 ·split <;> simp_all
theorem zjU (x y:Rat):cmpQ y x = -cmpQ x y:=by
 unfold cmpQ
 by_cases h:x<y
 ·rw[if_pos h,if_neg (Rat.not_lt.2 (Rat.le_of_lt h)),if_pos h];rfl
 ·by_cases k:y<x
  ·rw[if_pos k,if_neg h,if_pos k]
  ·rw[if_neg k,if_neg h,if_neg h,if_neg k];rfl
theorem zma (x y:Rat):0<cmpQ x y↔y<x:=by
 rw[← zeL,zjU];omega
theorem zpO (x y:Rat):cmpQ x y=0↔x=y:=by
 constructor
 ·intro h
  have h1:¬ x<y:=fun k=>by have:=(zeL x y).2 k;omega
  have h2:¬ y<x:=fun k=>by have:=(zma x y).2 k;omega
  exact Rat.le_antisymm (Rat.not_lt.1 h2) (Rat.not_lt.1 h1)
 ·rintro rfl;exact zzm x
theorem zlg (x y:Rat):cmpQ x y≤0↔x≤y:=by
 rw[← Rat.not_lt,← zma];omega
theorem zdR (u v:Ext):cmpE v u = -cmpE u v:=by
 rcases u with(_|_)|x <;> rcases v with(_|_)|y
 all_goals first|exact zjU x y|rfl
theorem zeP (u v:Ext):cmpE u v=0↔u=v:=by
 rcases u with(_|_)|x <;> rcases v with(_|_)|y
 all_goals first
  | exact⟨fun h=>congrArg _ ((zpO x y).1 h),fun h=>(zpO x y).2 (Sum.inr.inj h)⟩
  | exact⟨fun h=>absurd (show(-1:Int)=0 from h) (by decide),fun h=>by cases h⟩
  | exact⟨fun h=>absurd (show(1:Int)=0 from h) (by decide),fun h=>by cases h⟩
  | exact⟨fun _=>rfl,fun _=>rfl⟩
theorem ziL (u v t:Ext)(h:cmpE u v≤0)(k:cmpE v t≤0):cmpE u t≤0:=by
 rcases u with(_|_)|x <;> rcases v with(_|_)|y <;> rcases t with(_|_)|z
 all_goals first
  | exact(zlg x z).2 (Rat.le_trans ((zlg x y).1 h) ((zlg y z).1 k))
  | exact absurd (show(1:Int)≤0 from h) (by decide)
  | exact absurd (show(1:Int)≤0 from k) (by decide)
  | exact(show(-1:Int)≤0 by decide)
  | exact(show(0:Int)≤0 by decide)
def zeE (k:Int):Bool:=decide (k=1) || (decide (k=2) || decide (k=3))
def hasE (k:Int):Ext→Bool
 | .inl true=>zeE k
 | .inl false=>decide (k=1)
 | .inr x=>decide (k=1) || ((decide (k=2) || decide (k=3))&&decide (0≤x))
def wgtE (k:Int):Ext→Bool
 | .inl _=>false
 | .inr x=>decide (k=1) || ((decide (k=2) || decide (k=3))&&decide (0<x))
def zfP (k:Int):Ext:=if k=1 then .inl true else .inr 0
def zgd (k:Int):Ext:=if k=1 then .inr 0 else .inr 1
def zbD (u v:Ext):Ext:=if cmpE v u<0 then v else u
def zbz (u v:Ext):Ext:=if 0<cmpE v u then v else u
def zbE:Ext→Ext→Ext
 | .inr x,.inr y => .inr (x+y)
 | .inl true,_ => .inl true
 | _,.inl true => .inl true
 | _,_ => .inl false
def sumE:Ext→Ext→Ext
 | .inr x,.inr y => .inr (x+y)
 | _,_ => .inl true
def zaA (u v:Ext):Ext:=if u = .inr 0∨v = .inr 0 then .inr 0 else match u,v with
 | .inr x,.inr y => .inr (x * y)
 | _,_ => .inl true
def zcm (k:Int)(u v:Ext):Ext:=if k=1 then zbD u v else if k=2 then sumE u v else zbz u v
def zaX (k:Int)(u v:Ext):Ext:=if k=1 then zbE u v else zaA u v
def zcK (k:Int)(u:Ext):Ext :=
 if k=1 then (if cmpE u (.inr 0)<0 then .inl false else .inr 0)
 else if k=2 then (match u with
  | .inr x=>if x<1 then .inr (1 / (1 - x)) else .inl true
  | _ => .inl true)
 else (if 0<cmpE u (.inr 1) then .inl true else .inr 1)
def zbU (k:Int)(u v:Ext):Int:=if k=1 then cmpE u v else cmpE v u
structure Val (k:Int)(a:ByteArray)(v:Ext):Prop where
 e:IsE a v
 has:hasE k v=true
structure Wgt (k:Int)(a:ByteArray)(v:Ext):Prop where
 e:IsE a v
 has:wgtE k v=true
def zfQ (k:Int)(a:ByteArray):Prop:=∀ v,IsE a v→hasE k v=false
def zwC (k:Int)(a:ByteArray):Prop:=∀ v,IsE a v→wgtE k v=false
theorem zge (k:Int)(a:ByteArray):(∃ v,Val k a v)∨zfQ k a:=by
 by_cases h:∃ v,Val k a v
 ·exact .inl h
 ·refine .inr fun v hv => ?_
  cases hk:hasE k v
  ·rfl
  ·exact absurd ⟨v,hv,hk⟩ h
theorem zGm (k:Int)(a:ByteArray):(∃ v,Wgt k a v)∨zwC k a:=by
 by_cases h:∃ v,Wgt k a v
 ·exact .inl h
 ·refine .inr fun v hv => ?_
  cases hk:wgtE k v
  ·rfl
  ·exact absurd ⟨v,hv,hk⟩ h
theorem zFh {k:Int}{v:Ext}(h:wgtE k v=true):hasE k v=true:=by
 rcases v with(_|_)|x
 ·cases h
 ·cases h
 ·unfold wgtE at h;unfold hasE
  simp only[Bool.or_eq_true,Bool.and_eq_true,decide_eq_true_eq] at h ⊢;rcases h with h|⟨h1,h2⟩
  ·exact .inl h
  ·exact .inr ⟨h1,Rat.le_of_lt h2⟩
theorem Wgt.val {k:Int}{a:ByteArray}{v:Ext}(h:Wgt k a v):Val k a v:=⟨h.e,zFh h.has⟩
theorem zox {k:Int}(h1:k≠1)(h2:k≠2)(h3:k≠3)(v:Ext):hasE k v=false:=by
 rcases v with(_|_)|x <;> simp[hasE,zeE,h1,h2,h3]
theorem Val.kind {k:Int}{a:ByteArray}{v:Ext}(h:Val k a v):k=1∨k=2∨k=3:=by
 by_cases h1:k=1
 ·exact .inl h1
 by_cases h2:k=2
 ·exact .inr (.inl h2)
 by_cases h3:k=3
 ·exact .inr (.inr h3)
 have:=zox h1 h2 h3 v;rw[h.has] at this;cases this
theorem zcf (v:Ext):hasE 2 v=hasE 3 v:=by rcases v with(_|_)|x <;> rfl
theorem zvs (v:Ext):wgtE 2 v=wgtE 3 v:=by rcases v with(_|_)|x <;> rfl
theorem zlh (v:Ext):hasE 1 v=true:=by rcases v with(_|_)|x <;> rfl
theorem zat (v:Ext)(h:hasE 2 v=true):v = .inl true∨∃ x,v = .inr x∧0≤x:=by
 rcases v with(_|_)|x
 ·cases h
 ·exact .inl rfl
 ·refine .inr ⟨x,rfl,?_⟩
  simpa [hasE] using h
open Go.RowKit
open Go.Lib (nDigits decDigits)
def Wide (n:Nat)(x:Rat):Prop:=nDigits x.num.natAbs≤n∧nDigits x.den≤n
theorem Wide.mono {m n:Nat}{x:Rat}(h:Wide m x)(k:m≤n):Wide n x:=⟨Nat.le_trans h.1 k,Nat.le_trans h.2 k⟩
theorem zCx (z:Int)(d:Nat)(hd:d≠0):(mkRat z d).num.natAbs≤z.natAbs∧(mkRat z d).den≤d:=by
 have e:sg (decide (z<0)) z.natAbs=z:=by
  unfold sg
  by_cases h:z<0
  ·rw[if_pos (by simpa using h)];omega
  ·rw[if_neg (by simpa using h)];omega
 have h1:=zrv (decide (z<0)) z.natAbs d hd;have h2:=zrw (decide (z<0)) z.natAbs d hd;rw[e] at h1 h2;rw[h1,h2];exact⟨Nat.div_le_self _ _,Nat.div_le_self _ _⟩
theorem zoy (z:Int)(d n:Nat)(hd:d≠0)(h1:nDigits z.natAbs≤n)(h2:nDigits d≤n):Wide n (mkRat z d):=by
 obtain⟨k1,k2⟩:=zCx z d hd;exact⟨Nat.le_trans (zbH k1) h1,Nat.le_trans (zbH k2) h2⟩
theorem dig_mul' {x y m n:Nat}(hx:nDigits x≤m)(hy:nDigits y≤n):nDigits (x * y)≤m+n:=by have:=zlF x y;omega
theorem zzn (x y:Rat):x.den * y.den≠0:=Nat.mul_ne_zero x.den_nz y.den_nz
theorem zCy {m n:Nat}{x y:Rat}(hx:Wide m x)(hy:Wide n y):Wide (m+n) (x * y):=by
 rw[← zpM x y];refine zoy _ _ _ (zzn x y) ?_ (dig_mul' hx.2 hy.2);rw[zib];exact dig_mul' hx.1 hy.1
theorem zCz {m n:Nat}{x y:Rat}(hx:Wide m x)(hy:Wide n y):Wide (m+n+1) (x+y):=by
 rw[← zga x y _ rfl];refine zoy _ _ _ (zzn x y) ?_ (Nat.le_succ_of_le (dig_mul' hx.2 hy.2));have d1:=dig_mul' hx.1 hy.2;have d2:nDigits (y.num.natAbs * x.den)≤m+n:=by have:=dig_mul' hy.1 hx.2;omega
 refine Nat.le_trans (zbH ?_) (zhR _ _ _ d1 d2);have e1:=zib (sgn x) (x.num.natAbs * y.den);have e2:=zib (sgn y) (y.num.natAbs * x.den)
 omega
theorem zzo:Wide 1 (0:Rat):=by unfold Wide;decide +kernel
theorem zCA:Wide 1 (1:Rat):=by unfold Wide;decide +kernel
theorem zwD {x:Rat}:(1 - x)=mkRat ((x.den:Int) - x.num) x.den:=by
 have e:=zga 1 (-x) _ rfl;rw[Rat.sub_eq_add_neg,← e]
 have h1:sg (sgn 1) ((1:Rat).num.natAbs * (-x).den)=(x.den:Int):=by
  rw[Rat.neg_den,show sgn 1=false by decide +kernel,show(1:Rat).num.natAbs=1 by decide +kernel];unfold sg;simp
 have h2:sg (sgn (-x)) ((-x).num.natAbs * (1:Rat).den) = -x.num:=by
  rw[show(1:Rat).den=1 by decide +kernel,Nat.mul_one,← Rat.neg_num];exact zru (-x)
 rw[h1,h2,show(1:Rat).den * (-x).den=x.den by rw[Rat.neg_den,show(1:Rat).den=1 by decide +kernel,Nat.one_mul],Int.sub_eq_add_neg]
theorem zwE {x:Rat}(h0:0≤x)(h1:x≤1)(h:zbd x):zbd (1 - x):=by
 rw[zwD];have k0:=Rat.num_nonneg.2 h0
 have k1:x.num≤x.den:=by
  have:=(Rat.le_iff x 1).1 h1;rw[show(1:Rat).num=1 by decide +kernel,show(1:Rat).den=1 by decide +kernel] at this
  omega
 refine zoy _ _ 400 x.den_nz ?_ h.2;refine Nat.le_trans (zbH ?_) h.2
 omega
theorem zvt {x:Rat}(h:x<1):(1 - x).num≠0:=fun k=>by
 rw[Rat.num_eq_zero] at k;have:=Rat.sub_add_cancel (a:=1) (b:=x);rw[k,Rat.zero_add] at this;rw[this] at h;exact Rat.lt_irrefl h
open Go.RowKit
open Go.Lib (nDigits decDigits)
def leE (u v:Ext):Prop:=cmpE u v≤0
theorem zbQ (u:Ext):leE u u:=by unfold leE;rw[(zeP u u).2 rfl];decide
theorem zdq {u v t:Ext}(h:leE u v)(k:leE v t):leE u t:=ziL u v t h k
theorem zeQ (u v:Ext):leE u v∨leE v u:=by
 unfold leE;have:=zdR u v
 omega
theorem zrW {u v:Ext}(h:leE u v)(k:leE v u):u=v:=by
 unfold leE at *;have:=zdR u v;exact(zeP u v).1 (by omega)
theorem zbi (x y:Rat):leE (.inr x) (.inr y)↔x≤y:=zlg x y
theorem zbN (u:Ext):leE u (.inl true):=by
 rcases u with(_|_)|x
 ·exact(show(-1:Int)≤0 by decide)
 ·exact(show(0:Int)≤0 by decide)
 ·exact(show(-1:Int)≤0 by decide)
theorem zvu (u:Ext):leE (.inl false) u:=by
 rcases u with(_|_)|x
 ·exact(show(0:Int)≤0 by decide)
 ·exact(show(-1:Int)≤0 by decide)
 ·exact(show(-1:Int)≤0 by decide)
theorem zbw (x:Rat):¬ leE (.inl true) (.inr x):=fun h=>absurd (show(1:Int)≤0 from h) (by decide)
theorem zhS:¬ leE (.inl true) (.inl false):=fun h=>absurd (show(1:Int)≤0 from h) (by decide)
theorem zex (x:Rat):¬ leE (.inr x) (.inl false):=fun h=>absurd (show(1:Int)≤0 from h) (by decide)
theorem zeR {u v:Ext}(h:leE u v):zbD u v=u:=by
 unfold zbD;unfold leE at h;have:=zdR u v;rw[if_neg (by omega)]
theorem zfh {u v:Ext}(h:leE v u):zbD u v=v:=by
 unfold zbD
 by_cases k:cmpE v u<0
 ·rw[if_pos k]
 ·rw[if_neg k]
  unfold leE at h;exact((zeP v u).1 (by omega)).symm
theorem zeS {u v:Ext}(h:leE v u):zbz u v=u:=by
 unfold zbz;unfold leE at h;rw[if_neg (by omega)]
theorem zfi {u v:Ext}(h:leE u v):zbz u v=v:=by
 unfold zbz
 by_cases k:0<cmpE v u
 ·rw[if_pos k]
 ·rw[if_neg k]
  unfold leE at h;have:=zdR u v;exact(zeP u v).1 (by omega)
theorem zfD (t u v:Ext):leE t (zbD u v)↔leE t u∧leE t v:=by
 rcases zeQ u v with h|h
 ·rw[zeR h];exact⟨fun k=>⟨k,zdq k h⟩,fun k=>k.1⟩
 ·rw[zfh h];exact⟨fun k=>⟨zdq k h,k⟩,fun k=>k.2⟩
theorem zfE (t u v:Ext):leE (zbz u v) t↔leE u t∧leE v t:=by
 rcases zeQ u v with h|h
 ·rw[zfi h];exact⟨fun k=>⟨zdq h k,k⟩,fun k=>k.2⟩
 ·rw[zeS h];exact⟨fun k=>⟨k,zdq h k⟩,fun k=>k.1⟩
theorem zrX {u v:Ext}(h:∀ t,leE t u↔leE t v):u=v:=zrW ((h u).1 (zbQ u)) ((h v).2 (zbQ v))
theorem zrY {u v:Ext}(h:∀ t,leE u t↔leE v t):u=v:=zrW ((h v).2 (zbQ v)) ((h u).1 (zbQ u))
theorem zzp (u v:Ext):zbD u v=zbD v u:=zrX fun t=>by rw[zfD,zfD];exact and_comm
theorem zzq (u v:Ext):zbz u v=zbz v u:=zrY fun t=>by rw[zfE,zfE];exact and_comm
theorem zwF (u v t:Ext):zbD (zbD u v) t=zbD u (zbD v t):=zrX fun s=>by simp only[zfD,and_assoc]
theorem zwG (u v t:Ext):zbz (zbz u v) t=zbz u (zbz v t):=zrY fun s=>by simp only[zfE,and_assoc]
theorem zvv (u v:Ext):zbD u v=u∨zbD u v=v:=by rcases zeQ u v with h|h;exact .inl (zeR h);exact .inr (zfh h)
theorem zoz (u v:Ext):zbz u v=u∨zbz u v=v:=by rcases zeQ u v with h|h;exact .inr (zfi h);exact .inl (zeS h)
theorem zCB (u:Ext):zbE (.inl true) u = .inl true:=by rcases u with(_|_)|x <;> rfl
theorem zjV (u v:Ext):zbE u v=zbE v u:=by
 rcases u with(_|_)|x <;> rcases v with(_|_)|y
 all_goals first|exact congrArg Sum.inr (Rat.add_comm x y)|rfl
theorem zwH (u v t:Ext):zbE (zbE u v) t=zbE u (zbE v t):=by
 rcases u with(_|_)|x <;> rcases v with(_|_)|y <;> rcases t with(_|_)|z
 all_goals first|exact congrArg Sum.inr (Rat.add_assoc x y z)|rfl
theorem zjW (u:Ext):zbE u (.inr 0)=u:=by
 rcases u with(_|_)|x
 ·rfl
 ·rfl
 ·exact congrArg Sum.inr (Rat.add_zero x)
theorem zjX (t u v:Ext)(h:leE u v):leE (zbE t u) (zbE t v):=by
 rcases t with(_|_)|z <;> rcases u with(_|_)|x <;> rcases v with(_|_)|y
 all_goals first
  | exact zbN _
  | exact zvu _
  | exact absurd h zhS
  | exact absurd h (zbw _)
  | exact absurd h (zex _)
  | exact(zbi _ _).2 (Rat.add_le_add_left.2 ((zbi _ _).1 h))
theorem zzr (t u v:Ext):zbE t (zbD u v)=zbD (zbE t u) (zbE t v):=by
 rcases zeQ u v with h|h
 ·rw[zeR h,zeR (zjX t u v h)]
 ·rw[zfh h,zfh (zjX t v u h)]
theorem zaV (x y:Rat):zaA (.inr x) (.inr y) = .inr (x * y):=by
 unfold zaA
 by_cases hx:x=0
 ·subst hx;rw[if_pos (.inl rfl),Rat.zero_mul]
 by_cases hy:y=0
 ·subst hy;rw[if_pos (.inr rfl),Rat.mul_zero]
 rw[if_neg (fun h=>by rcases h with h|h;exact hx (Sum.inr.inj h);exact hy (Sum.inr.inj h))]
theorem zaT (u:Ext):zaA (.inr 0) u = .inr 0:=if_pos (.inl rfl)
theorem zay (u:Ext):zaA u (.inr 0) = .inr 0:=if_pos (.inr rfl)
theorem zaB {x:Rat}(h:x≠0):zaA (.inl true) (.inr x) = .inl true:=by
 unfold zaA;rw[if_neg (fun k=>by rcases k with k|k;cases k;exact h (Sum.inr.inj k))]
theorem zaE {x:Rat}(h:x≠0):zaA (.inr x) (.inl true) = .inl true:=by
 unfold zaA;rw[if_neg (fun k=>by rcases k with k|k;exact h (Sum.inr.inj k);cases k)]
theorem zbf:zaA (.inl true) (.inl true) = .inl true:=by
 unfold zaA;rw[if_neg (fun k=>by rcases k with k|k <;> cases k)]
theorem zjY (u v:Ext)(hu:hasE 2 u=true)(hv:hasE 2 v=true):zaA u v=zaA v u:=by
 rcases zat u hu with rfl|⟨x,rfl,hx⟩ <;> rcases zat v hv with rfl|⟨y,rfl,hy⟩
 ·rfl
 ·by_cases h:y=0
  ·subst h;rw[zaT,zay]
  ·rw[zaB h,zaE h]
 ·by_cases h:x=0
  ·subst h;rw[zaT,zay]
  ·rw[zaB h,zaE h]
 ·rw[zaV,zaV,Rat.mul_comm]
theorem zzs {x y:Rat}(hx:x≠0)(hy:y≠0):x * y≠0:=fun h=>by rcases Rat.mul_eq_zero.1 h with h|h;exact hx h;exact hy h
theorem znj (u v t:Ext)(hu:hasE 2 u=true)(hv:hasE 2 v=true)(ht:hasE 2 t=true):zaA (zaA u v) t=zaA u (zaA v t):=by
 by_cases zu:u = .inr 0
 ·subst zu;rw[zaT,zaT,zaT]
 by_cases zv:v = .inr 0
 ·subst zv;rw[zaT,zay,zaT]
 by_cases zt:t = .inr 0
 ·subst zt;rw[zay,zay,zay]
 rcases zat u hu with rfl|⟨x,rfl,hx⟩ <;> rcases zat v hv with rfl|⟨y,rfl,hy⟩ <;> rcases zat t ht with rfl|⟨z,rfl,hz⟩
 ·rw[zbf]
 ·rw[zbf,zaB (fun h=>zt (congrArg _ h)),zbf]
 ·rw[zaB (fun h=>zv (congrArg _ h)),zaE (fun h=>zv (congrArg _ h))]
 ·rw[zaB (fun h=>zv (congrArg _ h)),zaB (fun h=>zt (congrArg _ h)),zaV,zaB (zzs (fun h=>zv (congrArg _ h)) (fun h=>zt (congrArg _ h)))]
 ·rw[zaE (fun h=>zu (congrArg _ h)),zbf,zaE (fun h=>zu (congrArg _ h))]
 ·rw[zaE (fun h=>zu (congrArg _ h)),zaB (fun h=>zt (congrArg _ h)),zaE (fun h=>zu (congrArg _ h))]
 ·rw[zaV,zaE (fun h=>zv (congrArg _ h)),zaE (fun h=>zu (congrArg _ h)),zaE (zzs (fun h=>zu (congrArg _ h)) (fun h=>zv (congrArg _ h)))]
 ·rw[zaV,zaV,zaV,zaV,Rat.mul_assoc]
theorem ziM (u:Ext)(hu:hasE 2 u=true):zaA u (.inr 1)=u:=by
 rcases zat u hu with rfl|⟨x,rfl,hx⟩
 ·exact zaB (by decide +kernel)
 ·rw[zaV,Rat.mul_one]
theorem zhy (t u v:Ext)(ht:hasE 2 t=true)(hu:hasE 2 u=true)(hv:hasE 2 v=true)(h:leE u v):leE (zaA t u) (zaA t v):=by
 by_cases zt:t = .inr 0
 ·subst zt;rw[zaT,zaT];exact zbQ _
 rcases zat v hv with rfl|⟨y,rfl,hy⟩
 ·rcases zat t ht with rfl|⟨z,rfl,hz⟩
  ·rw[zbf];exact zbN _
  ·rw[zaE (fun h=>zt (congrArg _ h))];exact zbN _
 rcases zat u hu with rfl|⟨x,rfl,hx⟩
 ·exact absurd h (zbw _)
 have k:=(zbi _ _).1 h;rcases zat t ht with rfl|⟨z,rfl,hz⟩
 ·by_cases zx:x=0
  ·subst zx
   rw[zay]
   by_cases zy:y=0
   ·subst zy;rw[zay];exact zbQ _
   ·rw[zaB zy];exact zbN _
  ·have zy:y≠0:=fun e=>zx (Rat.le_antisymm (e ▸ k) hx)
   rw[zaB zx,zaB zy];exact zbQ _
 ·rw[zaV,zaV]
  exact(zbi _ _).2 (Rat.mul_le_mul_of_nonneg_left k hz)
theorem zzt (t u v:Ext)(ht:hasE 2 t=true)(hu:hasE 2 u=true)(hv:hasE 2 v=true):zaA t (zbz u v)=zbz (zaA t u) (zaA t v):=by
 rcases zeQ u v with h|h
 ·rw[zfi h,zfi (zhy t u v ht hu hv h)]
 ·rw[zeS h,zeS (zhy t v u ht hv hu h)]
theorem zbp (x y:Rat):sumE (.inr x) (.inr y) = .inr (x+y):=rfl
theorem zbg (u:Ext):sumE (.inl true) u = .inl true:=by rcases u with(_|_)|x <;> rfl
theorem zaU (u:Ext):sumE u (.inl true) = .inl true:=by rcases u with(_|_)|x <;> rfl
theorem zCC (u v:Ext)(hu:hasE 2 u=true)(hv:hasE 2 v=true):sumE u v=sumE v u:=by
 rcases zat u hu with rfl|⟨x,rfl,hx⟩ <;> rcases zat v hv with rfl|⟨y,rfl,hy⟩
 ·rfl
 ·rfl
 ·rfl
 ·rw[zbp,zbp,Rat.add_comm]
theorem zzu (u v t:Ext)(hu:hasE 2 u=true)(hv:hasE 2 v=true)(ht:hasE 2 t=true):sumE (sumE u v) t=sumE u (sumE v t):=by
 rcases zat u hu with rfl|⟨x,rfl,hx⟩
 ·rw[zbg,zbg,zbg]
 rcases zat v hv with rfl|⟨y,rfl,hy⟩
 ·rw[zaU,zbg,zaU]
 rcases zat t ht with rfl|⟨z,rfl,hz⟩
 ·rw[zaU,zaU,zaU]
 rw[zbp,zbp,zbp,zbp,Rat.add_assoc]
theorem zCD (u:Ext)(hu:hasE 2 u=true):sumE u (.inr 0)=u:=by
 rcases zat u hu with rfl|⟨x,rfl,hx⟩
 ·rfl
 ·rw[zbp,Rat.add_zero]
theorem zFi {x y:Rat}(hx:0≤x)(hy:0≤y)(h:x+y=0):x=0∧y=0:=by
 have h1:x≤x+y:=by
  have:=(Rat.add_le_add_left (c:=x)).2 hy
  rwa [Rat.add_zero] at this
 have h2:y≤x+y:=by
  have:=(Rat.add_le_add_right (c:=y)).2 hx
  rwa [Rat.zero_add] at this
 rw[h] at h1 h2;exact⟨Rat.le_antisymm h1 hx,Rat.le_antisymm h2 hy⟩
theorem zCE (t u v:Ext)(ht:hasE 2 t=true)(hu:hasE 2 u=true)(hv:hasE 2 v=true):zaA t (sumE u v)=sumE (zaA t u) (zaA t v):=by
 rcases zat t ht with rfl|⟨z,rfl,hz⟩
 ·rcases zat u hu with rfl|⟨x,rfl,hx⟩
  ·rw[zbg,zbf,zbg]
  rcases zat v hv with rfl|⟨y,rfl,hy⟩
  ·rw[zaU,zbf,zaU]
  rw[zbp]
  by_cases zx:x=0
  ·subst zx
   rw[Rat.zero_add,zay]
   by_cases zy:y=0
   ·subst zy;rw[zay,zbp,Rat.zero_add]
   ·rw[zaB zy];rfl
  ·rw[zaB zx,zbg]
   exact zaB (fun h=>zx (zFi hx hy h).1)
 ·by_cases zz:z=0
  ·subst zz;rw[zaT,zaT,zaT,zbp,Rat.zero_add]
  rcases zat u hu with rfl|⟨x,rfl,hx⟩
  ·rw[zbg,zaE zz,zbg]
  rcases zat v hv with rfl|⟨y,rfl,hy⟩
  ·rw[zaU,zaE zz,zaU]
  rw[zbp,zaV,zaV,zaV,zbp,Rat.mul_add]
theorem zoA {x:Rat}(h:0≤x):hasE 2 (.inr x)=true:=by simp[hasE,h]
theorem zrZ {u v:Ext}(hu:hasE 2 u=true)(hv:hasE 2 v=true):hasE 2 (zaA u v)=true:=by
 by_cases zu:u = .inr 0
 ·subst zu;rw[zaT];exact hu
 by_cases zv:v = .inr 0
 ·subst zv;rw[zay];exact hv
 rcases zat u hu with rfl|⟨x,rfl,hx⟩ <;> rcases zat v hv with rfl|⟨y,rfl,hy⟩
 ·rw[zbf];rfl
 ·rw[zaB (fun h=>zv (congrArg _ h))];rfl
 ·rw[zaE (fun h=>zu (congrArg _ h))];rfl
 ·rw[zaV];exact zoA (Rat.mul_nonneg hx hy)
theorem zFj {u v:Ext}(hu:hasE 2 u=true)(hv:hasE 2 v=true):hasE 2 (sumE u v)=true:=by
 rcases zat u hu with rfl|⟨x,rfl,hx⟩
 ·rw[zbg];rfl
 rcases zat v hv with rfl|⟨y,rfl,hy⟩
 ·rw[zaU];rfl
 ·rw[zbp];exact zoA (Rat.add_nonneg hx hy)
abbrev zad (k:Int):Prop:=k=1∨k=2∨k=3
theorem zCF {k:Int}(hk:zad k){u v:Ext}(hu:hasE k u=true)(hv:hasE k v=true):hasE k (zcm k u v)=true:=by
 rcases hk with rfl|rfl|rfl
 ·exact zlh _
 ·exact zFj hu hv
 ·show hasE 3 (zbz u v)=true
  rcases zoz u v with h|h <;> rw[h] <;> assumption
theorem zzv {k:Int}(hk:zad k){u v:Ext}(hu:hasE k u=true)(hv:hasE k v=true):hasE k (zaX k u v)=true:=by
 rcases hk with rfl|rfl|rfl
 ·exact zlh _
 ·exact zrZ hu hv
 ·rw[← zcf] at *;exact zrZ hu hv
theorem zzw {k:Int}(hk:zad k):hasE k (zfP k)=true:=by rcases hk with rfl|rfl|rfl <;> decide +kernel
theorem zCG {k:Int}(hk:zad k):hasE k (zgd k)=true:=by rcases hk with rfl|rfl|rfl <;> decide +kernel
theorem zzx {k:Int}(hk:zad k){u v:Ext}(hu:hasE k u=true)(hv:hasE k v=true):zcm k u v=zcm k v u:=by
 rcases hk with rfl|rfl|rfl
 ·exact zzp u v
 ·exact zCC u v hu hv
 ·exact zzq u v
theorem zwI {k:Int}(hk:zad k){u v t:Ext}(hu:hasE k u=true)(hv:hasE k v=true)(ht:hasE k t=true):zcm k (zcm k u v) t=zcm k u (zcm k v t):=by
 rcases hk with rfl|rfl|rfl
 ·exact zwF u v t
 ·exact zzu u v t hu hv ht
 ·exact zwG u v t
theorem zfj {k:Int}(hk:zad k){u v:Ext}(hu:hasE k u=true)(hv:hasE k v=true):zaX k u v=zaX k v u:=by
 rcases hk with rfl|rfl|rfl
 ·exact zjV u v
 ·exact zjY u v hu hv
 ·rw[← zcf] at *;exact zjY u v hu hv
theorem zuk {k:Int}(hk:zad k){u v t:Ext}(hu:hasE k u=true)(hv:hasE k v=true)(ht:hasE k t=true):zaX k (zaX k u v) t=zaX k u (zaX k v t):=by
 rcases hk with rfl|rfl|rfl
 ·exact zwH u v t
 ·exact znj u v t hu hv ht
 ·rw[← zcf] at *;exact znj u v t hu hv ht
theorem zwJ {k:Int}(hk:zad k){u v t:Ext}(hu:hasE k u=true)(hv:hasE k v=true)(ht:hasE k t=true):zaX k u (zcm k v t)=zcm k (zaX k u v) (zaX k u t):=by
 rcases hk with rfl|rfl|rfl
 ·exact zzr u v t
 ·exact zCE u v t hu hv ht
 ·rw[← zcf] at *;exact zzt u v t hu hv ht
theorem zzy {k:Int}(hk:zad k){u:Ext}(hu:hasE k u=true):zcm k u (zfP k)=u:=by
 rcases hk with rfl|rfl|rfl
 ·exact zeR (zbN u)
 ·exact zCD u hu
 ·rw[← zcf] at hu
  refine zeS ?_;rcases zat u hu with rfl|⟨x,rfl,hx⟩
  ·exact zbN _
  ·exact(zbi _ _).2 hx
theorem zzz {k:Int}(hk:zad k){u:Ext}(hu:hasE k u=true):zaX k u (zgd k)=u:=by
 rcases hk with rfl|rfl|rfl
 ·exact zjW u
 ·exact ziM u hu
 ·rw[← zcf] at hu;exact ziM u hu
theorem zwK {k:Int}(hk:zad k)(u:Ext):zaX k u (zfP k)=zfP k:=by
 rcases hk with rfl|rfl|rfl
 ·show zbE u (.inl true) = .inl true
  rw[zjV,zCB]
 ·exact zay u
 ·exact zay u
theorem zul (k:Int)(u v:Ext):zbU k v u = -zbU k u v:=by
 unfold zbU
 split
 ·exact zdR u v
 ·exact zdR v u
theorem zlG (k:Int)(u v:Ext):zbU k u v=0↔u=v:=by
 unfold zbU
 split
 ·exact zeP u v
 ·exact(zeP v u).trans ⟨Eq.symm,Eq.symm⟩
theorem zsa (k:Int)(u v t:Ext)(h:zbU k u v≤0)(j:zbU k v t≤0):zbU k u t≤0:=by
 by_cases hk:k=1
 ·subst hk;exact ziL u v t h j
 ·have e:∀ a b,zbU k a b=cmpE b a:=fun a b=>if_neg hk
  rw[e] at *;exact ziL t v u j h
theorem zsb {k:Int}(hk:zad k){u v t:Ext}(hu:hasE k u=true)(hv:hasE k v=true)(ht:hasE k t=true)(h:zbU k u v≤0):zbU k (zaX k u t) (zaX k v t)≤0:=by
 rw[zfj hk hu ht,zfj hk hv ht];rcases hk with rfl|rfl|rfl
 ·exact zjX t u v h
 ·exact zhy t v u ht hv hu h
 ·rw[← zcf] at *;exact zhy t v u ht hv hu h
theorem zCH {x:Rat}(h:x<1):1 / (1 - x)=1+x * (1 / (1 - x)):=by
 have hne:(1 - x)≠0:=fun k=>zvt h (by rw[k];rfl);have e:1 / (1 - x) * (1 - x)=1:=Rat.div_mul_cancel hne;generalize 1 / (1 - x)=s at *;rw[Rat.sub_eq_add_neg,Rat.mul_add,Rat.mul_one,Rat.mul_neg] at e;have e2:s + -(s * x)+s * x=1+s * x:=by rw[e]
 rw[Rat.add_assoc,Rat.neg_add_cancel,Rat.add_zero] at e2;rw[Rat.mul_comm x s];exact e2
theorem zlH {x:Rat}(h:x<1):0≤1 / (1 - x):=by
 have h1:0<1 - x:=(Rat.lt_iff_sub_pos x 1).1 h;rw[Rat.div_def,Rat.one_mul];exact Rat.le_of_lt (Rat.inv_pos.2 h1)
theorem zCI {k:Int}(hk:zad k)(u:Ext)(hu:hasE k u=true):hasE k (zcK k u)=true:=by
 rcases hk with rfl|rfl|rfl
 ·exact zlh _
 ·rcases zat u hu with rfl|⟨x,rfl,hx⟩
  ·rfl
  ·show hasE 2 (if x<1 then .inr (1 / (1 - x)) else .inl true)=true
   by_cases h:x<1
   ·rw[if_pos h];exact zoA (zlH h)
   ·rw[if_neg h];rfl
 ·show hasE 3 (if 0<cmpE u (.inr 1) then .inl true else .inr 1)=true
  split <;> decide +kernel
theorem star_law {k:Int}(hk:zad k)(u:Ext)(hu:hasE k u=true):zcm k (zgd k) (zaX k u (zcK k u))=zcK k u:=by
 rcases hk with rfl|rfl|rfl
 ·show zbD (.inr 0) (zbE u (if cmpE u (.inr 0)<0 then .inl false else .inr 0))=if cmpE u (.inr 0)<0 then .inl false else .inr 0
  by_cases h:cmpE u (.inr 0)<0
  ·rw[if_pos h]
   have:zbE u (.inl false) = .inl false:=by
    rcases u with(_|_)|x
    ·rfl
    ·exact absurd (show(1:Int)<0 from h) (by decide)
    ·rfl
   rw[this];exact zfh (zvu _)
  ·rw[if_neg h,zjW]
   refine zeR ?_;unfold leE;have:=zdR u (.inr 0)
   omega
 ·rcases zat u hu with rfl|⟨x,rfl,hx⟩
  ·show sumE (.inr 1) (zaA (.inl true) (.inl true)) = .inl true
   rw[zbf];rfl
  ·show sumE (.inr 1) (zaA (.inr x) (if x<1 then .inr (1 / (1 - x)) else .inl true))=if x<1 then .inr (1 / (1 - x)) else .inl true
   by_cases h:x<1
   ·rw[if_pos h,zaV,zbp,← zCH h]
   ·rw[if_neg h,zaE (fun e=>by subst e;exact h (by decide +kernel)),zaU]
 ·rw[← zcf] at hu
  show zbz (.inr 1) (zaA u (if 0<cmpE u (.inr 1) then .inl true else .inr 1))=if 0<cmpE u (.inr 1) then .inl true else .inr 1
  by_cases h:0<cmpE u (.inr 1)
  ·rw[if_pos h]
   have:zaA u (.inl true) = .inl true:=by
    rcases zat u hu with rfl|⟨x,rfl,hx⟩
    ·exact zbf
    ·exact zaE (fun e=>by subst e;revert h;decide +kernel)
   rw[this];exact zfi (zbN _)
  ·rw[if_neg h,ziM u hu]
   exact zeS (by unfold leE;omega)
def zaz (n:Nat):Ext→Prop
 | .inr x=>Wide n x
 | _=>True
def Fits:Ext→Prop
 | .inr x=>zbd x
 | _=>True
def extT:Ext→ByteArray
 | .inl true=>infS
 | .inl false=>lowS
 | .inr x=>ratS x
theorem zvw {v:Ext}(h:Fits v):IsE (extT v) v:=by
 rcases v with(_|_)|x
 ·rfl
 ·rfl
 ·exact⟨h,rfl⟩
theorem zjZ {v:Ext}(h:Fits v):extV v = .tuple #[.string (extT v),.int .i64 0]:=zfC (zvw h)
theorem IsE.text {a:ByteArray}{v:Ext}(h:IsE a v):a=extT v:=by
 rcases v with(_|_)|x
 ·exact h
 ·exact h
 ·exact h.eq
theorem zaz.mono {m n:Nat}{v:Ext}(h:zaz m v)(k:m≤n):zaz n v:=by
 rcases v with(_|_)|x
 ·trivial
 ·trivial
 ·exact Wide.mono h k
theorem zaz.fits {n:Nat}{v:Ext}(h:zaz n v)(k:n≤400):Fits v:=by
 rcases v with(_|_)|x
 ·trivial
 ·trivial
 ·exact Wide.mono h k
theorem zgv:zaz 1 (.inr 0):=zzo
theorem zpP:zaz 1 (.inr 1):=zCA
theorem zwL {m n:Nat}{u v:Ext}(hm:1≤m)(hu:zaz m u)(hv:zaz n v):zaz (m+n) (zaA u v):=by
 unfold zaA
 split
 ·exact zgv.mono (by omega)
 ·rcases u with(_|_)|x <;> rcases v with(_|_)|y
  all_goals first|exact zCy hu hv|trivial
theorem zdD (k:Int){m n:Nat}{u v:Ext}(hm:1≤m)(hu:zaz m u)(hv:zaz n v):zaz (m+n+1) (zaX k u v):=by
 unfold zaX
 split
 ·rcases u with(_|_)|x <;> rcases v with(_|_)|y
  all_goals first|exact zCz hu hv|trivial
 ·exact(zwL hm hu hv).mono (by omega)
theorem zcW (k:Int):zaz 1 (zfP k):=by unfold zfP;split;trivial;exact zgv
theorem zgw (k:Int):zaz 1 (zgd k):=by unfold zgd;split;exact zgv;exact zpP
end Go.Proofs.YtaogepcaoogpgaaGreatDoor
