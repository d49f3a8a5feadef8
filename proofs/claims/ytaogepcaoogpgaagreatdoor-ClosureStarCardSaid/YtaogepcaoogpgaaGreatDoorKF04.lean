/- Part. -/
import Derived.Test.YtaogepcaoogpgaaGreatDoorKF03
set_option linter.unusedVariables false
set_option linter.unusedSimpArgs false
set_option maxRecDepth 100000
set_option maxHeartbeats 16000000
namespace Go.Proofs.YtaogepcaoogpgaaGreatDoor
open Go.RowKit
open Go.Lib (nDigits decDigits)
def Fun (w:World)(g F:Nat):Prop:=w.heap[g]?=some (.cells #[.func (.func F) #[] #[]] 147 (0,0))
theorem Fun.grown {w w':World}{g F:Nat}(h:Fun w g F)(hg:w.grownBy w' none):Fun w' g F:=(hg.block _ (lt_of_block h) (by simp)).trans h
theorem zIQ (F g0 g1 g2:Nat)(b1 b2:Bool)(A B C D S:ByteArray)(N:Value)(w:World)(hE:Enters F)(h0:Fun w g0 F)(h1:Num w g1 b1 A B)(h2:Num w g2 b2 C D)
  (M:Hid (∀ w,Calls Tryz.prog F #[.agg #[.bool b1,.string A,.string B],.agg #[.bool b2,.string C,.string D]] w (zab N w)))
  (X:Hid (∀ w,Calls Tryz.prog 199 #[N] w (zab (.string S) w))) :
  Calls Tryz.prog 198 #[.pointer (some ⟨g0,0,none⟩),.pointer (some ⟨g1,0,none⟩),.pointer (some ⟨g2,0,none⟩)] w (zab (.string S) w):=by
 have c0:=cell_of_one h0;obtain⟨x0,x1,x2,_⟩:=h1.cells;obtain⟨y0,y1,y2,_⟩:=h2.cells;have HE:=zHd hE;clear h0 h1 h2 hE;go_enter Tryz.func198,Tryz.ntmps198;go_wp2_with fail;rw[HE.out];refine(M.out _).mono ?_;rintro e w1 ⟨rfl,hg⟩;have G1:=zHd hg;clear hg;go_wp2_with fail;refine(X.out _).mono ?_;rintro e w2 ⟨rfl,hg⟩;have G2:=zHd (zaa G1.out hg);clear hg;go_wp2;go_ret;exact⟨rfl,G2.out⟩
theorem zFJ (F g0 g1 g2:Nat)(b1 b2:Bool)(A B C D:ByteArray)(N:Value)(w:World)(hE:Enters F)(h0:Fun w g0 F)(h1:Num w g1 b1 A B)(h2:Num w g2 b2 C D)
  (M:Hid (∀ w,Calls Tryz.prog F #[.agg #[.bool b1,.string A,.string B],.agg #[.bool b2,.string C,.string D]] w (zab N w)))
  (X:Hid (∀ w,Calls Tryz.prog 199 #[N] w (zfG 2 w))) :
  Calls Tryz.prog 198 #[.pointer (some ⟨g0,0,none⟩),.pointer (some ⟨g1,0,none⟩),.pointer (some ⟨g2,0,none⟩)] w (zfG 2 w):=by
 have c0:=cell_of_one h0;obtain⟨x0,x1,x2,_⟩:=h1.cells;obtain⟨y0,y1,y2,_⟩:=h2.cells;have HE:=zHd hE;clear h0 h1 h2 hE;go_enter Tryz.func198,Tryz.ntmps198;go_wp2_with fail;rw[HE.out];refine(M.out _).mono ?_;rintro e w1 ⟨rfl,hg⟩;have G1:=zHd hg;clear hg;go_wp2_with fail;refine(X.out _).mono ?_;rintro e w2 ⟨rfl,hg⟩;exact⟨rfl,rfl,zaa G1.out hg⟩
theorem zpA:Enters 198:=enters_of Tryz.func198 (by kernel_rfl) rfl
def zKT (F:Nat)(b1 b2:Bool)(A B C D S:ByteArray)(E:Int):Prop:=∀ (g0 g1 g2:Nat) (w:World),Fun w g0 F->Num w g1 b1 A B->Num w g2 b2 C D ->
  Calls Tryz.prog 197 #[.func (.func 198) #[] #[.pointer (some ⟨g0,0,none⟩),.pointer (some ⟨g1,0,none⟩),.pointer (some ⟨g2,0,none⟩)]] w (zab (.tuple #[.string S,.int .i64 E]) w)
theorem zpB (F:Nat)(a b:ByteArray)(b1 b2:Bool)(A B C D S:ByteArray)(E:Int)(w:World)
  (R1:Hid (∀ w,Calls Tryz.prog 152 #[.string a] w (zab (.tuple #[.agg #[.bool b1,.string A,.string B],.bool true]) w)))
  (R2:Hid (∀ w,Calls Tryz.prog 152 #[.string b] w (zab (.tuple #[.agg #[.bool b2,.string C,.string D],.bool true]) w)))
  (K:Hid (zKT F b1 b2 A B C D S E)) :
  Calls Tryz.prog 159 #[.string a,.string b,.func (.func F) #[] #[]] w (zab (.tuple #[.string S,.int .i64 E]) w):=by
 have hmf := @zMF Tryz.prog;go_enter Tryz.func159,Tryz.ntmps159;go_wp2_with fail;refine(R1.out _).mono ?_;rintro e w1 ⟨rfl,hg⟩;have hb:=alloc_old hg;have F1:=zHd (show Fun w1 w.heap.size F from hb);have G1:=zHd (zaa (zGA _ _ none) hg);clear hg hb;go_wp2_with fail;refine(R2.out _).mono ?_;rintro e w2 ⟨rfl,hg⟩;have hb:=alloc_old hg;have N1:=zHd (show Num w2 w1.heap.size b1 A B from hb);have hgg:=zaa (zGA _ _ none) hg;have F2:=zHd (F1.out.grown hgg);have G2:=zHd (zaa G1.out hgg);clear hg hb hgg F1 G1;go_wp2_with fail;refine(K.out _ _ _ _ (F2.out.grown (zGA _ _ none)) (N1.out.grown (zGA _ _ none)) (zaE _ _)).mono ?_;rintro e w3 ⟨rfl,hg⟩;have G3:=zHd (zaa G2.out (zaa (zGA _ _ none) hg));clear hg;go_wp2;go_ret2;exact⟨rfl,G3.out⟩
def zpC (F:Nat)(x y r:Rat):Prop:=∀ w,Calls Tryz.prog F #[zdH x,zdH y] w (zab (zdH r) w)
theorem zgc {F:Nat}{a b:ByteArray}{x y r:Rat}(hE:Enters F)(ha:zaw a x)(hb:zaw b y)(M:zpC F x y r)(w:World) :
  Calls Tryz.prog 159 #[.string a,.string b,.func (.func F) #[] #[]] w (zab (zcN r) w):=by
 have r1:=fun w=>zkN ha w (ziG ha);have r2:=fun w=>zkN hb w (ziG hb)
 by_cases h:zbp r
 ·rw[ziE h]
  refine zpB F a b _ _ _ _ _ _ _ _ w (zHd r1) (zHd r2) (zHd fun g0 g1 g2 w f n1 n2=>?_);have k:=zGA w (.cells #[.int .i64 0] 24) none;exact zpr _ zpA #[] _ _ w (zIQ F g0 g1 g2 _ _ _ _ _ _ _ _ _ hE (f.grown k) (n1.grown k) (n2.grown k) (zHd M) (zHd fun w=>zxZ r w h))
 ·rw[zgs h]
  refine zpB F a b _ _ _ _ _ _ _ _ w (zHd r1) (zHd r2) (zHd fun g0 g1 g2 w f n1 n2=>?_);have k:=zGA w (.cells #[.int .i64 0] 24) none;exact zps _ zpA #[] _ _ w (zFJ F g0 g1 g2 _ _ _ _ _ _ _ _ hE (f.grown k) (n1.grown k) (n2.grown k) (zHd M) (zHd fun w=>zuv r w h))
def zea (a:ByteArray):Prop:=∀ x,¬ zaw a x
theorem zKg (a:ByteArray):(∃ x,zaw a x)∨zea a:=by
 by_cases h:∃ x,zaw a x
 ·exact .inl h
 ·exact .inr fun x k=>h ⟨x,k⟩
theorem zpD (a:ByteArray)(ha:a.size<=maxLen):∃ b A B k,(∀ w,Calls Tryz.prog 152 #[.string a] w (zab (.tuple #[.agg #[.bool b,.string A,.string B],.bool k]) w))/\(zea a->k=false):=by
 rcases zKg a with⟨x,h⟩|h
 ·exact⟨_,_,_,true,fun w=>zkN h w ha,fun n=>absurd h (n x)⟩
 ·exact⟨_,_,_,false,fun w=>zya h w ha,fun _=>rfl⟩
open Go.RowKit
open Go.Lib (nDigits decDigits)
theorem zbS {x y:Nat}(hx:nDigits x<=400)(hy:nDigits y<=400):nDigits (x*y)<=800:=by have:=znQ x y;omega
theorem zfM (m n:Nat)(hm:nDigits m<=400)(hn:nDigits n<=400):zbR (zah m) (zah n):=fun w=>by
 have:=zbS hm hn;unfold zcW;rw[zaO,zaO];exact zBS m n w (by omega) (by omega) (by omega)
theorem zca (m n:Nat):zcW (zah m) (zah n)=zah (m*n):=by unfold zcW;rw[zaO,zaO]
theorem zgT (neg:Bool)(n d:Nat)(hd:d≠0)(hn:nDigits n<=1000)(hdd:nDigits d<=1000){r:Rat}(hr:mkRat (sg neg n) d=r) :
  Hid (∀ w,Calls Tryz.prog 200 #[.bool neg,.string (zah n),.string (zah d)] w (zab (zdH r) w)) :=
 zHd fun w=>by rw[<- hr];exact zpt neg n d w hd hn hdd
theorem zfN (x y:Rat):x.den*y.den≠0:=Nat.mul_ne_zero x.den_nz y.den_nz
theorem ztE (x y:Rat)(hx:zbp x)(hy:zbp y):zpC 161 x y (x*y):=fun w=>by
 have d1:=zbS hx.1 hy.1;have d2:=zbS hx.2 hy.2;have R:=zgT (sgn x != sgn y) _ _ (zfN x y) (by omega) (by omega) (zlX x y);rw[<- zca,<- zca] at R;exact zlZ _ _ _ _ _ _ _ _ _ w (zfM _ _ hx.1 hy.1) (zfM _ _ hx.2 hy.2) R
theorem zwV (x y:Rat)(hx:zbp x)(hy:zbp y)(h:y.num≠0)(w:World) :
  Calls Tryz.prog 161 #[zdH x,.agg #[.bool (sgn y),.string (zah y.den),.string (zah y.num.natAbs)]] w (zab (zdH (x/y)) w):=by
 have d1:=zbS hx.1 hy.2;have d2:=zbS hx.2 hy.1;have R:=zgT (sgn x != sgn y) _ _ (Nat.mul_ne_zero x.den_nz (show y.num.natAbs≠0 by omega)) (by omega) (by omega) (zsw x y h);rw[<- zca,<- zca] at R;exact zlZ _ _ _ _ _ _ _ _ _ w (zfM _ _ hx.1 hy.2) (zfM _ _ hx.2 hy.1) R
theorem zsy (x y:Rat)(hx:zbp x)(hy:zbp y):zpC 192 x y (x+y):=fun w=>by
 have d1:=zbS hx.1 hy.2;have d2:=zbS hy.1 hx.2;have d3:=zbS hx.2 hy.2;have t1:=zfM _ _ hx.1 hy.2;have t2:=zfM _ _ hy.1 hx.2;have t3:=zfM _ _ hx.2 hy.2
 by_cases hs:sgn x=sgn y
 ·have d4:=zhG _ _ _ d1 d2
  have R:=zgT (sgn x) (x.num.natAbs*y.den+y.num.natAbs*x.den) _ (zfN x y) (by omega) (by omega) (zgy x y _ (by rw[<- hs,zyb]));have ad:=fun w=>zII (zah (x.num.natAbs*y.den)) (zah (y.num.natAbs*x.den)) w (zaR _ (by omega)) (zaR _ (by omega));rw[zur _ _ (zah (x.num.natAbs*y.den+y.num.natAbs*x.den)) (zaX _ (by omega)) (zaX _ (by omega)) (zaX _ (by omega)) (by rw[zaO,zaO,zaO])] at ad;rw[<- zca x.den] at R;rw[<- zca x.num.natAbs y.den,<- zca y.num.natAbs x.den] at ad;have:=zFG (sgn x) _ _ _ _ _ _ _ _ w t1 t2 t3 (zHd ad) R;unfold zdH;rw[show decide (y.num<0)=sgn x from hs.symm];exact this
 ·by_cases hl:x.num.natAbs*y.den<y.num.natAbs*x.den
  ·have d4:=zbA (Nat.sub_le (y.num.natAbs*x.den) (x.num.natAbs*y.den))
   have R:=zgT (sgn y) (y.num.natAbs*x.den-x.num.natAbs*y.den) _ (zfN x y) (by omega) (by omega) (zgy x y _ (by rw[zyc _ _ _ _ hs hl]));have cm:=fun w=>zno (zah (x.num.natAbs*y.den)) (zah (y.num.natAbs*x.den)) w (zaR _ (by omega)) (zaR _ (by omega));have su:=fun w=>zxW (zah (y.num.natAbs*x.den)) (zah (x.num.natAbs*y.den)) w (zaR _ (by omega)) (zaR _ (by omega));rw[znu _ _ (by omega) (by omega) (by omega)] at su;obtain⟨c,hc,hc0⟩:∃ c:Int,zeu (zah (x.num.natAbs*y.den)) (zah (y.num.natAbs*x.den))=c/\c<0:=⟨_,rfl,by rw[znt _ _ (by omega) (by omega)];exact(zeZ _ _).2 hl⟩;rw[hc] at cm;rw[<- zca x.den] at R;rw[<- zca x.num.natAbs y.den,<- zca y.num.natAbs x.den] at su cm;exact zFH _ _ _ _ _ _ _ _ _ _ c w hs hc0 t1 t2 t3 (zHd cm) (zHd su) R
  ·have d4:=zbA (Nat.sub_le (x.num.natAbs*y.den) (y.num.natAbs*x.den))
   have R:=zgT (sgn x) (x.num.natAbs*y.den-y.num.natAbs*x.den) _ (zfN x y) (by omega) (by omega) (zgy x y _ (by rw[zyd _ _ _ _ hs hl]));have cm:=fun w=>zno (zah (x.num.natAbs*y.den)) (zah (y.num.natAbs*x.den)) w (zaR _ (by omega)) (zaR _ (by omega));have su:=fun w=>zxW (zah (x.num.natAbs*y.den)) (zah (y.num.natAbs*x.den)) w (zaR _ (by omega)) (zaR _ (by omega));rw[znu _ _ (by omega) (by omega) (by omega)] at su;obtain⟨c,hc,hc0⟩:∃ c:Int,zeu (zah (x.num.natAbs*y.den)) (zah (y.num.natAbs*x.den))=c/\¬ c<0:=⟨_,rfl,by rw[znt _ _ (by omega) (by omega),zeZ];exact hl⟩;rw[hc] at cm;rw[<- zca x.den] at R;rw[<- zca x.num.natAbs y.den,<- zca y.num.natAbs x.den] at su cm;exact zFI _ _ _ _ _ _ _ _ _ _ c w hs hc0 t1 t2 t3 (zHd cm) (zHd su) R
theorem zCh (b1 b2 b3 b:Bool)(A B C D C3 D3 S T:ByteArray)(w:World)
  (NG:Hid (∀ w,Calls Tryz.prog 194 #[.agg #[.bool b2,.string C,.string D]] w (zab (.agg #[.bool b3,.string C3,.string D3]) w)))
  (SM:Hid (∀ w,Calls Tryz.prog 192 #[.agg #[.bool b1,.string A,.string B],.agg #[.bool b3,.string C3,.string D3]] w (zab (.agg #[.bool b,.string S,.string T]) w))) :
  Calls Tryz.prog 193 #[.agg #[.bool b1,.string A,.string B],.agg #[.bool b2,.string C,.string D]] w (zab (.agg #[.bool b,.string S,.string T]) w):=by
 have h0:=zfJ w b1 b2 A B C D;obtain⟨W0,hW0⟩:∃ W0,W0=(((w.alloc (.cells #[.bool b1,.string A,.string B] 142)).alloc (.cells #[.bool b2,.string C,.string D] 142)).alloc (.cells #[.bool false,.string ⟨#[]⟩,.string ⟨#[]⟩] 142)):=⟨_,rfl⟩;rw[<- hW0] at h0;have H0:=zHd h0;have HW0:=zHd hW0;clear h0 hW0;go_enter Tryz.func193,Tryz.ntmps193;go_wp2_with fail;rw[<- HW0.out];have hs:=H0.out.drew.seen;unfold Seen at hs;have hh:=zHd H0.out.drew;clear HW0
 go_region_held3 (fun W'=>(W'.cell? ⟨w.heap.size,0,none⟩=some (.bool b1)/\W'.cell? ⟨w.heap.size,1,none⟩=some (.string A)/\W'.cell? ⟨w.heap.size,2,none⟩=some (.string B) /\
   W'.cell? ⟨w.heap.size+1,0,none⟩=some (.bool b2)/\W'.cell? ⟨w.heap.size+1,1,none⟩=some (.string C)/\W'.cell? ⟨w.heap.size+1,2,none⟩=some (.string D))/\Hid (zdt w W' b1 b2 A B C D))
  (first
   | exact⟨hs,hh⟩
   | assumption
   | exact s1
   | exact s3
   | exact zpw w b1 b2 A B C D _ _ _ s3
   | go_keep)
  (first
   | (go_at_call 194;refine(NG.out _).mono ?_;rintro e w5 ⟨rfl,hg5⟩;have s1:=zby w b1 b2 A B C D hg5 ‹_›)
   | (go_at_call 192;refine(SM.out _).mono ?_;rintro e w7 ⟨rfl,hg7⟩;have s3:=zby w b1 b2 A B C D hg7 ‹_›;obtain⟨zb,zS,zT,z0,z1,z2,z3,z4,z5⟩:=zhT w b1 b2 A B C D s3))
 have hend:=zeW (a:=.bool b) (b:=.string S) (c:=.string T) s3.2.out.g (show w.heap.size<=w.heap.size+1+1 by omega);have HE:=zHd hend;clear hend s3 s1 hs hh;go_wp2;exact zqby (v:=.agg #[.bool _,.string _,.string _]) (by simp[results,Tryz.results193,go_sem,z0,z1,z2,z3,z4,z5]) rfl ⟨rfl,HE.out⟩
theorem zCi (b1 b2 b:Bool)(A B C D S T:ByteArray)(w:World)(f1:(C.toList==[48])=false)
  (PR:Hid (∀ w,Calls Tryz.prog 161 #[.agg #[.bool b1,.string A,.string B],.agg #[.bool b2,.string D,.string C]] w (zab (.agg #[.bool b,.string S,.string T]) w))) :
  Calls Tryz.prog 160 #[.agg #[.bool b1,.string A,.string B],.agg #[.bool b2,.string C,.string D]] w (zab (.agg #[.bool b,.string S,.string T]) w):=by
 have h0:=zfJ w b1 b2 A B C D;have H0:=zHd h0;clear h0;go_enter Tryz.func160,Tryz.ntmps160;go_wp2_with fail;refine(PR.out _).mono ?_;rintro e w1 ⟨rfl,hg⟩;have k:=H0.out.next hg;obtain⟨zb,zS,zT,z0,z1,z2,z3,z4,z5⟩:=k.room;have hend:=zeW (a:=.bool b) (b:=.string S) (c:=.string T) k.g (show w.heap.size<=w.heap.size+1+1 by omega);have HE:=zHd hend;clear hend k hg H0;go_wp2;exact zqby (v:=.agg #[.bool _,.string _,.string _]) (by simp[results,Tryz.results160,go_sem,z0,z1,z2,z3,z4,z5]) rfl ⟨rfl,HE.out⟩
theorem zCj (x y:Rat)(hx:zbp x)(hy:zbp y):zpC 193 x y (x-y):=fun w=>by
 rw[Rat.sub_eq_add_neg];exact zCh _ _ _ _ _ _ _ _ _ _ _ _ w (zHd fun w=>zwR y w) (zHd fun w=>zsy x (-y) hx (zlY hy) w)
theorem zCk (x y:Rat)(hx:zbp x)(hy:zbp y)(h:y.num≠0):zpC 160 x y (x/y):=fun w =>
 zCi _ _ _ _ _ _ _ _ _ w (by rw[(zero_str' _).1];simpa using h) (zHd fun w=>zwV x y hx hy h w)
theorem zzo:Enters 192:=enters_of Tryz.func192 (by kernel_rfl) rfl
theorem zra:Enters 161:=enters_of Tryz.func161 (by kernel_rfl) rfl
theorem zzp:Enters 193:=enters_of Tryz.func193 (by kernel_rfl) rfl
theorem zzq:Enters 160:=enters_of Tryz.func160 (by kernel_rfl) rfl
theorem zFK (a b S:ByteArray)(E:Int)(w:World)(O:Hid (∀ w,Calls Tryz.prog 159 #[.string a,.string b,.func (.func 192) #[] #[]] w (zab (.tuple #[.string S,.int .i64 E]) w))) :
  Calls Tryz.prog 153 #[.string a,.string b] w (zab (.tuple #[.string S,.int .i64 E]) w):=by
 go_enter Tryz.func153,Tryz.ntmps153;go_wp2_with fail;refine(O.out _).mono ?_;rintro e w1 ⟨rfl,hg⟩;have G1:=zHd hg;clear hg;go_wp2;go_ret2;exact⟨rfl,G1.out⟩
theorem zyf {a b:ByteArray}{x y:Rat}(ha:zaw a x)(hb:zaw b y)(w:World) :
  Calls Tryz.prog 153 #[.string a,.string b] w (zab (zcN (x+y)) w):=by
 obtain⟨S,E,e⟩:=zbx (x+y);have O:=fun w=>zgc zzo ha hb (zsy x y ha.short hb.short) w;rw[e] at O ⊢;exact zFK a b S E w (zHd O)
theorem zFL (a b S:ByteArray)(E:Int)(w:World)(O:Hid (∀ w,Calls Tryz.prog 159 #[.string a,.string b,.func (.func 193) #[] #[]] w (zab (.tuple #[.string S,.int .i64 E]) w))) :
  Calls Tryz.prog 154 #[.string a,.string b] w (zab (.tuple #[.string S,.int .i64 E]) w):=by
 go_enter Tryz.func154,Tryz.ntmps154;go_wp2_with fail;refine(O.out _).mono ?_;rintro e w1 ⟨rfl,hg⟩;have G1:=zHd hg;clear hg;go_wp2;go_ret2;exact⟨rfl,G1.out⟩
theorem zIR {a b:ByteArray}{x y:Rat}(ha:zaw a x)(hb:zaw b y)(w:World) :
  Calls Tryz.prog 154 #[.string a,.string b] w (zab (zcN (x-y)) w):=by
 obtain⟨S,E,e⟩:=zbx (x-y);have O:=fun w=>zgc zzp ha hb (zCj x y ha.short hb.short) w;rw[e] at O ⊢;exact zFL a b S E w (zHd O)
theorem zFM (a b S:ByteArray)(E:Int)(w:World)(O:Hid (∀ w,Calls Tryz.prog 159 #[.string a,.string b,.func (.func 161) #[] #[]] w (zab (.tuple #[.string S,.int .i64 E]) w))) :
  Calls Tryz.prog 158 #[.string a,.string b] w (zab (.tuple #[.string S,.int .i64 E]) w):=by
 go_enter Tryz.func158,Tryz.ntmps158;go_wp2_with fail;refine(O.out _).mono ?_;rintro e w1 ⟨rfl,hg⟩;have G1:=zHd hg;clear hg;go_wp2;go_ret2;exact⟨rfl,G1.out⟩
theorem zIS {a b:ByteArray}{x y:Rat}(ha:zaw a x)(hb:zaw b y)(w:World) :
  Calls Tryz.prog 158 #[.string a,.string b] w (zab (zcN (x*y)) w):=by
 obtain⟨S,E,e⟩:=zbx (x*y);have O:=fun w=>zgc zra ha hb (ztE x y ha.short hb.short) w;rw[e] at O ⊢;exact zFM a b S E w (zHd O)
theorem zFN (a b S:ByteArray)(E:Int)(w:World)(O:Hid (∀ w,Calls Tryz.prog 159 #[.string a,.string b,.func (.func 160) #[] #[]] w (zab (.tuple #[.string S,.int .i64 E]) w))) :
  Calls Tryz.prog 120 #[.string a,.string b] w (zab (.tuple #[.string S,.int .i64 E]) w):=by
 go_enter Tryz.func120,Tryz.ntmps120;go_wp2_with fail;refine(O.out _).mono ?_;rintro e w1 ⟨rfl,hg⟩;have G1:=zHd hg;clear hg;go_wp2;go_ret2;exact⟨rfl,G1.out⟩
theorem zIT {a b:ByteArray}{x y:Rat}(ha:zaw a x)(hb:zaw b y)(h:y.num≠0)(w:World) :
  Calls Tryz.prog 120 #[.string a,.string b] w (zab (zcN (x/y)) w):=by
 obtain⟨S,E,e⟩:=zbx (x/y);have O:=fun w=>zgc zzq ha hb (zCk x y ha.short hb.short h) w;rw[e] at O ⊢;exact zFN a b S E w (zHd O)
open Go.RowKit
open Go.Lib (nDigits decDigits)
open Go.RowKit
open Go.Lib (nDigits decDigits)
def zgz (a:ByteArray)(b:Bool)(A B:ByteArray)(k:Bool):Prop:=∀ w,Calls Tryz.prog 152 #[.string a] w (zab (.tuple #[.agg #[.bool b,.string A,.string B],.bool k]) w)
theorem zpE (a:ByteArray)(b:Bool)(A B:ByteArray)(k:Bool)(w:World)(R:Hid (zgz a b A B k)) :
  Calls Tryz.prog 109 #[.string a] w (zab (.bool k) w):=by
 go_enter Tryz.func109,Tryz.ntmps109;go_wp2_with fail;refine(R.out _).mono ?_;rintro e w1 ⟨rfl,hg⟩;have G1:=zHd hg;clear hg;go_wp2;go_ret;exact⟨rfl,G1.out⟩
theorem zpF (a:ByteArray)(b:Bool)(A B:ByteArray)(k:Bool)(w:World)(R:Hid (zgz a b A B k)) :
  Calls Tryz.prog 157 #[.string a] w (zab (.tuple #[.bool b,.string A,.string B,.bool k]) w):=by
 go_enter Tryz.func157,Tryz.ntmps157;go_wp2_with fail;refine(R.out _).mono ?_;rintro e w1 ⟨rfl,hg⟩;have G1:=zHd hg;clear hg;go_wp2_with fail
 go_quiet (fail)
 go_wp2;exact zqby (v:=.tuple #[.bool _,.string _,.string _,.bool _]) (by simp[results,Tryz.results157,go_sem]) rfl ⟨rfl,zaa G1.out (zaa (zGA _ _ none) (zcc _ _ _))⟩
theorem zKh (a b:ByteArray)(b1 b2 k1 k2:Bool)(A B C D:ByteArray)(w:World)(hk:(k1&&k2)=false)(R1:Hid (zgz a b1 A B k1))(R2:Hid (zgz b b2 C D k2)) :
  Calls Tryz.prog 156 #[.string a,.string b] w (zab (.int .i64 0) w):=by
 cases k1 <;> cases k2 <;> simp only[Bool.and_self,Bool.and_true,Bool.true_and,Bool.true_eq_false] at hk
 all_goals
  go_enter Tryz.func156,Tryz.ntmps156;go_wp2_with fail;refine(R1.out _).mono ?_;rintro e w1 ⟨rfl,hg⟩;have G1:=zHd hg;clear hg;go_wp2_with fail;refine(R2.out _).mono ?_;rintro e w2 ⟨rfl,hg⟩;have G2:=zHd (zaa G1.out (zaa (zGA _ _ none) hg));clear hg;go_wp2;go_ret;exact⟨rfl,zaa G2.out (zGA _ _ none)⟩
theorem zIU (a b:ByteArray)(b1 b2:Bool)(A B C D:ByteArray)(c:Int)(w:World)(R1:Hid (zgz a b1 A B true))(R2:Hid (zgz b b2 C D true))
  (CP:Hid (∀ w,Calls Tryz.prog 196 #[.agg #[.bool b1,.string A,.string B],.agg #[.bool b2,.string C,.string D]] w (zab (.int .i64 c) w))) :
  Calls Tryz.prog 156 #[.string a,.string b] w (zab (.int .i64 c) w):=by
 go_enter Tryz.func156,Tryz.ntmps156;go_wp2_with fail;refine(R1.out _).mono ?_;rintro e w1 ⟨rfl,hg⟩;have G1:=zHd hg;clear hg;go_wp2_with fail;refine(R2.out _).mono ?_;rintro e w2 ⟨rfl,hg⟩;have hb:=alloc_old hg;have N1:=(show Num w2 w1.heap.size b1 A B from hb).grown (zGA w2 (.cells #[.bool b2,.string C,.string D] 142) none);obtain⟨x0,x1,x2,_⟩:=N1.cells;have G2:=zHd (zaa G1.out (zaa (zGA _ _ none) hg));clear hg hb N1;go_wp2_with fail;refine(CP.out _).mono ?_;rintro e w3 ⟨rfl,hg⟩;have G3:=zHd (zaa G2.out (zaa (zGA _ _ none) hg));clear hg x0 x1 x2;go_wp2;go_ret;exact⟨rfl,G3.out⟩
theorem zjx {a:ByteArray}{x:Rat}(h:zaw a x):zgz a (sgn x) (zah x.num.natAbs) (zah x.den) true:=fun w=>zkN h w (ziG h)
theorem zuC {a:ByteArray}(h:zea a)(ha:a.size<=maxLen):zgz a false ⟨#[]⟩ ⟨#[]⟩ false:=fun w=>zya h w ha
theorem zmc {a:ByteArray}{x:Rat}(h:zaw a x)(w:World):Calls Tryz.prog 109 #[.string a] w (zab (.bool true) w):=zpE a _ _ _ _ w (zHd (zjx h))
theorem zhH {a:ByteArray}(h:zea a)(ha:a.size<=maxLen)(w:World):Calls Tryz.prog 109 #[.string a] w (zab (.bool false) w):=zpE a _ _ _ _ w (zHd (zuC h ha))
def zCl (x:Rat):Value:=.tuple #[.bool (sgn x),.string (zah x.num.natAbs),.string (zah x.den),.bool true]
def zdV:Value:=.tuple #[.bool false,.string ⟨#[]⟩,.string ⟨#[]⟩,.bool false]
theorem zCm {a:ByteArray}{x:Rat}(h:zaw a x)(w:World):Calls Tryz.prog 157 #[.string a] w (zab (zCl x) w):=zpF a _ _ _ _ w (zHd (zjx h))
theorem zFO {a:ByteArray}(h:zea a)(ha:a.size<=maxLen)(w:World):Calls Tryz.prog 157 #[.string a] w (zab zdV w):=zpF a _ _ _ _ w (zHd (zuC h ha))
theorem zyg (m n:Nat)(hm:nDigits m<=1000)(hn:nDigits n<=1000):∀ w,Calls Tryz.prog 227 #[.string (zah m),.string (zah n)] w fun e w'=>e=.returned (.int .i64 (zbF m n))/\w.grownBy w' none:=fun w=>by
 have:=zno (zah m) (zah n) w (zaR m hm) (zaR n hn);rw[znt m n hm hn] at this;exact this
theorem zwW (x y:Rat)(hx:zbp x)(hy:zbp y)(w:World):Calls Tryz.prog 196 #[zdH x,zdH y] w (zab (.int .i64 (zcv x y)) w):=by
 have d1:=zbS hx.1 hy.2;have d2:=zbS hy.1 hx.2;have t1:=zfM _ _ hx.1 hy.2;have t2:=zfM _ _ hy.1 hx.2;unfold zdH;rw[show decide (x.num<0)=sgn x from rfl,show decide (y.num<0)=sgn y from rfl];cases h1:sgn x <;> cases h2:sgn y
 ·rw[zFE x y h1 h2]
  have cm:=zyg (x.num.natAbs*y.den) (y.num.natAbs*x.den) (by omega) (by omega);rw[<- zca x.num.natAbs y.den,<- zca y.num.natAbs x.den] at cm;exact zuy _ _ _ _ _ w t1 t2 (zHd cm)
 ·rw[zCc x y h1 h2];exact zma false true _ _ _ _ w (by decide)
 ·rw[zCb x y h1 h2];exact zma true false _ _ _ _ w (by decide)
 ·rw[zCd x y h1 h2]
  have cm:=zyg (y.num.natAbs*x.den) (x.num.natAbs*y.den) (by omega) (by omega);rw[<- zca x.num.natAbs y.den,<- zca y.num.natAbs x.den] at cm;exact ztD _ _ _ _ _ w t2 t1 (zHd cm)
theorem zpG {a b:ByteArray}{x y:Rat}(ha:zaw a x)(hb:zaw b y)(w:World):Calls Tryz.prog 156 #[.string a,.string b] w (zab (.int .i64 (zcv x y)) w) :=
 zIU a b _ _ _ _ _ _ _ w (zHd (zjx ha)) (zHd (zjx hb)) (zHd fun w=>zwW x y ha.short hb.short w)
theorem zhU {a b:ByteArray}(ha:a.size<=maxLen)(hb:b.size<=maxLen)(h:zea a∨zea b)(w:World):Calls Tryz.prog 156 #[.string a,.string b] w (zab (.int .i64 0) w):=by
 obtain⟨b1,A,B,k1,r1,n1⟩:=zpD a ha;obtain⟨b2,C,D,k2,r2,n2⟩:=zpD b hb;refine zKh a b _ _ k1 k2 _ _ _ _ w ?_ (zHd r1) (zHd r2);rcases h with h|h
 ·rw[n1 h];rfl
 ·rw[n2 h,Bool.and_false]
theorem zwX (s chars:List UInt8):(Lib.indexAny s chars = -1/\∀ x∈s,chars.contains x=false)∨(∃ (i:Nat) (c:UInt8),Lib.indexAny s chars=i/\s[i]?=some c/\chars.contains c=true):=by
 induction s with
 | nil=>exact .inl ⟨rfl,by simp⟩
 | cons b l ih =>
  by_cases h:chars.contains b=true
  ·exact .inr ⟨0,b,by rw[Lib.indexAny,if_pos h];rfl,rfl,h⟩
  ·rcases ih with⟨h1,h2⟩|⟨i,c,h1,h2,h3⟩
   ·refine .inl ⟨by rw[Lib.indexAny,if_neg h,h1];rfl,?_⟩
    intro x hx;rcases List.mem_cons.1 hx with rfl|hx
    ·simpa using h
    ·exact h2 x hx
   ·refine .inr ⟨i+1,c,?_,by simpa using h2,h3⟩
    rw[Lib.indexAny,if_neg h,h1,if_neg (fun e=>by have:=beq_iff_eq.1 e;omega)]
    push_cast
    rfl
theorem zuD (l:List UInt8)(i:Nat):(⟨l.toArray⟩:ByteArray).extract 0 i=⟨(l.take i).toArray⟩:=by
 apply ByteArray.ext;rw[ByteArray.data_extract];simp[List.extract_eq_take_drop]
theorem extract_drop (l:List UInt8)(i:Nat):(⟨l.toArray⟩:ByteArray).extract i (⟨l.toArray⟩:ByteArray).size=⟨(l.drop i).toArray⟩:=by
 apply ByteArray.ext;rw[ByteArray.data_extract];simp[List.extract_eq_take_drop,ByteArray.size];rw[zqaf (by simp)]
open Go.RowKit
open Go.Lib (nDigits decDigits)
open Go.RowKit
open Go.Lib (nDigits decDigits)
def zcX:ByteArray:=⟨#[105,110,102]⟩
def zgl:ByteArray:=⟨#[45,105,110,102]⟩
def zdu:ByteArray:=⟨#[48]⟩
def zjR:ByteArray:=⟨#[49]⟩
abbrev Ext:=Sum Bool Rat
def IsE (a:ByteArray):Ext->Prop
 | .inl true=>a=zcX
 | .inl false=>a=zgl
 | .inr x=>zaw a x
def zbI:Ext->Value
 | .inl true=>.tuple #[.string zcX,.int .i64 0]
 | .inl false=>.tuple #[.string zgl,.int .i64 0]
 | .inr x=>zcN x
theorem zgA {a:ByteArray}{v:Ext}(h:IsE a v):zbI v=.tuple #[.string a,.int .i64 0]:=by
 rcases v with(_|_)|x
 ·cases h;rfl
 ·cases h;rfl
 ·exact zhj h
theorem zrb:∀ x,¬ zaw zcX x:=fun x h=>by
 have h1:=(zlP h).n
 revert h1
 decide +kernel
theorem zrc:∀ x,¬ zaw zgl x:=fun x h=>by
 have h1:=(zlP h).n
 revert h1
 decide +kernel
theorem zyh:zgl≠zcX:=by decide +kernel
theorem IsE.uniq {a:ByteArray}{u v:Ext}(h:IsE a u)(k:IsE a v):u=v:=by
 rcases u with(_|_)|x <;> rcases v with(_|_)|y
 ·rfl
 ·exact absurd (h.symm.trans k) zyh
 ·cases h;exact absurd k (zrc y)
 ·exact absurd (k.symm.trans h) zyh
 ·rfl
 ·cases h;exact absurd k (zrb y)
 ·cases k;exact absurd h (zrc x)
 ·cases k;exact absurd h (zrb x)
 ·rw[zaw.uniq h k]
theorem IsE.same {a b:ByteArray}{v:Ext}(h:IsE a v)(k:IsE b v):a=b:=by
 rcases v with(_|_)|x
 ·exact h.trans k.symm
 ·exact h.trans k.symm
 ·exact h.eq.trans k.eq.symm
theorem IsE.len {a:ByteArray}{v:Ext}(h:IsE a v):a.size<=maxLen:=by
 rcases v with(_|_)|x
 ·cases h;decide
 ·cases h;decide
 ·exact ziG h
theorem znv:IsE zdu (.inr 0):=zkO
theorem zhp:IsE zjR (.inr 1):=⟨by decide +kernel,by decide +kernel⟩
theorem topE:IsE zcX (.inl true):=rfl
theorem lowE:IsE zgl (.inl false):=rfl
def zzr:Ext->Int
 | .inl true=>1
 | .inl false => -1
 | .inr _=>0
def cmpI (m n:Int):Int:=if m<n then -1 else if n<m then 1 else 0
def zbs:Ext->Ext->Int
 | .inr x,.inr y=>zcv x y
 | u,v=>cmpI (zzr u) (zzr v)
theorem zCn (x:Rat):zcv x x=0:=by unfold zcv;rw[if_neg (Rat.lt_irrefl),if_neg (Rat.lt_irrefl)]
theorem zfo (x y:Rat):zcv x y<0↔x<y:=by
 unfold zcv;split
 ·simp_all
 ·split <;> simp_all
theorem zmd (x y:Rat):zcv y x = -zcv x y:=by
 unfold zcv
 by_cases h:x<y
 ·rw[if_pos h,if_neg (Rat.not_lt.2 (Rat.le_of_lt h)),if_pos h];rfl
 ·by_cases k:y<x
  ·rw[if_pos k,if_neg h,if_pos k]
  ·rw[if_neg k,if_neg h,if_neg h,if_neg k];rfl
theorem zol (x y:Rat):0<zcv x y↔y<x:=by
 rw[<- zfo,zmd];omega
theorem zsz (x y:Rat):zcv x y=0↔x=y:=by
 constructor
 ·intro h
  have h1:¬ x<y:=fun k=>by have:=(zfo x y).2 k;omega
  have h2:¬ y<x:=fun k=>by have:=(zol x y).2 k;omega
  exact Rat.le_antisymm (Rat.not_lt.1 h2) (Rat.not_lt.1 h1)
 ·rintro rfl;exact zCn x
theorem znw (x y:Rat):zcv x y<=0↔x<=y:=by
 rw[<- Rat.not_lt,<- zol];omega
theorem zeH (u v:Ext):zbs v u = -zbs u v:=by
 rcases u with(_|_)|x <;> rcases v with(_|_)|y
 all_goals first|exact zmd x y|rfl
theorem zfp (u v:Ext):zbs u v=0↔u=v:=by
 rcases u with(_|_)|x <;> rcases v with(_|_)|y
 all_goals first
  | exact⟨fun h=>zqbz _ ((zsz x y).1 h),fun h=>(zsz x y).2 (Sum.inr.inj h)⟩
  | exact⟨fun h=>absurd (show(-1:Int)=0 from h) (by decide),fun h=>by cases h⟩
  | exact⟨fun h=>absurd (show(1:Int)=0 from h) (by decide),fun h=>by cases h⟩
  | exact⟨fun _=>rfl,fun _=>rfl⟩
theorem zkP (u v t:Ext)(h:zbs u v<=0)(k:zbs v t<=0):zbs u t<=0:=by
 rcases u with(_|_)|x <;> rcases v with(_|_)|y <;> rcases t with(_|_)|z
 all_goals first
  | exact(znw x z).2 (zqar ((znw x y).1 h) ((znw y z).1 k))
  | exact absurd (show(1:Int)<=0 from h) (by decide)
  | exact absurd (show(1:Int)<=0 from k) (by decide)
  | exact(show(-1:Int)<=0 by decide)
  | exact(show(0:Int)<=0 by decide)
def zgd (k:Int):Bool:=decide (k=1) || (decide (k=2) || decide (k=3))
def zap (k:Int):Ext->Bool
 | .inl true=>zgd k
 | .inl false=>decide (k=1)
 | .inr x=>decide (k=1) || ((decide (k=2) || decide (k=3))&&decide (0<=x))
def zgm (k:Int):Ext->Bool
 | .inl _=>false
 | .inr x=>decide (k=1) || ((decide (k=2) || decide (k=3))&&decide (0<x))
def zhI (k:Int):Ext:=if k=1 then .inl true else .inr 0
def zhV (k:Int):Ext:=if k=1 then .inr 0 else .inr 1
def zco (u v:Ext):Ext:=if zbs v u<0 then v else u
def zbN (u v:Ext):Ext:=if 0<zbs v u then v else u
def zci:Ext->Ext->Ext
 | .inr x,.inr y=>.inr (x+y)
 | .inl true,_=>.inl true
 | _,.inl true=>.inl true
 | _,_=>.inl false
def zde:Ext->Ext->Ext
 | .inr x,.inr y=>.inr (x+y)
 | _,_=>.inl true
def zaK (u v:Ext):Ext:=if u=.inr 0∨v=.inr 0 then .inr 0 else match u,v with
 | .inr x,.inr y=>.inr (x*y)
 | _,_=>.inl true
def zcP (k:Int)(u v:Ext):Ext:=if k=1 then zco u v else if k=2 then zde u v else zbN u v
def zbt (k:Int)(u v:Ext):Ext:=if k=1 then zci u v else zaK u v
def zdv (k:Int)(u:Ext):Ext :=
 if k=1 then (if zbs u (.inr 0)<0 then .inl false else .inr 0)
 else if k=2 then (match u with
  | .inr x=>if x<1 then .inr (1/(1-x)) else .inl true
  | _=>.inl true)
 else (if 0<zbs u (.inr 1) then .inl true else .inr 1)
def zbT (k:Int)(u v:Ext):Int:=if k=1 then zbs u v else zbs v u
structure Val (k:Int)(a:ByteArray)(v:Ext):Prop where
 e:IsE a v
 has:zap k v=true
structure Wgt (k:Int)(a:ByteArray)(v:Ext):Prop where
 e:IsE a v
 has:zgm k v=true
def zpH (k:Int)(a:ByteArray):Prop:=∀ v,IsE a v->zap k v=false
def zzs (k:Int)(a:ByteArray):Prop:=∀ v,IsE a v->zgm k v=false
theorem zCo (k:Int)(a:ByteArray):(∃ v,Val k a v)∨zpH k a:=by
 by_cases h:∃ v,Val k a v
 ·exact .inl h
 ·refine .inr fun v hv=>?_
  cases hk:zap k v
  ·rfl
  ·exact absurd ⟨v,hv,hk⟩ h
theorem zKi (k:Int)(a:ByteArray):(∃ v,Wgt k a v)∨zzs k a:=by
 by_cases h:∃ v,Wgt k a v
 ·exact .inl h
 ·refine .inr fun v hv=>?_
  cases hk:zgm k v
  ·rfl
  ·exact absurd ⟨v,hv,hk⟩ h
theorem zIV {k:Int}{v:Ext}(h:zgm k v=true):zap k v=true:=by
 rcases v with(_|_)|x
 ·cases h
 ·cases h
 ·unfold zgm at h;unfold zap
  simp only[Bool.or_eq_true,zqbb,zqca] at h ⊢;rcases h with h|⟨h1,h2⟩
  ·exact .inl h
  ·exact .inr ⟨h1,Rat.le_of_lt h2⟩
theorem Wgt.val {k:Int}{a:ByteArray}{v:Ext}(h:Wgt k a v):Val k a v:=⟨h.e,zIV h.has⟩
theorem zrd {k:Int}(h1:k≠1)(h2:k≠2)(h3:k≠3)(v:Ext):zap k v=false:=by
 rcases v with(_|_)|x <;> simp[zap,zgd,h1,h2,h3]
theorem Val.kind {k:Int}{a:ByteArray}{v:Ext}(h:Val k a v):k=1∨k=2∨k=3:=by
 by_cases h1:k=1
 ·exact .inl h1
 by_cases h2:k=2
 ·exact .inr (.inl h2)
 by_cases h3:k=3
 ·exact .inr (.inr h3)
 have:=zrd h1 h2 h3 v;rw[h.has] at this;cases this
theorem zcA (v:Ext):zap 2 v=zap 3 v:=by rcases v with(_|_)|x <;> rfl
theorem zyi (v:Ext):zgm 2 v=zgm 3 v:=by rcases v with(_|_)|x <;> rfl
theorem znx (v:Ext):zap 1 v=true:=by rcases v with(_|_)|x <;> rfl
theorem zaA (v:Ext)(h:zap 2 v=true):v=.inl true∨∃ x,v=.inr x/\0<=x:=by
 rcases v with(_|_)|x
 ·cases h
 ·exact .inl rfl
 ·refine .inr ⟨x,rfl,?_⟩
  simpa [zap] using h
open Go.RowKit
open Go.Lib (nDigits decDigits)
def zfq (n:Nat)(x:Rat):Prop:=nDigits x.num.natAbs<=n/\nDigits x.den<=n
theorem zfq.mono {m n:Nat}{x:Rat}(h:zfq m x)(k:m<=n):zfq n x:=⟨zqam h.1 k,zqam h.2 k⟩
theorem zFP (z:Int)(d:Nat)(hd:d≠0):(mkRat z d).num.natAbs<=z.natAbs/\(mkRat z d).den<=d:=by
 have e:sg (decide (z<0)) z.natAbs=z:=by
  unfold sg
  by_cases h:z<0
  ·rw[if_pos (by simpa using h)];omega
  ·rw[if_neg (by simpa using h)];omega
 have h1:=zpb (decide (z<0)) z.natAbs d hd;have h2:=zpc (decide (z<0)) z.natAbs d hd;rw[e] at h1 h2;rw[h1,h2];exact⟨Nat.div_le_self _ _,Nat.div_le_self _ _⟩
theorem zre (z:Int)(d n:Nat)(hd:d≠0)(h1:nDigits z.natAbs<=n)(h2:nDigits d<=n):zfq n (mkRat z d):=by
 obtain⟨k1,k2⟩:=zFP z d hd;exact⟨zqam (zbA k1) h1,zqam (zbA k2) h2⟩
theorem dig_mul' {x y m n:Nat}(hx:nDigits x<=m)(hy:nDigits y<=n):nDigits (x*y)<=m+n:=by have:=znQ x y;omega
theorem zCp (x y:Rat):x.den*y.den≠0:=Nat.mul_ne_zero x.den_nz y.den_nz
theorem zFQ {m n:Nat}{x y:Rat}(hx:zfq m x)(hy:zfq n y):zfq (m+n) (x*y):=by
 rw[<- zlX x y];refine zre _ _ _ (zCp x y) ?_ (dig_mul' hx.2 hy.2);rw[zkg];exact dig_mul' hx.1 hy.1
theorem zFR {m n:Nat}{x y:Rat}(hx:zfq m x)(hy:zfq n y):zfq (m+n+1) (x+y):=by
 rw[<- zgy x y _ rfl];refine zre _ _ _ (zCp x y) ?_ (Nat.le_succ_of_le (dig_mul' hx.2 hy.2));have d1:=dig_mul' hx.1 hy.2;have d2:nDigits (y.num.natAbs*x.den)<=m+n:=by have:=dig_mul' hy.1 hx.2;omega
 refine zqam (zbA ?_) (zhG _ _ _ d1 d2);have e1:=zkg (sgn x) (x.num.natAbs*y.den);have e2:=zkg (sgn y) (y.num.natAbs*x.den);omega
theorem zCq:zfq 1 (0:Rat):=by unfold zfq;decide +kernel
theorem zFS:zfq 1 (1:Rat):=by unfold zfq;decide +kernel
theorem zzt {x:Rat}:(1-x)=mkRat ((x.den:Int)-x.num) x.den:=by
 have e:=zgy 1 (-x) _ rfl;rw[Rat.sub_eq_add_neg,<- e]
 have h1:sg (sgn 1) ((1:Rat).num.natAbs*(-x).den)=(x.den:Int):=by
  rw[Rat.neg_den,show sgn 1=false by decide +kernel,show(1:Rat).num.natAbs=1 by decide +kernel];unfold sg;simp
 have h2:sg (sgn (-x)) ((-x).num.natAbs*(1:Rat).den) = -x.num:=by
  rw[show(1:Rat).den=1 by decide +kernel,Nat.mul_one,<- Rat.neg_num];exact zuh (-x)
 rw[h1,h2,show(1:Rat).den*(-x).den=x.den by rw[Rat.neg_den,show(1:Rat).den=1 by decide +kernel,Nat.one_mul],Int.sub_eq_add_neg]
theorem zpI {x:Rat}(h0:0<=x)(h1:x<=1)(h:zbp x):zbp (1-x):=by
 rw[zzt];have k0:=Rat.num_nonneg.2 h0
 have k1:x.num<=x.den:=by
  have:=(Rat.le_iff x 1).1 h1;rw[show(1:Rat).num=1 by decide +kernel,show(1:Rat).den=1 by decide +kernel] at this;omega
 refine zre _ _ 400 x.den_nz ?_ h.2;refine zqam (zbA ?_) h.2;omega
theorem zrf {x:Rat}(h:x<1):(1-x).num≠0:=fun k=>by
 rw[Rat.num_eq_zero] at k;have:=Rat.sub_add_cancel (a:=1) (b:=x);rw[k,Rat.zero_add] at this;rw[this] at h;exact Rat.lt_irrefl h
open Go.RowKit
open Go.Lib (nDigits decDigits)
def leE (u v:Ext):Prop:=zbs u v<=0
theorem zcH (u:Ext):leE u u:=by unfold leE;rw[(zfp u u).2 rfl];decide
theorem zeI {u v t:Ext}(h:leE u v)(k:leE v t):leE u t:=zkP u v t h k
theorem zgB (u v:Ext):leE u v∨leE v u:=by
 unfold leE;have:=zeH u v;omega
theorem zuE {u v:Ext}(h:leE u v)(k:leE v u):u=v:=by
 unfold leE at *;have:=zeH u v;exact(zfp u v).1 (by omega)
theorem zbH (x y:Rat):leE (.inr x) (.inr y)↔x<=y:=znw x y
theorem zcB (u:Ext):leE u (.inl true):=by
 rcases u with(_|_)|x
 ·exact(show(-1:Int)<=0 by decide)
 ·exact(show(0:Int)<=0 by decide)
 ·exact(show(-1:Int)<=0 by decide)
theorem zyj (u:Ext):leE (.inl false) u:=by
 rcases u with(_|_)|x
 ·exact(show(0:Int)<=0 by decide)
 ·exact(show(-1:Int)<=0 by decide)
 ·exact(show(-1:Int)<=0 by decide)
theorem zcd (x:Rat):¬ leE (.inl true) (.inr x):=fun h=>absurd (show(1:Int)<=0 from h) (by decide)
theorem zjS:¬ leE (.inl true) (.inl false):=fun h=>absurd (show(1:Int)<=0 from h) (by decide)
theorem zfY (x:Rat):¬ leE (.inr x) (.inl false):=fun h=>absurd (show(1:Int)<=0 from h) (by decide)
theorem zgC {u v:Ext}(h:leE u v):zco u v=u:=by
 unfold zco;unfold leE at h;have:=zeH u v;rw[if_neg (by omega)]
theorem zgU {u v:Ext}(h:leE v u):zco u v=v:=by
 unfold zco
 by_cases k:zbs v u<0
 ·rw[if_pos k]
 ·rw[if_neg k]
  unfold leE at h;exact((zfp v u).1 (by omega)).symm
theorem zgD {u v:Ext}(h:leE v u):zbN u v=u:=by
 unfold zbN;unfold leE at h;rw[if_neg (by omega)]
theorem zgV {u v:Ext}(h:leE u v):zbN u v=v:=by
 unfold zbN
 by_cases k:0<zbs v u
 ·rw[if_pos k]
 ·rw[if_neg k]
  unfold leE at h;have:=zeH u v;exact(zfp u v).1 (by omega)
theorem zhq (t u v:Ext):leE t (zco u v)↔leE t u/\leE t v:=by
 rcases zgB u v with h|h
 ·rw[zgC h];exact⟨fun k=>⟨k,zeI k h⟩,fun k=>k.1⟩
 ·rw[zgU h];exact⟨fun k=>⟨zeI k h,k⟩,fun k=>k.2⟩
theorem zhr (t u v:Ext):leE (zbN u v) t↔leE u t/\leE v t:=by
 rcases zgB u v with h|h
 ·rw[zgV h];exact⟨fun k=>⟨zeI h k,k⟩,fun k=>k.2⟩
 ·rw[zgD h];exact⟨fun k=>⟨k,zeI h k⟩,fun k=>k.1⟩
theorem zuF {u v:Ext}(h:∀ t,leE t u↔leE t v):u=v:=zuE ((h u).1 (zcH u)) ((h v).2 (zcH v))
theorem zuG {u v:Ext}(h:∀ t,leE u t↔leE v t):u=v:=zuE ((h v).2 (zcH v)) ((h u).1 (zcH u))
theorem zCr (u v:Ext):zco u v=zco v u:=zuF fun t=>by rw[zhq,zhq];exact and_comm
theorem zCs (u v:Ext):zbN u v=zbN v u:=zuG fun t=>by rw[zhr,zhr];exact and_comm
theorem zzu (u v t:Ext):zco (zco u v) t=zco u (zco v t):=zuF fun s=>by simp only[zhq,and_assoc]
theorem zzv (u v t:Ext):zbN (zbN u v) t=zbN u (zbN v t):=zuG fun s=>by simp only[zhr,and_assoc]
theorem zyk (u v:Ext):zco u v=u∨zco u v=v:=by rcases zgB u v with h|h;exact .inl (zgC h);exact .inr (zgU h)
theorem zrg (u v:Ext):zbN u v=u∨zbN u v=v:=by rcases zgB u v with h|h;exact .inr (zgV h);exact .inl (zgD h)
theorem zFT (u:Ext):zci (.inl true) u=.inl true:=by rcases u with(_|_)|x <;> rfl
theorem zme (u v:Ext):zci u v=zci v u:=by
 rcases u with(_|_)|x <;> rcases v with(_|_)|y
 all_goals first|exact zqbz Sum.inr (Rat.add_comm x y)|rfl
theorem zzw (u v t:Ext):zci (zci u v) t=zci u (zci v t):=by
 rcases u with(_|_)|x <;> rcases v with(_|_)|y <;> rcases t with(_|_)|z
 all_goals first|exact zqbz Sum.inr (Rat.add_assoc x y z)|rfl
theorem zmf (u:Ext):zci u (.inr 0)=u:=by
 rcases u with(_|_)|x
 ·rfl
 ·rfl
 ·exact zqbz Sum.inr (Rat.add_zero x)
theorem zmg (t u v:Ext)(h:leE u v):leE (zci t u) (zci t v):=by
 rcases t with(_|_)|z <;> rcases u with(_|_)|x <;> rcases v with(_|_)|y
 all_goals first
  | exact zcB _
  | exact zyj _
  | exact absurd h zjS
  | exact absurd h (zcd _)
  | exact absurd h (zfY _)
  | exact(zbH _ _).2 (Rat.add_le_add_left.2 ((zbH _ _).1 h))
theorem zCt (t u v:Ext):zci t (zco u v)=zco (zci t u) (zci t v):=by
 rcases zgB u v with h|h
 ·rw[zgC h,zgC (zmg t u v h)]
 ·rw[zgU h,zgU (zmg t v u h)]
theorem zbr (x y:Rat):zaK (.inr x) (.inr y)=.inr (x*y):=by
 unfold zaK
 by_cases hx:x=0
 ·subst hx;rw[if_pos (.inl rfl),Rat.zero_mul]
 by_cases hy:y=0
 ·subst hy;rw[if_pos (.inr rfl),Rat.mul_zero]
 rw[if_neg (fun h=>by rcases h with h|h;exact hx (Sum.inr.inj h);exact hy (Sum.inr.inj h))]
theorem zbo (u:Ext):zaK (.inr 0) u=.inr 0:=if_pos (.inl rfl)
theorem zaI (u:Ext):zaK u (.inr 0)=.inr 0:=if_pos (.inr rfl)
theorem zaP {x:Rat}(h:x≠0):zaK (.inl true) (.inr x)=.inl true:=by
 unfold zaK;rw[if_neg (fun k=>by rcases k with k|k;cases k;exact h (Sum.inr.inj k))]
theorem zaT {x:Rat}(h:x≠0):zaK (.inr x) (.inl true)=.inl true:=by
 unfold zaK;rw[if_neg (fun k=>by rcases k with k|k;exact h (Sum.inr.inj k);cases k)]
theorem zbC:zaK (.inl true) (.inl true)=.inl true:=by
 unfold zaK;rw[if_neg (fun k=>by rcases k with k|k <;> cases k)]
theorem zmh (u v:Ext)(hu:zap 2 u=true)(hv:zap 2 v=true):zaK u v=zaK v u:=by
 rcases zaA u hu with rfl|⟨x,rfl,hx⟩ <;> rcases zaA v hv with rfl|⟨y,rfl,hy⟩
 ·rfl
 ·by_cases h:y=0
  ·subst h;rw[zbo,zaI]
  ·rw[zaP h,zaT h]
 ·by_cases h:x=0
  ·subst h;rw[zbo,zaI]
  ·rw[zaP h,zaT h]
 ·rw[zbr,zbr,Rat.mul_comm]
theorem zCu {x y:Rat}(hx:x≠0)(hy:y≠0):x*y≠0:=fun h=>by rcases Rat.mul_eq_zero.1 h with h|h;exact hx h;exact hy h
theorem zpJ (u v t:Ext)(hu:zap 2 u=true)(hv:zap 2 v=true)(ht:zap 2 t=true):zaK (zaK u v) t=zaK u (zaK v t):=by
 by_cases zu:u=.inr 0
 ·subst zu;rw[zbo,zbo,zbo]
 by_cases zv:v=.inr 0
 ·subst zv;rw[zbo,zaI,zbo]
 by_cases zt:t=.inr 0
 ·subst zt;rw[zaI,zaI,zaI]
 rcases zaA u hu with rfl|⟨x,rfl,hx⟩ <;> rcases zaA v hv with rfl|⟨y,rfl,hy⟩ <;> rcases zaA t ht with rfl|⟨z,rfl,hz⟩
 ·rw[zbC]
 ·rw[zbC,zaP (fun h=>zt (zqbz _ h)),zbC]
 ·rw[zaP (fun h=>zv (zqbz _ h)),zaT (fun h=>zv (zqbz _ h))]
 ·rw[zaP (fun h=>zv (zqbz _ h)),zaP (fun h=>zt (zqbz _ h)),zbr,zaP (zCu (fun h=>zv (zqbz _ h)) (fun h=>zt (zqbz _ h)))]
 ·rw[zaT (fun h=>zu (zqbz _ h)),zbC,zaT (fun h=>zu (zqbz _ h))]
 ·rw[zaT (fun h=>zu (zqbz _ h)),zaP (fun h=>zt (zqbz _ h)),zaT (fun h=>zu (zqbz _ h))]
 ·rw[zbr,zaT (fun h=>zv (zqbz _ h)),zaT (fun h=>zu (zqbz _ h)),zaT (zCu (fun h=>zu (zqbz _ h)) (fun h=>zv (zqbz _ h)))]
 ·rw[zbr,zbr,zbr,zbr,Rat.mul_assoc]
theorem zkQ (u:Ext)(hu:zap 2 u=true):zaK u (.inr 1)=u:=by
 rcases zaA u hu with rfl|⟨x,rfl,hx⟩
 ·exact zaP (by decide +kernel)
 ·rw[zbr,Rat.mul_one]
theorem zjy (t u v:Ext)(ht:zap 2 t=true)(hu:zap 2 u=true)(hv:zap 2 v=true)(h:leE u v):leE (zaK t u) (zaK t v):=by
 by_cases zt:t=.inr 0
 ·subst zt;rw[zbo,zbo];exact zcH _
 rcases zaA v hv with rfl|⟨y,rfl,hy⟩
 ·rcases zaA t ht with rfl|⟨z,rfl,hz⟩
  ·rw[zbC];exact zcB _
  ·rw[zaT (fun h=>zt (zqbz _ h))];exact zcB _
 rcases zaA u hu with rfl|⟨x,rfl,hx⟩
 ·exact absurd h (zcd _)
 have k:=(zbH _ _).1 h;rcases zaA t ht with rfl|⟨z,rfl,hz⟩
 ·by_cases zx:x=0
  ·subst zx
   rw[zaI]
   by_cases zy:y=0
   ·subst zy;rw[zaI];exact zcH _
   ·rw[zaP zy];exact zcB _
  ·have zy:y≠0:=fun e=>zx (Rat.le_antisymm (e▸k) hx)
   rw[zaP zx,zaP zy];exact zcH _
 ·rw[zbr,zbr]
  exact(zbH _ _).2 (zqai k hz)
theorem zCv (t u v:Ext)(ht:zap 2 t=true)(hu:zap 2 u=true)(hv:zap 2 v=true):zaK t (zbN u v)=zbN (zaK t u) (zaK t v):=by
 rcases zgB u v with h|h
 ·rw[zgV h,zgV (zjy t u v ht hu hv h)]
 ·rw[zgD h,zgD (zjy t v u ht hv hu h)]
theorem zbU (x y:Rat):zde (.inr x) (.inr y)=.inr (x+y):=rfl
theorem zbD (u:Ext):zde (.inl true) u=.inl true:=by rcases u with(_|_)|x <;> rfl
theorem zbq (u:Ext):zde u (.inl true)=.inl true:=by rcases u with(_|_)|x <;> rfl
theorem zFU (u v:Ext)(hu:zap 2 u=true)(hv:zap 2 v=true):zde u v=zde v u:=by
 rcases zaA u hu with rfl|⟨x,rfl,hx⟩ <;> rcases zaA v hv with rfl|⟨y,rfl,hy⟩
 ·rfl
 ·rfl
 ·rfl
 ·rw[zbU,zbU,Rat.add_comm]
theorem zCw (u v t:Ext)(hu:zap 2 u=true)(hv:zap 2 v=true)(ht:zap 2 t=true):zde (zde u v) t=zde u (zde v t):=by
 rcases zaA u hu with rfl|⟨x,rfl,hx⟩
 ·rw[zbD,zbD,zbD]
 rcases zaA v hv with rfl|⟨y,rfl,hy⟩
 ·rw[zbq,zbD,zbq]
 rcases zaA t ht with rfl|⟨z,rfl,hz⟩
 ·rw[zbq,zbq,zbq]
 rw[zbU,zbU,zbU,zbU,Rat.add_assoc]
theorem zFV (u:Ext)(hu:zap 2 u=true):zde u (.inr 0)=u:=by
 rcases zaA u hu with rfl|⟨x,rfl,hx⟩
 ·rfl
 ·rw[zbU,Rat.add_zero]
theorem zIW {x y:Rat}(hx:0<=x)(hy:0<=y)(h:x+y=0):x=0/\y=0:=by
 have h1:x<=x+y:=by
  have:=(Rat.add_le_add_left (c:=x)).2 hy
  rwa [Rat.add_zero] at this
 have h2:y<=x+y:=by
  have:=(Rat.add_le_add_right (c:=y)).2 hx
  rwa [Rat.zero_add] at this
 rw[h] at h1 h2;exact⟨Rat.le_antisymm h1 hx,Rat.le_antisymm h2 hy⟩
theorem zFW (t u v:Ext)(ht:zap 2 t=true)(hu:zap 2 u=true)(hv:zap 2 v=true):zaK t (zde u v)=zde (zaK t u) (zaK t v):=by
 rcases zaA t ht with rfl|⟨z,rfl,hz⟩
 ·rcases zaA u hu with rfl|⟨x,rfl,hx⟩
  ·rw[zbD,zbC,zbD]
  rcases zaA v hv with rfl|⟨y,rfl,hy⟩
  ·rw[zbq,zbC,zbq]
  rw[zbU]
  by_cases zx:x=0
  ·subst zx
   rw[Rat.zero_add,zaI]
   by_cases zy:y=0
   ·subst zy;rw[zaI,zbU,Rat.zero_add]
   ·rw[zaP zy];rfl
  ·rw[zaP zx,zbD]
   exact zaP (fun h=>zx (zIW hx hy h).1)
 ·by_cases zz:z=0
  ·subst zz;rw[zbo,zbo,zbo,zbU,Rat.zero_add]
  rcases zaA u hu with rfl|⟨x,rfl,hx⟩
  ·rw[zbD,zaT zz,zbD]
  rcases zaA v hv with rfl|⟨y,rfl,hy⟩
  ·rw[zbq,zaT zz,zbq]
  rw[zbU,zbr,zbr,zbr,zbU,Rat.mul_add]
theorem zrh {x:Rat}(h:0<=x):zap 2 (.inr x)=true:=by simp[zap,h]
theorem zuH {u v:Ext}(hu:zap 2 u=true)(hv:zap 2 v=true):zap 2 (zaK u v)=true:=by
 by_cases zu:u=.inr 0
 ·subst zu;rw[zbo];exact hu
 by_cases zv:v=.inr 0
 ·subst zv;rw[zaI];exact hv
 rcases zaA u hu with rfl|⟨x,rfl,hx⟩ <;> rcases zaA v hv with rfl|⟨y,rfl,hy⟩
 ·rw[zbC];rfl
 ·rw[zaP (fun h=>zv (zqbz _ h))];rfl
 ·rw[zaT (fun h=>zu (zqbz _ h))];rfl
 ·rw[zbr];exact zrh (Rat.mul_nonneg hx hy)
theorem zIX {u v:Ext}(hu:zap 2 u=true)(hv:zap 2 v=true):zap 2 (zde u v)=true:=by
 rcases zaA u hu with rfl|⟨x,rfl,hx⟩
 ·rw[zbD];rfl
 rcases zaA v hv with rfl|⟨y,rfl,hy⟩
 ·rw[zbq];rfl
 ·rw[zbU];exact zrh (Rat.add_nonneg hx hy)
abbrev zad (k:Int):Prop:=k=1∨k=2∨k=3
theorem zFX {k:Int}(hk:zad k){u v:Ext}(hu:zap k u=true)(hv:zap k v=true):zap k (zcP k u v)=true:=by
 rcases hk with rfl|rfl|rfl
 ·exact znx _
 ·exact zIX hu hv
 ·show zap 3 (zbN u v)=true
  rcases zrg u v with h|h <;> rw[h] <;> assumption
theorem zCx {k:Int}(hk:zad k){u v:Ext}(hu:zap k u=true)(hv:zap k v=true):zap k (zbt k u v)=true:=by
 rcases hk with rfl|rfl|rfl
 ·exact znx _
 ·exact zuH hu hv
 ·rw[<- zcA] at *;exact zuH hu hv
theorem zCy {k:Int}(hk:zad k):zap k (zhI k)=true:=by rcases hk with rfl|rfl|rfl <;> decide +kernel
theorem zFY {k:Int}(hk:zad k):zap k (zhV k)=true:=by rcases hk with rfl|rfl|rfl <;> decide +kernel
theorem zCz {k:Int}(hk:zad k){u v:Ext}(hu:zap k u=true)(hv:zap k v=true):zcP k u v=zcP k v u:=by
 rcases hk with rfl|rfl|rfl
 ·exact zCr u v
 ·exact zFU u v hu hv
 ·exact zCs u v
theorem zzx {k:Int}(hk:zad k){u v t:Ext}(hu:zap k u=true)(hv:zap k v=true)(ht:zap k t=true):zcP k (zcP k u v) t=zcP k u (zcP k v t):=by
 rcases hk with rfl|rfl|rfl
 ·exact zzu u v t
 ·exact zCw u v t hu hv ht
 ·exact zzv u v t
theorem zgW {k:Int}(hk:zad k){u v:Ext}(hu:zap k u=true)(hv:zap k v=true):zbt k u v=zbt k v u:=by
 rcases hk with rfl|rfl|rfl
 ·exact zme u v
 ·exact zmh u v hu hv
 ·rw[<- zcA] at *;exact zmh u v hu hv
theorem zwY {k:Int}(hk:zad k){u v t:Ext}(hu:zap k u=true)(hv:zap k v=true)(ht:zap k t=true):zbt k (zbt k u v) t=zbt k u (zbt k v t):=by
 rcases hk with rfl|rfl|rfl
 ·exact zzw u v t
 ·exact zpJ u v t hu hv ht
 ·rw[<- zcA] at *;exact zpJ u v t hu hv ht
theorem zzy {k:Int}(hk:zad k){u v t:Ext}(hu:zap k u=true)(hv:zap k v=true)(ht:zap k t=true):zbt k u (zcP k v t)=zcP k (zbt k u v) (zbt k u t):=by
 rcases hk with rfl|rfl|rfl
 ·exact zCt u v t
 ·exact zFW u v t hu hv ht
 ·rw[<- zcA] at *;exact zCv u v t hu hv ht
theorem zCA {k:Int}(hk:zad k){u:Ext}(hu:zap k u=true):zcP k u (zhI k)=u:=by
 rcases hk with rfl|rfl|rfl
 ·exact zgC (zcB u)
 ·exact zFV u hu
 ·rw[<- zcA] at hu
  refine zgD ?_;rcases zaA u hu with rfl|⟨x,rfl,hx⟩
  ·exact zcB _
  ·exact(zbH _ _).2 hx
theorem zCB {k:Int}(hk:zad k){u:Ext}(hu:zap k u=true):zbt k u (zhV k)=u:=by
 rcases hk with rfl|rfl|rfl
 ·exact zmf u
 ·exact zkQ u hu
 ·rw[<- zcA] at hu;exact zkQ u hu
theorem zzz {k:Int}(hk:zad k)(u:Ext):zbt k u (zhI k)=zhI k:=by
 rcases hk with rfl|rfl|rfl
 ·show zci u (.inl true)=.inl true
  rw[zme,zFT]
 ·exact zaI u
 ·exact zaI u
theorem zwZ (k:Int)(u v:Ext):zbT k v u = -zbT k u v:=by
 unfold zbT;split
 ·exact zeH u v
 ·exact zeH v u
theorem znS (k:Int)(u v:Ext):zbT k u v=0↔u=v:=by
 unfold zbT;split
 ·exact zfp u v
 ·exact(zfp v u).trans ⟨Eq.symm,Eq.symm⟩
theorem zuI (k:Int)(u v t:Ext)(h:zbT k u v<=0)(j:zbT k v t<=0):zbT k u t<=0:=by
 by_cases hk:k=1
 ·subst hk;exact zkP u v t h j
 ·have e:∀ a b,zbT k a b=zbs b a:=fun a b=>if_neg hk
  rw[e] at *;exact zkP t v u j h
theorem zuJ {k:Int}(hk:zad k){u v t:Ext}(hu:zap k u=true)(hv:zap k v=true)(ht:zap k t=true)(h:zbT k u v<=0):zbT k (zbt k u t) (zbt k v t)<=0:=by
 rw[zgW hk hu ht,zgW hk hv ht];rcases hk with rfl|rfl|rfl
 ·exact zmg t u v h
 ·exact zjy t v u ht hv hu h
 ·rw[<- zcA] at *;exact zjy t v u ht hv hu h
theorem zFZ {x:Rat}(h:x<1):1/(1-x)=1+x*(1/(1-x)):=by
 have hne:(1-x)≠0:=fun k=>zrf h (by rw[k];rfl);have e:1/(1-x)*(1-x)=1:=Rat.div_mul_cancel hne;generalize 1/(1-x)=s at *;rw[Rat.sub_eq_add_neg,Rat.mul_add,Rat.mul_one,Rat.mul_neg] at e;have e2:s + -(s*x)+s*x=1+s*x:=by rw[e]
 rw[Rat.add_assoc,Rat.neg_add_cancel,Rat.add_zero] at e2;rw[Rat.mul_comm x s];exact e2
theorem znT {x:Rat}(h:x<1):0<=1/(1-x):=by
 have h1:0<1-x:=(Rat.lt_iff_sub_pos x 1).1 h;rw[Rat.div_def,Rat.one_mul];exact Rat.le_of_lt (Rat.inv_pos.2 h1)
theorem zGa {k:Int}(hk:zad k)(u:Ext)(hu:zap k u=true):zap k (zdv k u)=true:=by
 rcases hk with rfl|rfl|rfl
 ·exact znx _
 ·rcases zaA u hu with rfl|⟨x,rfl,hx⟩
  ·rfl
  ·show zap 2 (if x<1 then .inr (1/(1-x)) else .inl true)=true
   by_cases h:x<1
   ·rw[if_pos h];exact zrh (znT h)
   ·rw[if_neg h];rfl
 ·show zap 3 (if 0<zbs u (.inr 1) then .inl true else .inr 1)=true
  split <;> decide +kernel
theorem star_law {k:Int}(hk:zad k)(u:Ext)(hu:zap k u=true):zcP k (zhV k) (zbt k u (zdv k u))=zdv k u:=by
 rcases hk with rfl|rfl|rfl
 ·show zco (.inr 0) (zci u (if zbs u (.inr 0)<0 then .inl false else .inr 0))=if zbs u (.inr 0)<0 then .inl false else .inr 0
  by_cases h:zbs u (.inr 0)<0
  ·rw[if_pos h]
   have:zci u (.inl false)=.inl false:=by
    rcases u with(_|_)|x
    ·rfl
    ·exact absurd (show(1:Int)<0 from h) (by decide)
    ·rfl
   rw[this];exact zgU (zyj _)
  ·rw[if_neg h,zmf]
   refine zgC ?_;unfold leE;have:=zeH u (.inr 0);omega
 ·rcases zaA u hu with rfl|⟨x,rfl,hx⟩
  ·show zde (.inr 1) (zaK (.inl true) (.inl true))=.inl true
   rw[zbC];rfl
  ·show zde (.inr 1) (zaK (.inr x) (if x<1 then .inr (1/(1-x)) else .inl true))=if x<1 then .inr (1/(1-x)) else .inl true
   by_cases h:x<1
   ·rw[if_pos h,zbr,zbU,<- zFZ h]
   ·rw[if_neg h,zaT (fun e=>by subst e;exact h (by decide +kernel)),zbq]
 ·rw[<- zcA] at hu
  show zbN (.inr 1) (zaK u (if 0<zbs u (.inr 1) then .inl true else .inr 1))=if 0<zbs u (.inr 1) then .inl true else .inr 1
  by_cases h:0<zbs u (.inr 1)
  ·rw[if_pos h]
   have:zaK u (.inl true)=.inl true:=by
    rcases zaA u hu with rfl|⟨x,rfl,hx⟩
    ·exact zbC
    ·exact zaT (fun e=>by subst e;revert h;decide +kernel)
   rw[this];exact zgV (zcB _)
  ·rw[if_neg h,zkQ u hu]
   exact zgD (by unfold leE;omega)
def zaL (n:Nat):Ext->Prop
 | .inr x=>zfq n x
 | _=>True
def Fits:Ext->Prop
 | .inr x=>zbp x
 | _=>True
def zri:Ext->ByteArray
 | .inl true=>zcX
 | .inl false=>zgl
 | .inr x=>zes x
theorem zyl {v:Ext}(h:Fits v):IsE (zri v) v:=by
 rcases v with(_|_)|x
 ·rfl
 ·rfl
 ·exact⟨h,rfl⟩
theorem zmi {v:Ext}(h:Fits v):zbI v=.tuple #[.string (zri v),.int .i64 0]:=zgA (zyl h)
theorem IsE.text {a:ByteArray}{v:Ext}(h:IsE a v):a=zri v:=by
 rcases v with(_|_)|x
 ·exact h
 ·exact h
 ·exact h.eq
theorem zaL.mono {m n:Nat}{v:Ext}(h:zaL m v)(k:m<=n):zaL n v:=by
 rcases v with(_|_)|x
 ·trivial
 ·trivial
 ·exact zfq.mono h k
theorem zaL.fits {n:Nat}{v:Ext}(h:zaL n v)(k:n<=400):Fits v:=by
 rcases v with(_|_)|x
 ·trivial
 ·trivial
 ·exact zfq.mono h k
theorem ziv:zaL 1 (.inr 0):=zCq
theorem zsA:zaL 1 (.inr 1):=zFS
theorem zzA {m n:Nat}{u v:Ext}(hm:1<=m)(hu:zaL m u)(hv:zaL n v):zaL (m+n) (zaK u v):=by
 unfold zaK;split
 ·exact ziv.mono (by omega)
 ·rcases u with(_|_)|x <;> rcases v with(_|_)|y
  all_goals first|exact zFQ hu hv|trivial
theorem zfa (k:Int){m n:Nat}{u v:Ext}(hm:1<=m)(hu:zaL m u)(hv:zaL n v):zaL (m+n+1) (zbt k u v):=by
 unfold zbt;split
 ·rcases u with(_|_)|x <;> rcases v with(_|_)|y
  all_goals first|exact zFR hu hv|trivial
 ·exact(zzA hm hu hv).mono (by omega)
theorem zel (k:Int):zaL 1 (zhI k):=by unfold zhI;split;trivial;exact ziv
theorem ziw (k:Int):zaL 1 (zhV k):=by unfold zhV;split;exact ziv;exact zsA
end Go.Proofs.YtaogepcaoogpgaaGreatDoor
