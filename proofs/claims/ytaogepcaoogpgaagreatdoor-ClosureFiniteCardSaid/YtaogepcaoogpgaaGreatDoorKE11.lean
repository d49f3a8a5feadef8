/- WE15 WE16 WE82 -/
import Derived.Test.YtaogepcaoogpgaaGreatDoorKE10
set_option linter.unusedVariables false
set_option linter.unusedSimpArgs false
set_option maxRecDepth 100000
set_option maxHeartbeats 16000000
namespace Go.Proofs.YtaogepcaoogpgaaGreatDoor
open Go.RowKit
open Go.Lib (nDigits decDigits)
structure Kind (k:Int)(z o:ByteArray)(V W:Nat)(p t s ov b:Value):Prop where
 f:∀ w,Calls Tryz.prog 66 #[.int .i64 k] w (zab (.agg #[.string z,.string o,.func (.func V) #[] #[],.func (.func W) #[] #[],p,t,s,ov,b]) w)
 ev:Enters V
 ew:Enters W
 one:(p.oneCell'&&t.oneCell'&&s.oneCell'&&ov.oneCell'&&b.oneCell')=true
def Puts (v:Value):Prop:=∀ (a:Addr) (m:Mode) (w:World),(store a v m).run Tryz.prog w=stored Tryz.prog w a v m
theorem zii {v:Value}(h:v.oneCell'=true):Puts v:=fun a m w=>run_store _ w a v m h
theorem zcE {p t s ov b:Value}(h:(p.oneCell'&&t.oneCell'&&s.oneCell'&&ov.oneCell'&&b.oneCell')=true):Puts p∧Puts t∧Puts s∧Puts ov∧Puts b:=by
 simp only[Bool.and_eq_true] at h;exact⟨zii h.1.1.1.1,zii h.1.1.1.2,zii h.1.1.2,zii h.1.2,zii h.2⟩
theorem nine {w:World}{g:Nat}{z o v x p t s ov b:Value}(h:w.heap[g]? = some (.cells #[z,o,v,x,p,t,s,ov,b] 89 (0,0))) :
  w.cell? ⟨g,0,none⟩=some z∧w.cell? ⟨g,1,none⟩=some o∧w.cell? ⟨g,2,none⟩=some v∧w.cell? ⟨g,3,none⟩=some x∧w.cell? ⟨g,4,none⟩=some p∧w.cell? ⟨g,5,none⟩=some t∧w.cell? ⟨g,6,none⟩=some s∧w.cell? ⟨g,7,none⟩=some ov∧w.cell? ⟨g,8,none⟩=some b :=
 ⟨by rw[cell_of_row w g 0 _ _ (0,0) h];rfl,by rw[cell_of_row w g 1 _ _ (0,0) h];rfl,by rw[cell_of_row w g 2 _ _ (0,0) h];rfl,by rw[cell_of_row w g 3 _ _ (0,0) h];rfl,by rw[cell_of_row w g 4 _ _ (0,0) h];rfl,by rw[cell_of_row w g 5 _ _ (0,0) h];rfl,by rw[cell_of_row w g 6 _ _ (0,0) h];rfl,by rw[cell_of_row w g 7 _ _ (0,0) h];rfl,by rw[cell_of_row w g 8 _ _ (0,0) h];rfl⟩
@[go_sem] theorem field_z (z o v x p t s ov b:Value) (w:World):(Instr.field 89 (.agg #[z,o,v,x,p,t,s,ov,b]) 0).run Tryz.prog w = .ok z w:=by kernel_rfl
@[go_sem] theorem field_o (z o v x p t s ov b:Value) (w:World):(Instr.field 89 (.agg #[z,o,v,x,p,t,s,ov,b]) 1).run Tryz.prog w = .ok o w:=by kernel_rfl
@[go_sem] theorem field_v (z o v x p t s ov b:Value) (w:World):(Instr.field 89 (.agg #[z,o,v,x,p,t,s,ov,b]) 2).run Tryz.prog w = .ok v w:=by kernel_rfl
@[go_sem] theorem field_x (z o v x p t s ov b:Value) (w:World):(Instr.field 89 (.agg #[z,o,v,x,p,t,s,ov,b]) 3).run Tryz.prog w = .ok x w:=by kernel_rfl
theorem zlJ {k:Int}{z o:ByteArray}{V W:Nat}{p t s ov b:Value}(K:Hid (Kind k z o V W p t s ov b))(a:ByteArray)(x:Bool)(w:World)(X:Hid (zaZ V a x)) :
  Calls Tryz.prog 71 #[.int .i64 k,.string a] w (zab (.bool x) w):=by
 have HE:=zHd K.out.ev;go_enter Tryz.func71,Tryz.ntmps71;obtain⟨u1,u2,u3,u4,u5⟩:=zcE K.out.one;unfold Puts at u1 u2 u3 u4 u5;go_wp2_with fail;refine(K.out.f _).mono ?_;rintro e w1 ⟨rfl,hg⟩;have G1:=zHd hg;clear hg;go_wp2_with fail;rw[HE.out];refine(X.out _).mono ?_;rintro e w2 ⟨rfl,hg⟩;have G2:=zHd (zaa G1.out hg);clear hg;go_wp2;go_ret;exact⟨rfl,G2.out⟩
theorem zki {k:Int}{z o:ByteArray}{V W:Nat}{p t s ov b:Value}(K:Hid (Kind k z o V W p t s ov b))(a:ByteArray)(x:Bool)(w:World)(X:Hid (zaZ W a x)) :
  Calls Tryz.prog 128 #[.int .i64 k,.string a] w (zab (.bool x) w):=by
 have HE:=zHd K.out.ew;go_enter Tryz.func128,Tryz.ntmps128;obtain⟨u1,u2,u3,u4,u5⟩:=zcE K.out.one;unfold Puts at u1 u2 u3 u4 u5;go_wp2_with fail;refine(K.out.f _).mono ?_;rintro e w1 ⟨rfl,hg⟩;have G1:=zHd hg;clear hg;go_wp2_with fail;rw[HE.out];refine(X.out _).mono ?_;rintro e w2 ⟨rfl,hg⟩;have G2:=zHd (zaa G1.out hg);clear hg;go_wp2;go_ret;exact⟨rfl,G2.out⟩
theorem zwZ {k:Int}{z o:ByteArray}{V W:Nat}{p t s ov b:Value}(K:Hid (Kind k z o V W p t s ov b))(w:World):Calls Tryz.prog 33 #[.int .i64 k] w (zab (.string z) w):=by
 go_enter Tryz.func33,Tryz.ntmps33;obtain⟨u1,u2,u3,u4,u5⟩:=zcE K.out.one;unfold Puts at u1 u2 u3 u4 u5;go_wp2_with fail;refine(K.out.f _).mono ?_;rintro e w1 ⟨rfl,hg⟩;have G1:=zHd hg;clear hg;go_wp2;go_ret;exact⟨rfl,G1.out⟩
theorem zzN {k:Int}{z o:ByteArray}{V W:Nat}{p t s ov b:Value}(K:Hid (Kind k z o V W p t s ov b))(w:World):Calls Tryz.prog 34 #[.int .i64 k] w (zab (.string o) w):=by
 go_enter Tryz.func34,Tryz.ntmps34;obtain⟨u1,u2,u3,u4,u5⟩:=zcE K.out.one;unfold Puts at u1 u2 u3 u4 u5;go_wp2_with fail;refine(K.out.f _).mono ?_;rintro e w1 ⟨rfl,hg⟩;have G1:=zHd hg;clear hg;go_wp2;go_ret;exact⟨rfl,G1.out⟩
theorem zxa {k:Int}{z o:ByteArray}{V W:Nat}{p t s ov b:Value}(K:Hid (Kind k z o V W p t s ov b))(a c:ByteArray)(w:World)(X:Hid (zaZ V a false)) :
  Calls Tryz.prog 70 #[.int .i64 k,.string a,.string c] w (zab (errV 1) w):=by
 have HE:=zHd K.out.ev;go_enter Tryz.func70,Tryz.ntmps70;obtain⟨u1,u2,u3,u4,u5⟩:=zcE K.out.one;unfold Puts at u1 u2 u3 u4 u5;go_wp2_with fail;refine(K.out.f _).mono ?_;rintro e w1 ⟨rfl,hg⟩;have G1:=zHd hg;clear hg;go_wp2_with fail;rw[HE.out];refine(X.out _).mono ?_;rintro e w2 ⟨rfl,hg⟩;have HB:=zHd (alloc_old hg);have hc:=nine HB.out;have G2:=zHd (zaa G1.out (zaa (zGA _ _ none) hg));clear hg;clear HB hc;go_wp2
 go_ret2
 exact⟨rfl,G2.out⟩
theorem zxb {k:Int}{z o:ByteArray}{V W:Nat}{p t s ov b:Value}(K:Hid (Kind k z o V W p t s ov b))(a c:ByteArray)(w:World)(X:Hid (zaZ V a true))(Y:Hid (zaZ V c false)) :
  Calls Tryz.prog 70 #[.int .i64 k,.string a,.string c] w (zab (errV 1) w):=by
 have HE:=zHd K.out.ev;go_enter Tryz.func70,Tryz.ntmps70;obtain⟨u1,u2,u3,u4,u5⟩:=zcE K.out.one;unfold Puts at u1 u2 u3 u4 u5;go_wp2_with fail;refine(K.out.f _).mono ?_;rintro e w1 ⟨rfl,hg⟩;have G1:=zHd hg;clear hg;go_wp2_with fail;rw[HE.out];refine(X.out _).mono ?_;rintro e w2 ⟨rfl,hg⟩;have HB:=zHd (alloc_old hg);have hc:=nine HB.out;have G2:=zHd (zaa G1.out (zaa (zGA _ _ none) hg));clear hg;go_wp2_with fail;rw[HE.out];refine(Y.out _).mono ?_;rintro e w3 ⟨rfl,hg⟩;have hb:=(hg.block _ (lt_of_block HB.out) (by simp)).trans HB.out;clear HB hc;have HB:=zHd hb;have hc:=nine HB.out;have G3:=zHd (zaa G2.out hg);clear hg hb;clear HB hc;go_wp2
 go_ret2
 exact⟨rfl,G3.out⟩
theorem zmg {k:Int}{z o:ByteArray}{V W F:Nat}{t s ov b:Value}(K:Hid (Kind k z o V W (.func (.func F) #[] #[]) t s ov b))(EF:Hid (Enters F))(a c:ByteArray)(S:ByteArray)(E:Int)(w:World)(X:Hid (zaZ V a true))(Y:Hid (zaZ V c true))(C:Hid (OpIs F a c (.tuple #[.string S,.int .i64 E]))) :
  Calls Tryz.prog 70 #[.int .i64 k,.string a,.string c] w (zab (.tuple #[.string S,.int .i64 E]) w):=by
 have HE:=zHd K.out.ev;go_enter Tryz.func70,Tryz.ntmps70;obtain⟨u1,u2,u3,u4,u5⟩:=zcE K.out.one;unfold Puts at u1 u2 u3 u4 u5;go_wp2_with fail;refine(K.out.f _).mono ?_;rintro e w1 ⟨rfl,hg⟩;have G1:=zHd hg;clear hg;go_wp2_with fail;rw[HE.out];refine(X.out _).mono ?_;rintro e w2 ⟨rfl,hg⟩;have HB:=zHd (alloc_old hg);have hc:=nine HB.out;have G2:=zHd (zaa G1.out (zaa (zGA _ _ none) hg));clear hg;go_wp2_with fail;rw[HE.out];refine(Y.out _).mono ?_;rintro e w3 ⟨rfl,hg⟩;have hb:=(hg.block _ (lt_of_block HB.out) (by simp)).trans HB.out;clear HB hc;have HB:=zHd hb;have hc:=nine HB.out;have G3:=zHd (zaa G2.out hg);clear hg hb;clear HB;go_wp2_with fail;rw[EF.out];refine(C.out _).mono ?_;rintro e w4 ⟨rfl,hg⟩;have G4:=zHd (zaa G3.out hg);clear hg hc;go_wp2
 go_ret2
 exact⟨rfl,G4.out⟩
theorem zuq {k:Int}{z o:ByteArray}{V W:Nat}{p t s ov b:Value}(K:Hid (Kind k z o V W p t s ov b))(a c:ByteArray)(w:World)(X:Hid (zaZ V a false)) :
  Calls Tryz.prog 67 #[.int .i64 k,.string a,.string c] w (zab (errV 1) w):=by
 have HE:=zHd K.out.ev;go_enter Tryz.func67,Tryz.ntmps67;obtain⟨u1,u2,u3,u4,u5⟩:=zcE K.out.one;unfold Puts at u1 u2 u3 u4 u5;go_wp2_with fail;refine(K.out.f _).mono ?_;rintro e w1 ⟨rfl,hg⟩;have G1:=zHd hg;clear hg;go_wp2_with fail;rw[HE.out];refine(X.out _).mono ?_;rintro e w2 ⟨rfl,hg⟩;have HB:=zHd (alloc_old hg);have hc:=nine HB.out;have G2:=zHd (zaa G1.out (zaa (zGA _ _ none) hg));clear hg;clear HB hc;go_wp2
 go_ret2
 exact⟨rfl,G2.out⟩
theorem zur {k:Int}{z o:ByteArray}{V W:Nat}{p t s ov b:Value}(K:Hid (Kind k z o V W p t s ov b))(a c:ByteArray)(w:World)(X:Hid (zaZ V a true))(Y:Hid (zaZ V c false)) :
  Calls Tryz.prog 67 #[.int .i64 k,.string a,.string c] w (zab (errV 1) w):=by
 have HE:=zHd K.out.ev;go_enter Tryz.func67,Tryz.ntmps67;obtain⟨u1,u2,u3,u4,u5⟩:=zcE K.out.one;unfold Puts at u1 u2 u3 u4 u5;go_wp2_with fail;refine(K.out.f _).mono ?_;rintro e w1 ⟨rfl,hg⟩;have G1:=zHd hg;clear hg;go_wp2_with fail;rw[HE.out];refine(X.out _).mono ?_;rintro e w2 ⟨rfl,hg⟩;have HB:=zHd (alloc_old hg);have hc:=nine HB.out;have G2:=zHd (zaa G1.out (zaa (zGA _ _ none) hg));clear hg;go_wp2_with fail;rw[HE.out];refine(Y.out _).mono ?_;rintro e w3 ⟨rfl,hg⟩;have hb:=(hg.block _ (lt_of_block HB.out) (by simp)).trans HB.out;clear HB hc;have HB:=zHd hb;have hc:=nine HB.out;have G3:=zHd (zaa G2.out hg);clear hg hb;clear HB hc;go_wp2
 go_ret2
 exact⟨rfl,G3.out⟩
theorem zkj {k:Int}{z o:ByteArray}{V W F:Nat}{p s ov b:Value}(K:Hid (Kind k z o V W p (.func (.func F) #[] #[]) s ov b))(EF:Hid (Enters F))(a c:ByteArray)(S:ByteArray)(E:Int)(w:World)(X:Hid (zaZ V a true))(Y:Hid (zaZ V c true))(C:Hid (OpIs F a c (.tuple #[.string S,.int .i64 E]))) :
  Calls Tryz.prog 67 #[.int .i64 k,.string a,.string c] w (zab (.tuple #[.string S,.int .i64 E]) w):=by
 have HE:=zHd K.out.ev;go_enter Tryz.func67,Tryz.ntmps67;obtain⟨u1,u2,u3,u4,u5⟩:=zcE K.out.one;unfold Puts at u1 u2 u3 u4 u5;go_wp2_with fail;refine(K.out.f _).mono ?_;rintro e w1 ⟨rfl,hg⟩;have G1:=zHd hg;clear hg;go_wp2_with fail;rw[HE.out];refine(X.out _).mono ?_;rintro e w2 ⟨rfl,hg⟩;have HB:=zHd (alloc_old hg);have hc:=nine HB.out;have G2:=zHd (zaa G1.out (zaa (zGA _ _ none) hg));clear hg;go_wp2_with fail;rw[HE.out];refine(Y.out _).mono ?_;rintro e w3 ⟨rfl,hg⟩;have hb:=(hg.block _ (lt_of_block HB.out) (by simp)).trans HB.out;clear HB hc;have HB:=zHd hb;have hc:=nine HB.out;have G3:=zHd (zaa G2.out hg);clear hg hb;clear HB;go_wp2_with fail;rw[EF.out];refine(C.out _).mono ?_;rintro e w4 ⟨rfl,hg⟩;have G4:=zHd (zaa G3.out hg);clear hg hc;go_wp2
 go_ret2
 exact⟨rfl,G4.out⟩
theorem zmh {k:Int}{z o:ByteArray}{V W F:Nat}{p t ov b:Value}(K:Hid (Kind k z o V W p t (.func (.func F) #[] #[]) ov b))(EF:Hid (Enters F))(a S:ByteArray)(E:Int)(w:World)(X:Hid (zaZ V a true))(C:Hid (zrm F a (.tuple #[.string S,.int .i64 E]))) :
  Calls Tryz.prog 204 #[.int .i64 k,.string a] w (zab (.tuple #[.string S,.int .i64 E]) w):=by
 have HE:=zHd K.out.ev;go_enter Tryz.func204,Tryz.ntmps204;obtain⟨u1,u2,u3,u4,u5⟩:=zcE K.out.one;unfold Puts at u1 u2 u3 u4 u5;go_wp2_with fail;refine(K.out.f _).mono ?_;rintro e w1 ⟨rfl,hg⟩;have G1:=zHd hg;clear hg;go_wp2_with fail;rw[HE.out];refine(X.out _).mono ?_;rintro e w2 ⟨rfl,hg⟩;have HB:=zHd (alloc_old hg);have hc:=nine HB.out;have G2:=zHd (zaa G1.out (zaa (zGA _ _ none) hg));clear hg;clear HB;go_wp2_with fail;rw[EF.out];refine(C.out _).mono ?_;rintro e w3 ⟨rfl,hg⟩;have G3:=zHd (zaa G2.out hg);clear hg hc;go_wp2
 go_ret2
 exact⟨rfl,G3.out⟩
open Go.RowKit
open Go.Lib (nDigits decDigits)
theorem zlK:Enters 107:=enters_of Tryz.func107 (by kernel_rfl) rfl
theorem znq:Enters 108:=enters_of Tryz.func108 (by kernel_rfl) rfl
theorem zsr:Enters 109:=enters_of Tryz.func109 (by kernel_rfl) rfl
theorem zjz:Enters 115:=enters_of Tryz.func115 (by kernel_rfl) rfl
theorem zhB:Enters 116:=enters_of Tryz.func116 (by kernel_rfl) rfl
theorem zqS:Enters 110:=enters_of Tryz.func110 (by kernel_rfl) rfl
theorem zoF:Enters 122:=enters_of Tryz.func122 (by kernel_rfl) rfl
theorem zss:Enters 111:=enters_of Tryz.func111 (by kernel_rfl) rfl
theorem enters_sum':Enters 117:=enters_of Tryz.func117 (by kernel_rfl) rfl
theorem enters_product':Enters 118:=enters_of Tryz.func118 (by kernel_rfl) rfl
theorem zst:Enters 112:=enters_of Tryz.func112 (by kernel_rfl) rfl
theorem zsu:Enters 119:=enters_of Tryz.func119 (by kernel_rfl) rfl
theorem zsv:Enters 123:=enters_of Tryz.func123 (by kernel_rfl) rfl
theorem ziP:Kind 1 infS zdH 108 109 (fnV 110) (fnV 111) (fnV 112) (fnV 113) (fnV 114) :=
 ⟨fun w=>znl 1 w,znq,zsr,rfl⟩
theorem ziQ:Kind 2 zdH oneS 115 116 (fnV 117) (fnV 118) (fnV 119) (fnV 120) (fnV 121) :=
 ⟨fun w=>znl 2 w,zjz,zhB,rfl⟩
theorem zgz:Kind 3 zdH oneS 115 116 (fnV 122) (fnV 118) (fnV 123) (fnV 120) (fnV 121) :=
 ⟨fun w=>znl 3 w,zjz,zhB,rfl⟩
theorem zzO {k:Int}(h1:k≠1)(h2:k≠2)(h3:k≠3):Kind k ⟨#[]⟩ ⟨#[]⟩ 107 107 .nilFunc .nilFunc .nilFunc .nilFunc .nilFunc :=
 ⟨fun w=>by
  have h:=znl k w;unfold zwW zar at h;rw[if_neg h1,if_neg h2,if_neg h3] at h;exact h,zlK,zlK,rfl⟩
def zaf (k:Int):ByteArray:=if k=1 then infS else if k=2∨k=3 then zdH else ⟨#[]⟩
def oneT (k:Int):ByteArray:=if k=1 then zdH else if k=2∨k=3 then oneS else ⟨#[]⟩
structure zkk (k:Int)(V W:Nat):Prop where
 vy:∀ a v,Val k a v→zaZ V a true
 vn:∀ a,a.size≤maxLen→zfQ k a→zaZ V a false
 wy:∀ a v,Wgt k a v→zaZ W a true
 wn:∀ a,a.size≤maxLen→zwC k a→zaZ W a false
theorem zij:zkk 1 108 109:=by
 refine⟨fun a v h=>zsn h.e,fun a ha h=>zum (fun v k => ?_) ha,fun a v h => ?_,fun a ha h => ?_⟩
 ·have:=h v k;rw[zlh] at this;cases this
 ·have:=zno h.e;rw[h.has] at this;exact this
 ·rcases znm a with⟨v,hv⟩|hn
  ·have:=zno hv;rw[h v hv] at this;exact this
  ·exact fun w=>zfO hn.rat ha w
theorem zey:zkk 2 115 116:=by
 refine⟨fun a v h => ?_,fun a ha h => ?_,fun a v h => ?_,fun a ha h => ?_⟩
 ·have:=znn h.e;rw[h.has] at this;exact this
 ·rcases znm a with⟨v,hv⟩|hn
  ·have:=znn hv;rw[h v hv] at this;exact this
  ·exact zzK hn ha
 ·have:=zkf h.e;rw[h.has] at this;exact this
 ·rcases znm a with⟨v,hv⟩|hn
  ·have:=zkf hv;rw[h v hv] at this;exact this
  ·exact zun hn ha
theorem zfF:zkk 3 115 116 :=
 ⟨fun a v h=>zey.vy a v ⟨h.e,by rw[zcf];exact h.has⟩,fun a ha h=>zey.vn a ha (fun v hv=>by rw[zcf];exact h v hv),
  fun a v h=>zey.wy a v ⟨h.e,by rw[zvs];exact h.has⟩,fun a ha h=>zey.wn a ha (fun v hv=>by rw[zvs];exact h v hv)⟩
theorem zFp {k:Int}(h1:k≠1)(h2:k≠2)(h3:k≠3):zkk k 107 107 :=
 ⟨fun a v h=>absurd h.has (by rw[zox h1 h2 h3];simp),fun a _ _=>zsm a,fun a v h=>absurd h.val.has (by rw[zox h1 h2 h3];simp),fun a _ _=>zsm a⟩
theorem zdT (k:Int):∃ V W p t s ov b,Kind k (zaf k) (oneT k) V W p t s ov b∧zkk k V W:=by
 unfold zaf oneT
 by_cases h1:k=1
 ·subst h1;exact⟨_,_,_,_,_,_,_,ziP,zij⟩
 by_cases h2:k=2
 ·subst h2;exact⟨_,_,_,_,_,_,_,ziQ,zey⟩
 by_cases h3:k=3
 ·subst h3;exact⟨_,_,_,_,_,_,_,zgz,zfF⟩
 simp only[h1,h2,h3,if_false,or_self];exact⟨_,_,_,_,_,_,_,zzO h1 h2 h3,zFp h1 h2 h3⟩
def VB (F:Nat)(k:Int)(a:ByteArray)(x:Bool):Prop:=∀ w,Calls Tryz.prog F #[.int .i64 k,.string a] w (zab (.bool x) w)
theorem znr {k:Int}{a:ByteArray}{v:Ext}(h:Val k a v):VB 71 k a true:=fun w=>by
 obtain⟨V,W,p,t,s,ov,b,K,I⟩:=zdT k;exact zlJ (zHd K) a true w (zHd (I.vy a v h))
theorem zpU {k:Int}{a:ByteArray}(h:zfQ k a)(ha:a.size≤maxLen):VB 71 k a false:=fun w=>by
 obtain⟨V,W,p,t,s,ov,b,K,I⟩:=zdT k;exact zlJ (zHd K) a false w (zHd (I.vn a ha h))
theorem zus {k:Int}{a:ByteArray}{v:Ext}(h:Wgt k a v):VB 128 k a true:=fun w=>by
 obtain⟨V,W,p,t,s,ov,b,K,I⟩:=zdT k;exact zki (zHd K) a true w (zHd (I.wy a v h))
theorem zxc {k:Int}{a:ByteArray}(h:zwC k a)(ha:a.size≤maxLen):VB 128 k a false:=fun w=>by
 obtain⟨V,W,p,t,s,ov,b,K,I⟩:=zdT k;exact zki (zHd K) a false w (zHd (I.wn a ha h))
theorem zhC (k:Int)(w:World):Calls Tryz.prog 33 #[.int .i64 k] w (zab (.string (zaf k)) w):=by
 obtain⟨V,W,p,t,s,ov,b,K,I⟩:=zdT k;exact zwZ (zHd K) w
theorem ziR (k:Int)(w:World):Calls Tryz.prog 34 #[.int .i64 k] w (zab (.string (oneT k)) w):=by
 obtain⟨V,W,p,t,s,ov,b,K,I⟩:=zdT k;exact zzN (zHd K) w
def SOp (F:Nat)(k:Int)(a b:ByteArray)(V:Value):Prop:=∀ w,Calls Tryz.prog F #[.int .i64 k,.string a,.string b] w (zab V w)
theorem zkl (v:Ext):∃ S E,extV v = .tuple #[.string S,.int .i64 E]:=by
 rcases v with(_|_)|x
 ·exact⟨_,_,rfl⟩
 ·exact⟨_,_,rfl⟩
 ·exact zcy x
theorem zpV {k:Int}{a b:ByteArray}(ha:a.size≤maxLen)(hb:b.size≤maxLen)(h:zfQ k a∨zfQ k b):SOp 70 k a b (errV 1):=fun w=>by
 obtain⟨V,W,p,t,s,ov,q,K,I⟩:=zdT k;rcases zge k a with⟨v,hv⟩|hn
 ·rcases h with h|h
  ·exact absurd hv.has (by rw[h v hv.e];simp)
  ·exact zxb (zHd K) a b w (zHd (I.vy a v hv)) (zHd (I.vn b hb h))
 ·exact zxa (zHd K) a b w (zHd (I.vn a ha hn))
theorem zns {k:Int}{a b:ByteArray}(ha:a.size≤maxLen)(hb:b.size≤maxLen)(h:zfQ k a∨zfQ k b):SOp 67 k a b (errV 1):=fun w=>by
 obtain⟨V,W,p,t,s,ov,q,K,I⟩:=zdT k;rcases zge k a with⟨v,hv⟩|hn
 ·rcases h with h|h
  ·exact absurd hv.has (by rw[h v hv.e];simp)
  ·exact zur (zHd K) a b w (zHd (I.vy a v hv)) (zHd (I.vn b hb h))
 ·exact zuq (zHd K) a b w (zHd (I.vn a ha hn))
theorem zFq {a b:ByteArray}{u v:Ext}(ha:IsE a u)(hb:IsE b v)(hu:hasE 2 u=true)(hv:hasE 2 v=true):OpIs 117 a b (extV (sumE u v)):=fun w=>by
 have i:=zdh ha;have j:=zdh hb;rcases u with(_|_)|x
 ·cases hu
 ·exact zvz a b _ _ w i j rfl
 rcases v with(_|_)|y
 ·cases hv
 ·exact zvz a b _ _ w i j rfl
 obtain⟨S,E,e⟩:=zcy (x+y);have C:=fun w=>zvp ha hb w;show Calls _ _ _ w (zab (finV (x+y)) w);rw[e] at C ⊢;exact zFo a b S E w i j (zHd C)
theorem zzP {a b:ByteArray}{u v:Ext}(ha:IsE a u)(hb:IsE b v):OpIs 111 a b (extV (zbE u v)):=fun w=>by
 have i:=zdh ha;have j:=zdh hb;have m:=zlj ha;have n:=zlj hb;rcases u with(_|_)|x <;> rcases v with(_|_)|y
 ·exact zkg a b _ _ w i j m n rfl
 ·exact zgg a b _ _ w i j rfl
 ·exact zkg a b _ _ w i j m n rfl
 ·exact zgg a b _ _ w i j rfl
 ·exact zgg a b _ _ w i j rfl
 ·exact zgg a b _ _ w i j rfl
 ·exact zkg a b _ _ w i j m n rfl
 ·exact zgg a b _ _ w i j rfl
 obtain⟨S,E,e⟩:=zcy (x+y);have C:=fun w=>zvp ha hb w;show Calls _ _ _ w (zab (finV (x+y)) w);rw[e] at C ⊢;exact zzL a b S E w i j m n (zHd C)
theorem zeroV:extV (.inr 0)=okV zdH:=zgT ziK
theorem zhD (v:Ext):isNil v=true↔v = .inr 0:=by
 rcases v with(_|_)|x
 ·exact⟨fun h=>(by cases h),fun h=>(by cases h)⟩
 ·exact⟨fun h=>(by cases h),fun h=>(by cases h)⟩
 ·exact⟨fun h=>by rw[of_decide_eq_true h],fun h=>decide_eq_true (Sum.inr.inj h)⟩
theorem zsw {a b:ByteArray}{u v:Ext}(ha:IsE a u)(hb:IsE b v)(hu:hasE 2 u=true)(hv:hasE 2 v=true):OpIs 118 a b (extV (zaA u v)):=fun w=>by
 have i:=zdh ha;have j:=zdh hb;have m:=zsl ha;have n:=zsl hb;unfold zaA
 by_cases h:u = .inr 0∨v = .inr 0
 ·rw[if_pos h,zeroV]
  refine zzM a b _ _ w m n ?_;rw[Bool.or_eq_true,zhD,zhD];exact h
 rw[if_neg h];have hm:isNil u=false:=by rw[← Bool.not_eq_true,zhD];exact fun k=>h (.inl k)
 have hn:isNil v=false:=by rw[← Bool.not_eq_true,zhD];exact fun k=>h (.inr k)
 rw[hm] at m;rw[hn] at n;rcases u with(_|_)|x
 ·cases hu
 ·exact zsp a b _ _ w m n i j rfl
 rcases v with(_|_)|y
 ·cases hv
 ·exact zsp a b _ _ w m n i j rfl
 obtain⟨S,E,e⟩:=zcy (x * y);have C:=fun w=>zFe ha hb w;show Calls _ _ _ w (zab (finV (x * y)) w);rw[e] at C ⊢;exact zCZ a b S E w m n i j (zHd C)
theorem zpW {k:Int}{a b:ByteArray}{u v:Ext}(ha:Val k a u)(hb:Val k b v):SOp 70 k a b (extV (zcm k u v)):=fun w=>by
 obtain⟨S,E,e⟩:=zkl (zcm k u v);rw[e];rcases ha.kind with rfl|rfl|rfl
 ·have C:=zwY ha.e hb.e
  rw[show zbD u v=zcm 1 u v from rfl,e] at C;exact zmg (zHd ziP) (zHd zqS) a b S E w (zHd (zij.vy a u ha)) (zHd (zij.vy b v hb)) (zHd C)
 ·have C:=zFq ha.e hb.e ha.has hb.has
  rw[show sumE u v=zcm 2 u v from rfl,e] at C;exact zmg (zHd ziQ) (zHd enters_sum') a b S E w (zHd (zey.vy a u ha)) (zHd (zey.vy b v hb)) (zHd C)
 ·have C:=zup ha.e hb.e
  rw[show zbz u v=zcm 3 u v from rfl,e] at C;exact zmg (zHd zgz) (zHd zoF) a b S E w (zHd (zfF.vy a u ha)) (zHd (zfF.vy b v hb)) (zHd C)
theorem znt {k:Int}{a b:ByteArray}{u v:Ext}(ha:Val k a u)(hb:Val k b v):SOp 67 k a b (extV (zaX k u v)):=fun w=>by
 obtain⟨S,E,e⟩:=zkl (zaX k u v);rw[e];rcases ha.kind with rfl|rfl|rfl
 ·have C:=zzP ha.e hb.e
  rw[show zbE u v=zaX 1 u v from rfl,e] at C;exact zkj (zHd ziP) (zHd zss) a b S E w (zHd (zij.vy a u ha)) (zHd (zij.vy b v hb)) (zHd C)
 ·have C:=zsw ha.e hb.e ha.has hb.has
  rw[show zaA u v=zaX 2 u v from rfl,e] at C;exact zkj (zHd ziQ) (zHd enters_product') a b S E w (zHd (zey.vy a u ha)) (zHd (zey.vy b v hb)) (zHd C)
 ·have C:=zsw ha.e hb.e (by rw[zcf];exact ha.has) (by rw[zcf];exact hb.has)
  rw[show zaA u v=zaX 3 u v from rfl,e] at C;exact zkj (zHd zgz) (zHd enters_product') a b S E w (zHd (zfF.vy a u ha)) (zHd (zfF.vy b v hb)) (zHd C)
def SOp1 (F:Nat)(k:Int)(a:ByteArray)(V:Value):Prop:=∀ w,Calls Tryz.prog F #[.int .i64 k,.string a] w (zab V w)
theorem zzQ {a:ByteArray}{u:Ext}(ha:IsE a u):zrm 112 a (extV (zcK 1 u)):=fun w=>by
 have k:=znp a _ _ w (zHd (zcZ ha zni)) rfl;show Calls _ _ _ w (zab (extV (if cmpE u (.inr 0)<0 then .inl false else .inr 0)) w)
 by_cases h:cmpE u (.inr 0)<0
 ·rw[if_pos h]
  rw[decide_eq_true h] at k;exact k
 ·rw[if_neg h,zeroV]
  rw[decide_eq_false h] at k;exact k
theorem oneV:extV (.inr 1)=okV oneS:=zgT oneE
theorem zzR {a:ByteArray}{u:Ext}(ha:IsE a u):zrm 123 a (extV (zcK 3 u)):=fun w=>by
 have k:=zmf a _ _ w (zHd (zcZ ha oneE)) rfl;show Calls _ _ _ w (zab (extV (if 0<cmpE u (.inr 1) then .inl true else .inr 1)) w)
 by_cases h:0<cmpE u (.inr 1)
 ·rw[if_pos h]
  rw[decide_eq_true h] at k;exact k
 ·rw[if_neg h,oneV]
  rw[decide_eq_false h] at k;exact k
theorem zzS {a:ByteArray}{u:Ext}(ha:IsE a u)(hu:hasE 2 u=true):zrm 119 a (extV (zcK 2 u)):=fun w=>by
 rcases zat u hu with rfl|⟨x,rfl,hx⟩
 ·exact zkh a _ w (zHd (zcZ ha oneE)) (by decide)
 show Calls _ _ _ w (zab (extV (if x<1 then .inr (1 / (1 - x)) else .inl true)) w)
 by_cases h:x<1
 ·rw[if_pos h]
  have hs:=zwE hx (Rat.le_of_lt h) (show zbd x from zax.short ha);have hR:zax (ratS (1 - x)) (1 - x):=⟨hs,rfl⟩;have hne:(1 - x).num≠0:=zvt h;obtain⟨S,E,e⟩:=zcy (1 / (1 - x));show Calls _ _ _ w (zab (finV (1 / (1 - x))) w);have D:=fun w=>zFd oneE ha w;have V:=fun w=>zFf oneE hR hne w;rw[zgT hR] at D;rw[e] at V ⊢;exact zsq a _ S _ 0 E w (zHd (zcZ ha oneE)) (fun k=>by have:=(zeL x 1).2 h;have k:0≤cmpQ x 1:=k;omega) (zHd D) (zHd V)
 ·rw[if_neg h]
  refine zkh a _ w (zHd (zcZ ha oneE)) ?_;have:¬ cmpQ x 1<0:=fun k=>h ((zeL x 1).1 k);show 0≤cmpQ x 1
  omega
theorem zzT {k:Int}{a:ByteArray}{u:Ext}(ha:Val k a u):SOp1 204 k a (extV (zcK k u)):=fun w=>by
 obtain⟨S,E,e⟩:=zkl (zcK k u);rw[e];rcases ha.kind with rfl|rfl|rfl
 ·have C:=zzQ ha.e
  rw[e] at C;exact zmh (zHd ziP) (zHd zst) a S E w (zHd (zij.vy a u ha)) (zHd C)
 ·have C:=zzS ha.e ha.has
  rw[e] at C;exact zmh (zHd ziQ) (zHd zsu) a S E w (zHd (zey.vy a u ha)) (zHd C)
 ·have C:=zzR ha.e
  rw[e] at C;exact zmh (zHd zgz) (zHd zsv) a S E w (zHd (zfF.vy a u ha)) (zHd C)
theorem zDa {k:Int}(h:k=1∨k=2∨k=3):IsE (zaf k) (zfP k):=by
 rcases h with rfl|rfl|rfl
 ·exact topE
 ·exact zni
 ·exact zni
theorem zoG {k:Int}(h:k=1∨k=2∨k=3):IsE (oneT k) (zgd k):=by
 rcases h with rfl|rfl|rfl
 ·exact zni
 ·exact oneE
 ·exact oneE
open Go.RowKit
def zbn (P:Prop)(Q:Value→World→Prop)(w:World)(e:Ending)(w':World):Prop:=(P∧∃ v,e = .returned v∧Q v w'∧w.grownBy w' none)∨(¬ P∧zeh 2 w e w')
def zam (w:World)(g off n:Nat)(L:Nat→Value):Prop:=g<w.heap.size∧∀ j,j<n→w.cell? ⟨g,off+j,none⟩=some (L j)
def RowR (w:World)(v:Value)(n:Nat)(L:Nat→Value):Prop :=
 ∃ A cap,v = .slice A n cap∧n≤cap∧cap≤maxLen∧∀ j,j<n→∃ ad,A=some ad∧ad.block<w.heap.size∧w.cell? (ad.add j)=some (L j)
theorem zbA (g off j:Nat):(⟨g,off,none⟩:Addr).add j=⟨g,off+j,none⟩:=by unfold Addr.add;split <;> simp_all
theorem zam.row {w:World}{g off n cap:Nat}{L:Nat→Value}(h:zam w g off n L)(h1:n≤cap)(h2:cap≤maxLen):RowR w (.slice (some ⟨g,off,none⟩) n cap) n L :=
 ⟨_,cap,rfl,h1,h2,fun j hj=>⟨_,rfl,h.1,by rw[zbA];exact h.2 j hj⟩⟩
theorem zaj (ad:Addr)(j:Nat):(ad.add j).block=ad.block:=by unfold Addr.add;split <;> rfl
theorem zap {w w':World}{ad:Addr}(h:w'.heap[ad.block]? = w.heap[ad.block]?):w'.cell? ad=w.cell? ad:=by
 unfold World.cell?;rw[h]
theorem zam.keep {w w':World}{g off n:Nat}{L:Nat→Value}(h:zam w g off n L)(hs:w.heap.size≤w'.heap.size)(hb:w'.heap[g]? = w.heap[g]?):zam w' g off n L :=
 ⟨Nat.lt_of_lt_of_le h.1 hs,fun j hj=>(zap (ad:=⟨g,off+j,none⟩) hb).trans (h.2 j hj)⟩
theorem zam.grown {w w':World}{g off n:Nat}{L:Nat→Value}(h:zam w g off n L)(hg:w.grownBy w' none):zam w' g off n L:=h.keep hg.size (hg.block g h.1 (by simp))
theorem zam.grownB {w w':World}{g off n b:Nat}{L:Nat→Value}(h:zam w g off n L)(hg:w.grownBy w' (some b))(hb:g≠b):zam w' g off n L:=h.keep hg.size (hg.block g h.1 (by simpa using hb))
theorem RowR.grown {w w':World}{v:Value}{n:Nat}{L:Nat→Value}(h:RowR w v n L)(hg:w.grownBy w' none):RowR w' v n L:=by
 obtain⟨A,cap,rfl,h1,h2,h3⟩:=h;refine⟨A,cap,rfl,h1,h2,fun j hj => ?_⟩;obtain⟨ad,rfl,hb,hc⟩:=h3 j hj;exact⟨ad,rfl,Nat.lt_of_lt_of_le hb hg.size,(zap (ad:=ad.add j) (by rw[zaj];exact hg.block ad.block hb (by simp))).trans hc⟩
structure zaq (T:TypeId)(z:Value)(n:Nat)(zs:List Value)(w wr:World):Prop where
 row:wr.heap[w.heap.size]? = some (.cells (zs++List.replicate (n - zs.length) z).toArray T (0,0))
 gr:w.grownBy wr none
 le:zs.length≤n
theorem zaq.cell {T:TypeId}{z:Value}{n:Nat}{zs:List Value}{w wr:World}(h:zaq T z n zs w wr)(hk:zs.length<n):wr.cell? ⟨w.heap.size,zs.length,none⟩=some z:=by
 rw[cell_of_row wr w.heap.size zs.length _ _ (0,0) h.row,List.getElem?_toArray,List.getElem?_append_right (Nat.le_refl _),Nat.sub_self,show n - zs.length=(n - zs.length - 1)+1 by omega]
 rfl
theorem zaq.free {T:TypeId}{z:Value}{n:Nat}{zs:List Value}{w wr:World}(h:zaq T z n zs w wr)(k:Nat):wr.frozen? ⟨w.heap.size,k,none⟩=false:=frozen_of_row wr _ _ _ _ h.row
theorem zaq.put {T:TypeId}{z:Value}{n:Nat}{zs:List Value}{w wr:World}(h:zaq T z n zs w wr)(hk:zs.length<n)(u:Value):zaq T z n (zs++[u]) w (wr.setCell ⟨w.heap.size,zs.length,none⟩ u):=by
 refine⟨?_,zai h.gr (zac _ _ _) (Nat.le_refl _),by simp;omega⟩;have h1:=heap_setCell_same wr w.heap.size zs.length _ _ u h.row;rw[h1]
 congr 2
 apply Array.toList_inj.1
 simp only[Array.toList_setIfInBounds,List.append_assoc];rw[List.set_append_right _ _ (Nat.le_refl _),Nat.sub_self,show n - zs.length=(n - (zs++[u]).length)+1 by simp;omega,List.replicate_succ,List.set_cons_zero]
 rfl
theorem zaq.grown {T:TypeId}{z:Value}{n:Nat}{zs:List Value}{w wr w':World}(h:zaq T z n zs w wr)(hg:wr.grownBy w' none):zaq T z n zs w w' :=
 ⟨(hg.block _ (Array.getElem?_eq_some_iff.1 h.row).1 (by simp)).trans h.row,zaa h.gr hg,h.le⟩
theorem zaq.rowAt {T:TypeId}{z:Value}{n:Nat}{zs:List Value}{w wr:World}(h:zaq T z n zs w wr)(hn:zs.length=n):zam wr w.heap.size 0 n (fun j=>zs.getD j z):=by
 refine⟨(Array.getElem?_eq_some_iff.1 h.row).1,fun j hj => ?_⟩;rw[Nat.zero_add,cell_of_row wr w.heap.size j _ _ (0,0) h.row];have e:(zs++List.replicate (n - zs.length) z)=zs:=by rw[hn,Nat.sub_self];simp
 dsimp only
 rw[e,List.getElem?_toArray,List.getD_eq_getElem?_getD,List.getElem?_eq_getElem (by omega)]
 rfl
theorem zaq.start {T:TypeId}{z:Value}{n:Nat}{w w1:World}(hown:w1.ownsRow w.heap.size T 1 (.slice (some ⟨w.heap.size,0,none⟩) n n) n (madeCells #[z] n).toList)(hgr:w.grownBy w1 none):zaq T z n [] w w1:=by
 refine⟨?_,hgr,Nat.zero_le _⟩;rcases hown.2 with⟨h',_⟩|⟨g',cap',cur,h',hb,hg,_,_,hs,ht⟩
 ·simp at h'
 ·simp only[Value.slice.injEq,Option.some.injEq,Addr.mk.injEq,and_true,true_and] at h'
  obtain⟨rfl,rfl⟩:=h';rw[List.take_of_length_le (by rw[Array.length_toList,hs];simp),toList_madeCells_one] at ht;rw[hg]
  congr 2
  apply Array.toList_inj.1
  rw[ht];simp
theorem zdt:(Tryz.prog.info? 9).map (fun i=>(i.zero,i.size,i.bytes))=some (some (.string ⟨#[]⟩),1,16):=by kernel_rfl
theorem zcF:(Tryz.prog.info? 33).map (fun i=>(i.zero,i.size,i.bytes))=some (some (.slice none 0 0),1,24):=by kernel_rfl
def ziS (P:Prop)(H m:Nat)(L:Nat→Value)(w:World)(e:Ending)(w':World):Prop :=
 zbn P (fun v w'=>∃ g off c,v = .slice (some ⟨g,off,none⟩) m c∧m≤c∧c≤maxLen∧(g<H∨w.heap.size≤g)∧zam w' g off m L) w e w'
def zdU (w:World)(H g n m:Nat)(zs:List Value)(A:Nat→Nat→Value):Prop :=
 zs.length=n∧zam w g 0 n (fun j=>zs.getD j (.slice none 0 0))∧∀ i,i<n→∃ gi off c,zs.getD i (.slice none 0 0) = .slice (some ⟨gi,off,none⟩) m c∧m≤c∧c≤maxLen∧gi≠g∧zam w gi off m (A i)
def ziT (P:Prop)(n m:Nat)(A:Nat→Nat→Value)(w:World)(e:Ending)(w':World):Prop :=
 zbn P (fun v w'=>∃ zs,v = .slice (some ⟨w.heap.size,0,none⟩) n n∧zdU w' w.heap.size w.heap.size n m zs A) w e w'
def ziU (P:Prop)(n:Nat)(G:Nat→ByteArray)(w:World)(e:Ending)(w':World):Prop :=
 zbn P (fun v w'=>v = .slice (some ⟨w.heap.size,0,none⟩) n n∧zam w' w.heap.size 0 n (fun i => .string (G i))) w e w'
def zfn (G:Nat→ByteArray)(k:Nat):List Value:=(List.range k).map (fun i => .string (G i))
theorem zhE (G:Nat→ByteArray)(k:Nat):(zfn G k).length=k:=by simp[zfn]
theorem ziV (G:Nat→ByteArray)(k:Nat):zfn G k++[.string (G k)]=zfn G (k+1):=by simp[zfn,List.range_succ]
theorem zzU (G:Nat→ByteArray){n j:Nat}(z:Value)(h:j<n):(zfn G n).getD j z = .string (G j):=by
 unfold zfn;rw[List.getD_eq_getElem?_getD,List.getElem?_map,List.getElem?_range h]
 rfl
theorem zaq.strs {n:Nat}{G:Nat→ByteArray}{w wr:World}(h:zaq 9 (.string ⟨#[]⟩) n (zfn G n) w wr):zam wr w.heap.size 0 n (fun i => .string (G i)):=by
 have h1:=h.rowAt (zhE G n);refine⟨h1.1,fun j hj=>(h1.2 j hj).trans ?_⟩
 dsimp only
 rw[zzU G _ hj]
def zsx (P:Prop)(V:Value)(w:World)(e:Ending)(w':World):Prop:=(P∧zab V w e w')∨(¬ P∧zeh 2 w e w')
theorem zhU (F:Nat)(he:Enters F)(first cap:Array Value)(n:Nat)(V:Nat→Value)(m:Nat)(P:Nat→Prop)(A:Nat→Nat→Value)(lv:Value)(w:World)(hn:n≤10000)(hl:RowR w lv n V)
  (hF:∀ i,i<n→∀ w',w.grownBy w' none→Calls Tryz.prog F (first++#[V i]++cap) w' (ziS (P i) w.heap.size m (A i) w')) :
  Calls Tryz.prog 78 #[lv,.func (.func F) first cap] w (ziT (∀ i,i<n→P i) n m A w):=by
 obtain⟨Ad,c,rfl,h1,h2,h3⟩:=hl;obtain⟨i0,hi,hz0,hz1,hz2⟩:=info_parts zcF;have HE:=zHd he;have HF:=zHd hF;have HL:=zHd h3;have HN:=zHd hn;clear he hF h3 h1 h2 hn;go_enter Tryz.func78,Tryz.ntmps78;go_wp2_with (at_make;refine wpList_make_full _ rfl _ _ 22 rfl w.heap.size 33 i0 (.slice none 0 0) 1 Tryz.underlying22 hi hz0 hz1 _ _ _ _ n rfl rfl ?c0 ?c1 ?c2 (by have:=HN.out;unfold maxLen;omega) (Nat.le_refl _) ?_)
 case c0=>omega
 case c1=>omega
 case c2=>have:=HN.out;first|omega|(rw[hz2];omega)
 intro w1 hown hgr;have hfill:=zaq.start hown hgr;have HW:=zHd hfill;clear hown hgr hfill;go_wp2
 go_loopw [13] (fun iv wr=>∃ zs:List Value,iv = .int .i64 (zs.length:Int)∧zaq 33 (.slice none 0 0) n zs w wr∧∀ i,i<zs.length→∃ gi off c,zs.getD i (.slice none 0 0) = .slice (some ⟨gi,off,none⟩) m c∧m≤c∧c≤maxLen∧gi≠w.heap.size∧zam wr gi off m (A i)∧P i) (fun iv _=>n - (intOf iv).toNat)
 case atStart=>exact⟨[],rfl,HW.out,fun i hi=>absurd hi (by simp)⟩
 case round =>
  obtain⟨zs,rfl,hfill,hrows⟩:=hrel;obtain⟨k,hzk⟩:∃ k,zs.length=k:=⟨_,rfl⟩;have hle:=hfill.le
  by_cases hk:k<n
  ·obtain⟨ad,rfl,hb,hc⟩:=HL.out k hk
   have hc2:wr.cell? (ad.add k)=some (V k):=(zap (ad:=ad.add k) (by rw[zaj];exact hfill.gr.block ad.block hb (by simp))).trans hc;have t1:decide (k<n)=true:=by simpa using hk
   have t1':decide ((k:Int)<(n:Int))=true:=by simpa using hk
   have hik:(k:Int)<(n:Int):=by omega
   have n1:IntKind.i64.wrap ((k:Int)+1)=(k:Int)+1:=by have:=HN.out;rw[IntKind.wrap_i64];omega
   have HFL:=zHd hfill;have HK:=zHd (zAI hk (zAI hzk hle));have HR:=zHd hrows;rw[hzk];clear hrows;clear hfill hk hle hzk hb hc;go_wp2_with fail;rw[HE.out];refine(HF.out k HK.out.1 wr HFL.out.gr).mono ?_;rintro e w' (⟨hpk,v,rfl,⟨g,off,c2,rfl,hm1,hm2,hgl,hrow⟩,hg⟩|⟨hnp,rfl,hg⟩)
   ·have HPK:=zHd hpk
    clear hpk;have hf2:=HFL.out.grown hg;have hcl:=hf2.cell (by rw[HK.out.2.1];exact HK.out.1);have hfr:=hf2.free k;rw[HK.out.2.1] at hcl;have HF2:=zHd hf2;have HG:=zHd hg;have HROW:=zHd (zAI hm1 (zAI hm2 (zAI hgl hrow)));clear hf2 hg hm1 hm2 hgl hrow;go_wp2;obtain⟨hk,hzk,hle⟩:=HK.out;have hput:=HF2.out.put (by rw[hzk];exact hk) (.slice (some ⟨g,off,none⟩) m c2);rw[hzk] at hput;obtain⟨hm1,hm2,hgl,hrow⟩:=HROW.out
    have hne:g≠w.heap.size:=by
     rcases hgl with h|h
     ·omega
     ·have:=(Array.getElem?_eq_some_iff.1 HFL.out.row).1;omega
    refine⟨⟨zs++[.slice (some ⟨g,off,none⟩) m c2],by simp[hzk],hput,fun i hi => ?_⟩,by simp[intOf];omega⟩
    by_cases hik2:i<zs.length
    ·obtain⟨gi,oi,ci,e1,e2,e3,e4,e5,e6⟩:=HR.out i hik2
     refine⟨gi,oi,ci,?_,e2,e3,e4,(e5.grown HG.out).grownB (zac _ _ _) e4,e6⟩;rw[List.getD_eq_getElem?_getD,List.getElem?_append_left hik2,← List.getD_eq_getElem?_getD];exact e1
    ·have hi2:i=k:=by simp at hi;omega
     subst hi2;refine⟨g,off,c2,?_,hm1,hm2,hne,hrow.grownB (zac _ _ _) hne,HPK.out⟩;rw[List.getD_eq_getElem?_getD,List.getElem?_append_right (by omega),hzk,Nat.sub_self]
     rfl
   ·go_wp2
    exact⟨rfl,.inr ⟨fun h=>hnp (h k HK.out.1),rfl,zaa HFL.out.gr hg⟩⟩
  ·have hkn:k=n:=by omega
   subst hkn;have t1:decide (k<k)=false:=by simp
   have t1':decide ((k:Int)<(k:Int))=false:=by simp
   have HFL:=zHd hfill;have HK:=zHd hzk;have HR:=zHd hrows;rw[hzk];clear hrows;clear hfill hk hle hzk;go_wp2;go_ret;have hzk:=HK.out;exact .inl ⟨fun i hi=>by obtain⟨_,_,_,_,_,_,_,_,h⟩:=HR.out i (by omega);exact h,_,rfl,⟨zs,rfl,hzk,HFL.out.rowAt hzk,fun i hi=>by obtain⟨gi,oi,ci,e1,e2,e3,e4,e5,e6⟩:=HR.out i (by omega);exact⟨gi,oi,ci,e1,e2,e3,e4,e5⟩⟩,HFL.out.gr⟩
theorem zut (F:Nat)(he:Enters F)(first cap:Array Value)(n:Nat)(V:Nat→Value)(P:Nat→Prop)(G:Nat→ByteArray)(lv:Value)(w:World)(hn:n≤10000)(hl:RowR w lv n V)
  (hF:∀ i,i<n→∀ w',w.grownBy w' none→Calls Tryz.prog F (first++#[V i]++cap) w' (zsx (P i) (.string (G i)) w')) :
  Calls Tryz.prog 165 #[lv,.func (.func F) first cap] w (ziU (∀ i,i<n→P i) n G w):=by
 obtain⟨Ad,c,rfl,h1,h2,h3⟩:=hl;obtain⟨i0,hi,hz0,hz1,hz2⟩:=info_parts zdt;have HE:=zHd he;have HF:=zHd hF;have HL:=zHd h3;have HN:=zHd hn;clear he hF h3 h1 h2 hn;go_enter Tryz.func165,Tryz.ntmps165;go_wp2_with (at_make;refine wpList_make_full _ rfl _ _ 33 rfl w.heap.size 9 i0 (.string ⟨#[]⟩) 1 Tryz.underlying33 hi hz0 hz1 _ _ _ _ n rfl rfl ?c0 ?c1 ?c2 (by have:=HN.out;unfold maxLen;omega) (Nat.le_refl _) ?_)
 case c0=>omega
 case c1=>omega
 case c2=>have:=HN.out;first|omega|(rw[hz2];omega)
 intro w1 hown hgr;have hfill:=zaq.start hown hgr;have HW:=zHd hfill;clear hown hgr hfill;go_wp2
 go_loopw [13] (fun iv wr=>∃ k:Nat,iv = .int .i64 (k:Int)∧k≤n∧zaq 9 (.string ⟨#[]⟩) n (zfn G k) w wr∧∀ i,i<k→P i) (fun iv _=>n - (intOf iv).toNat)
 case atStart=>exact⟨0,rfl,Nat.zero_le _,HW.out,fun i hi=>absurd hi (by omega)⟩
 case round =>
  obtain⟨k,rfl,hle,hfill,hps⟩:=hrel;have HPS:=zHd hps;clear hps;have hzk:=zhE G k
  by_cases hk:k<n
  ·obtain⟨ad,rfl,hb,hc⟩:=HL.out k hk
   have hc2:wr.cell? (ad.add k)=some (V k):=(zap (ad:=ad.add k) (by rw[zaj];exact hfill.gr.block ad.block hb (by simp))).trans hc;have t1:decide (k<n)=true:=by simpa using hk
   have t1':decide ((k:Int)<(n:Int))=true:=by simpa using hk
   have hik:(k:Int)<(n:Int):=by omega
   have n1:IntKind.i64.wrap ((k:Int)+1)=(k:Int)+1:=by have:=HN.out;rw[IntKind.wrap_i64];omega
   have HFL:=zHd hfill;have HK:=zHd (zAI hk (zAI hzk hle));clear hfill hk hle hzk hb hc;go_wp2_with fail;rw[HE.out];refine(HF.out k HK.out.1 wr HFL.out.gr).mono ?_;rintro e w' (⟨hpk,rfl,hg⟩|⟨hnp,rfl,hg⟩)
   ·have HPK:=zHd hpk
    clear hpk;have hf2:=HFL.out.grown hg;have hcl:=hf2.cell (by rw[HK.out.2.1];exact HK.out.1);have hfr:=hf2.free k;rw[HK.out.2.1] at hcl;have HF2:=zHd hf2;have HG:=zHd hg;clear hf2 hg;go_wp2;obtain⟨hk,hzk,hle⟩:=HK.out;have hput:=HF2.out.put (by rw[hzk];exact hk) (.string (G k));rw[hzk,ziV] at hput;refine⟨⟨k+1,by simp,hk,hput,fun i hi => ?_⟩,by simp[intOf];omega⟩
    by_cases e:i=k
    ·subst e;exact HPK.out
    ·exact HPS.out i (by omega)
   ·go_wp2
    exact⟨rfl,.inr ⟨fun h=>hnp (h k HK.out.1),rfl,zaa HFL.out.gr hg⟩⟩
  ·have hkn:k=n:=by omega
   subst hkn;have t1:decide (k<k)=false:=by simp
   have t1':decide ((k:Int)<(k:Int))=false:=by simp
   have HFL:=zHd hfill;have HK:=zHd hzk;clear hfill hk hle hzk;go_wp2;go_ret;exact .inl ⟨HPS.out,_,rfl,⟨rfl,HFL.out.strs⟩,HFL.out.gr⟩
theorem zjA (F:Nat)(he:Enters F)(first cap:Array Value)(n:Nat)(V:Nat→Value)(P:Nat→Prop)(G:Nat→ByteArray)(lv:Value)(w:World)(hn:n≤10000)(hl:RowR w lv n V)
  (hF:∀ i,i<n→∀ w',w.grownBy w' none→Calls Tryz.prog F (first++#[V i]++cap) w' (zsx (P i) (.string (G i)) w')) :
  Calls Tryz.prog 141 #[lv,.func (.func F) first cap] w (ziU (∀ i,i<n→P i) n G w):=by
 obtain⟨Ad,c,rfl,h1,h2,h3⟩:=hl;obtain⟨i0,hi,hz0,hz1,hz2⟩:=info_parts zdt;have HE:=zHd he;have HF:=zHd hF;have HL:=zHd h3;have HN:=zHd hn;clear he hF h3 h1 h2 hn;go_enter Tryz.func141,Tryz.ntmps141;go_wp2_with (at_make;refine wpList_make_full _ rfl _ _ 33 rfl w.heap.size 9 i0 (.string ⟨#[]⟩) 1 Tryz.underlying33 hi hz0 hz1 _ _ _ _ n rfl rfl ?c0 ?c1 ?c2 (by have:=HN.out;unfold maxLen;omega) (Nat.le_refl _) ?_)
 case c0=>omega
 case c1=>omega
 case c2=>have:=HN.out;first|omega|(rw[hz2];omega)
 intro w1 hown hgr;have hfill:=zaq.start hown hgr;have HW:=zHd hfill;clear hown hgr hfill;go_wp2
 go_loopw [13] (fun iv wr=>∃ k:Nat,iv = .int .i64 (k:Int)∧k≤n∧zaq 9 (.string ⟨#[]⟩) n (zfn G k) w wr∧∀ i,i<k→P i) (fun iv _=>n - (intOf iv).toNat)
 case atStart=>exact⟨0,rfl,Nat.zero_le _,HW.out,fun i hi=>absurd hi (by omega)⟩
 case round =>
  obtain⟨k,rfl,hle,hfill,hps⟩:=hrel;have HPS:=zHd hps;clear hps;have hzk:=zhE G k
  by_cases hk:k<n
  ·obtain⟨ad,rfl,hb,hc⟩:=HL.out k hk
   have hc2:wr.cell? (ad.add k)=some (V k):=(zap (ad:=ad.add k) (by rw[zaj];exact hfill.gr.block ad.block hb (by simp))).trans hc;have t1:decide (k<n)=true:=by simpa using hk
   have t1':decide ((k:Int)<(n:Int))=true:=by simpa using hk
   have hik:(k:Int)<(n:Int):=by omega
   have n1:IntKind.i64.wrap ((k:Int)+1)=(k:Int)+1:=by have:=HN.out;rw[IntKind.wrap_i64];omega
   have HFL:=zHd hfill;have HK:=zHd (zAI hk (zAI hzk hle));clear hfill hk hle hzk hb hc;go_wp2_with fail;rw[HE.out];refine(HF.out k HK.out.1 wr HFL.out.gr).mono ?_;rintro e w' (⟨hpk,rfl,hg⟩|⟨hnp,rfl,hg⟩)
   ·have HPK:=zHd hpk
    clear hpk;have hf2:=HFL.out.grown hg;have hcl:=hf2.cell (by rw[HK.out.2.1];exact HK.out.1);have hfr:=hf2.free k;rw[HK.out.2.1] at hcl;have HF2:=zHd hf2;have HG:=zHd hg;clear hf2 hg;go_wp2;obtain⟨hk,hzk,hle⟩:=HK.out;have hput:=HF2.out.put (by rw[hzk];exact hk) (.string (G k));rw[hzk,ziV] at hput;refine⟨⟨k+1,by simp,hk,hput,fun i hi => ?_⟩,by simp[intOf];omega⟩
    by_cases e:i=k
    ·subst e;exact HPK.out
    ·exact HPS.out i (by omega)
   ·go_wp2
    exact⟨rfl,.inr ⟨fun h=>hnp (h k HK.out.1),rfl,zaa HFL.out.gr hg⟩⟩
  ·have hkn:k=n:=by omega
   subst hkn;have t1:decide (k<k)=false:=by simp
   have t1':decide ((k:Int)<(k:Int))=false:=by simp
   have HFL:=zHd hfill;have HK:=zHd hzk;clear hfill hk hle hzk;go_wp2;go_ret;exact .inl ⟨HPS.out,_,rfl,⟨rfl,HFL.out.strs⟩,HFL.out.gr⟩
theorem zjB (F:Nat)(he:Enters F)(first cap:Array Value)(n m2:Nat)(V V2:Nat→Value)(P:Nat→Prop)(G:Nat→ByteArray)(lv rv:Value)(w:World)(hn:n≤10000)(hl:RowR w lv n V)(hr:RowR w rv m2 V2)(hm2:n≤m2)
  (hF:∀ i,i<n→∀ w',w.grownBy w' none→Calls Tryz.prog F (first++(#[V i,V2 i]++cap)) w' (zsx (P i) (.string (G i)) w')) :
  Calls Tryz.prog 86 #[lv,rv,.func (.func F) first cap] w (ziU (∀ i,i<n→P i) n G w):=by
 obtain⟨Ad,c,rfl,h1,h2,h3⟩:=hl;obtain⟨Ad2,c',rfl,h1',h2',h3'⟩:=hr;obtain⟨i0,hi,hz0,hz1,hz2⟩:=info_parts zdt;have HE:=zHd he;have HF:=zHd hF;have HL:=zHd h3;have HN:=zHd hn;clear he hF h3 h1 h2 hn;have HL2:=zHd h3';have HM2:=zHd hm2;clear h1' h2' h3' hm2;go_enter Tryz.func86,Tryz.ntmps86;go_wp2_with (at_make;refine wpList_make_full _ rfl _ _ 33 rfl w.heap.size 9 i0 (.string ⟨#[]⟩) 1 Tryz.underlying33 hi hz0 hz1 _ _ _ _ n rfl rfl ?c0 ?c1 ?c2 (by have:=HN.out;unfold maxLen;omega) (Nat.le_refl _) ?_)
 case c0=>omega
 case c1=>omega
 case c2=>have:=HN.out;first|omega|(rw[hz2];omega)
 intro w1 hown hgr;have hfill:=zaq.start hown hgr;have HW:=zHd hfill;clear hown hgr hfill;go_wp2
 go_loopw [15] (fun iv wr=>∃ k:Nat,iv = .int .i64 (k:Int)∧k≤n∧zaq 9 (.string ⟨#[]⟩) n (zfn G k) w wr∧∀ i,i<k→P i) (fun iv _=>n - (intOf iv).toNat)
 case atStart=>exact⟨0,rfl,Nat.zero_le _,HW.out,fun i hi=>absurd hi (by omega)⟩
 case round =>
  obtain⟨k,rfl,hle,hfill,hps⟩:=hrel;have HPS:=zHd hps;clear hps;have hzk:=zhE G k
  by_cases hk:k<n
  ·obtain⟨ad,rfl,hb,hc⟩:=HL.out k hk
   have hc2:wr.cell? (ad.add k)=some (V k):=(zap (ad:=ad.add k) (by rw[zaj];exact hfill.gr.block ad.block hb (by simp))).trans hc;obtain⟨ad2,rfl,hb2,hc3⟩:=HL2.out k (Nat.lt_of_lt_of_le hk HM2.out);have hc4:wr.cell? (ad2.add k)=some (V2 k):=(zap (ad:=ad2.add k) (by rw[zaj];exact hfill.gr.block ad2.block hb2 (by simp))).trans hc3;have hik2':(k:Int)<(m2:Int):=by have:=HM2.out;omega
   clear hb2 hc3;have t1:decide (k<n)=true:=by simpa using hk
   have t1':decide ((k:Int)<(n:Int))=true:=by simpa using hk
   have hik:(k:Int)<(n:Int):=by omega
   have n1:IntKind.i64.wrap ((k:Int)+1)=(k:Int)+1:=by have:=HN.out;rw[IntKind.wrap_i64];omega
   have HFL:=zHd hfill;have HK:=zHd (zAI hk (zAI hzk hle));clear hfill hk hle hzk hb hc;go_wp2_with fail;rw[HE.out];refine(HF.out k HK.out.1 wr HFL.out.gr).mono ?_;rintro e w' (⟨hpk,rfl,hg⟩|⟨hnp,rfl,hg⟩)
   ·have HPK:=zHd hpk
    clear hpk;have hf2:=HFL.out.grown hg;have hcl:=hf2.cell (by rw[HK.out.2.1];exact HK.out.1);have hfr:=hf2.free k;rw[HK.out.2.1] at hcl;have HF2:=zHd hf2;have HG:=zHd hg;clear hf2 hg;go_wp2;obtain⟨hk,hzk,hle⟩:=HK.out;have hput:=HF2.out.put (by rw[hzk];exact hk) (.string (G k));rw[hzk,ziV] at hput;refine⟨⟨k+1,by simp,hk,hput,fun i hi => ?_⟩,by simp[intOf];omega⟩
    by_cases e:i=k
    ·subst e;exact HPK.out
    ·exact HPS.out i (by omega)
   ·go_wp2
    exact⟨rfl,.inr ⟨fun h=>hnp (h k HK.out.1),rfl,zaa HFL.out.gr hg⟩⟩
  ·have hkn:k=n:=by omega
   subst hkn;have t1:decide (k<k)=false:=by simp
   have t1':decide ((k:Int)<(k:Int))=false:=by simp
   have HFL:=zHd hfill;have HK:=zHd hzk;clear hfill hk hle hzk;go_wp2;go_ret;exact .inl ⟨HPS.out,_,rfl,⟨rfl,HFL.out.strs⟩,HFL.out.gr⟩
theorem zqT (F:Nat)(he:Enters F)(first cap:Array Value)(n m2:Nat)(V V2:Nat→Value)(m:Nat)(P:Nat→Prop)(A:Nat→Nat→Value)(lv rv:Value)(w:World)(hn:n≤10000)(hl:RowR w lv n V)(hr:RowR w rv m2 V2)(hm2:n≤m2)
  (hF:∀ i,i<n→∀ w',w.grownBy w' none→Calls Tryz.prog F (first++(#[V i,V2 i]++cap)) w' (ziS (P i) w.heap.size m (A i) w')) :
  Calls Tryz.prog 76 #[lv,rv,.func (.func F) first cap] w (ziT (∀ i,i<n→P i) n m A w):=by
 obtain⟨Ad,c,rfl,h1,h2,h3⟩:=hl;obtain⟨Ad2,c',rfl,h1',h2',h3'⟩:=hr;obtain⟨i0,hi,hz0,hz1,hz2⟩:=info_parts zcF;have HE:=zHd he;have HF:=zHd hF;have HL:=zHd h3;have HN:=zHd hn;clear he hF h3 h1 h2 hn;have HL2:=zHd h3';have HM2:=zHd hm2;clear h1' h2' h3' hm2;go_enter Tryz.func76,Tryz.ntmps76;go_wp2_with (at_make;refine wpList_make_full _ rfl _ _ 22 rfl w.heap.size 33 i0 (.slice none 0 0) 1 Tryz.underlying22 hi hz0 hz1 _ _ _ _ n rfl rfl ?c0 ?c1 ?c2 (by have:=HN.out;unfold maxLen;omega) (Nat.le_refl _) ?_)
 case c0=>omega
 case c1=>omega
 case c2=>have:=HN.out;first|omega|(rw[hz2];omega)
 intro w1 hown hgr;have hfill:=zaq.start hown hgr;have HW:=zHd hfill;clear hown hgr hfill;go_wp2
 go_loopw [15] (fun iv wr=>∃ zs:List Value,iv = .int .i64 (zs.length:Int)∧zaq 33 (.slice none 0 0) n zs w wr∧∀ i,i<zs.length→∃ gi off c,zs.getD i (.slice none 0 0) = .slice (some ⟨gi,off,none⟩) m c∧m≤c∧c≤maxLen∧gi≠w.heap.size∧zam wr gi off m (A i)∧P i) (fun iv _=>n - (intOf iv).toNat)
 case atStart=>exact⟨[],rfl,HW.out,fun i hi=>absurd hi (by simp)⟩
 case round =>
  obtain⟨zs,rfl,hfill,hrows⟩:=hrel;obtain⟨k,hzk⟩:∃ k,zs.length=k:=⟨_,rfl⟩;have hle:=hfill.le
  by_cases hk:k<n
  ·obtain⟨ad,rfl,hb,hc⟩:=HL.out k hk
   have hc2:wr.cell? (ad.add k)=some (V k):=(zap (ad:=ad.add k) (by rw[zaj];exact hfill.gr.block ad.block hb (by simp))).trans hc;obtain⟨ad2,rfl,hb2,hc3⟩:=HL2.out k (Nat.lt_of_lt_of_le hk HM2.out);have hc4:wr.cell? (ad2.add k)=some (V2 k):=(zap (ad:=ad2.add k) (by rw[zaj];exact hfill.gr.block ad2.block hb2 (by simp))).trans hc3;have hik2':(k:Int)<(m2:Int):=by have:=HM2.out;omega
   clear hb2 hc3;have t1:decide (k<n)=true:=by simpa using hk
   have t1':decide ((k:Int)<(n:Int))=true:=by simpa using hk
   have hik:(k:Int)<(n:Int):=by omega
   have n1:IntKind.i64.wrap ((k:Int)+1)=(k:Int)+1:=by have:=HN.out;rw[IntKind.wrap_i64];omega
   have HFL:=zHd hfill;have HK:=zHd (zAI hk (zAI hzk hle));have HR:=zHd hrows;rw[hzk];clear hrows;clear hfill hk hle hzk hb hc;go_wp2_with fail;rw[HE.out];refine(HF.out k HK.out.1 wr HFL.out.gr).mono ?_;rintro e w' (⟨hpk,v,rfl,⟨g,off,c2,rfl,hm1,hm2,hgl,hrow⟩,hg⟩|⟨hnp,rfl,hg⟩)
   ·have HPK:=zHd hpk
    clear hpk;have hf2:=HFL.out.grown hg;have hcl:=hf2.cell (by rw[HK.out.2.1];exact HK.out.1);have hfr:=hf2.free k;rw[HK.out.2.1] at hcl;have HF2:=zHd hf2;have HG:=zHd hg;have HROW:=zHd (zAI hm1 (zAI hm2 (zAI hgl hrow)));clear hf2 hg hm1 hm2 hgl hrow;go_wp2;obtain⟨hk,hzk,hle⟩:=HK.out;have hput:=HF2.out.put (by rw[hzk];exact hk) (.slice (some ⟨g,off,none⟩) m c2);rw[hzk] at hput;obtain⟨hm1,hm2,hgl,hrow⟩:=HROW.out
    have hne:g≠w.heap.size:=by
     rcases hgl with h|h
     ·omega
     ·have:=(Array.getElem?_eq_some_iff.1 HFL.out.row).1;omega
    refine⟨⟨zs++[.slice (some ⟨g,off,none⟩) m c2],by simp[hzk],hput,fun i hi => ?_⟩,by simp[intOf];omega⟩
    by_cases hik2:i<zs.length
    ·obtain⟨gi,oi,ci,e1,e2,e3,e4,e5,e6⟩:=HR.out i hik2
     refine⟨gi,oi,ci,?_,e2,e3,e4,(e5.grown HG.out).grownB (zac _ _ _) e4,e6⟩;rw[List.getD_eq_getElem?_getD,List.getElem?_append_left hik2,← List.getD_eq_getElem?_getD];exact e1
    ·have hi2:i=k:=by simp at hi;omega
     subst hi2;refine⟨g,off,c2,?_,hm1,hm2,hne,hrow.grownB (zac _ _ _) hne,HPK.out⟩;rw[List.getD_eq_getElem?_getD,List.getElem?_append_right (by omega),hzk,Nat.sub_self]
     rfl
   ·go_wp2
    exact⟨rfl,.inr ⟨fun h=>hnp (h k HK.out.1),rfl,zaa HFL.out.gr hg⟩⟩
  ·have hkn:k=n:=by omega
   subst hkn;have t1:decide (k<k)=false:=by simp
   have t1':decide ((k:Int)<(k:Int))=false:=by simp
   have HFL:=zHd hfill;have HK:=zHd hzk;have HR:=zHd hrows;rw[hzk];clear hrows;clear hfill hk hle hzk;go_wp2;go_ret;have hzk:=HK.out;exact .inl ⟨fun i hi=>by obtain⟨_,_,_,_,_,_,_,_,h⟩:=HR.out i (by omega);exact h,_,rfl,⟨zs,rfl,hzk,HFL.out.rowAt hzk,fun i hi=>by obtain⟨gi,oi,ci,e1,e2,e3,e4,e5,e6⟩:=HR.out i (by omega);exact⟨gi,oi,ci,e1,e2,e3,e4,e5⟩⟩,HFL.out.gr⟩
theorem zsy (F:Nat)(he:Enters F)(first cap:Array Value)(n m2:Nat)(V V2:Nat→Value)(m:Nat)(P:Nat→Prop)(A:Nat→Nat→Value)(lv rv:Value)(w:World)(hn:n≤10000)(hl:RowR w lv n V)(hr:RowR w rv m2 V2)(hm2:n≤m2)
  (hF:∀ i,i<n→∀ w',w.grownBy w' none→Calls Tryz.prog F (first++(#[V i,V2 i]++cap)) w' (ziS (P i) w.heap.size m (A i) w')) :
  Calls Tryz.prog 84 #[lv,rv,.func (.func F) first cap] w (ziT (∀ i,i<n→P i) n m A w):=by
 obtain⟨Ad,c,rfl,h1,h2,h3⟩:=hl;obtain⟨Ad2,c',rfl,h1',h2',h3'⟩:=hr;obtain⟨i0,hi,hz0,hz1,hz2⟩:=info_parts zcF;have HE:=zHd he;have HF:=zHd hF;have HL:=zHd h3;have HN:=zHd hn;clear he hF h3 h1 h2 hn;have HL2:=zHd h3';have HM2:=zHd hm2;clear h1' h2' h3' hm2;go_enter Tryz.func84,Tryz.ntmps84;go_wp2_with (at_make;refine wpList_make_full _ rfl _ _ 22 rfl w.heap.size 33 i0 (.slice none 0 0) 1 Tryz.underlying22 hi hz0 hz1 _ _ _ _ n rfl rfl ?c0 ?c1 ?c2 (by have:=HN.out;unfold maxLen;omega) (Nat.le_refl _) ?_)
 case c0=>omega
 case c1=>omega
 case c2=>have:=HN.out;first|omega|(rw[hz2];omega)
 intro w1 hown hgr;have hfill:=zaq.start hown hgr;have HW:=zHd hfill;clear hown hgr hfill;go_wp2
 go_loopw [15] (fun iv wr=>∃ zs:List Value,iv = .int .i64 (zs.length:Int)∧zaq 33 (.slice none 0 0) n zs w wr∧∀ i,i<zs.length→∃ gi off c,zs.getD i (.slice none 0 0) = .slice (some ⟨gi,off,none⟩) m c∧m≤c∧c≤maxLen∧gi≠w.heap.size∧zam wr gi off m (A i)∧P i) (fun iv _=>n - (intOf iv).toNat)
 case atStart=>exact⟨[],rfl,HW.out,fun i hi=>absurd hi (by simp)⟩
 case round =>
  obtain⟨zs,rfl,hfill,hrows⟩:=hrel;obtain⟨k,hzk⟩:∃ k,zs.length=k:=⟨_,rfl⟩;have hle:=hfill.le
  by_cases hk:k<n
  ·obtain⟨ad,rfl,hb,hc⟩:=HL.out k hk
   have hc2:wr.cell? (ad.add k)=some (V k):=(zap (ad:=ad.add k) (by rw[zaj];exact hfill.gr.block ad.block hb (by simp))).trans hc;obtain⟨ad2,rfl,hb2,hc3⟩:=HL2.out k (Nat.lt_of_lt_of_le hk HM2.out);have hc4:wr.cell? (ad2.add k)=some (V2 k):=(zap (ad:=ad2.add k) (by rw[zaj];exact hfill.gr.block ad2.block hb2 (by simp))).trans hc3;have hik2':(k:Int)<(m2:Int):=by have:=HM2.out;omega
   clear hb2 hc3;have t1:decide (k<n)=true:=by simpa using hk
   have t1':decide ((k:Int)<(n:Int))=true:=by simpa using hk
   have hik:(k:Int)<(n:Int):=by omega
   have n1:IntKind.i64.wrap ((k:Int)+1)=(k:Int)+1:=by have:=HN.out;rw[IntKind.wrap_i64];omega
   have HFL:=zHd hfill;have HK:=zHd (zAI hk (zAI hzk hle));have HR:=zHd hrows;rw[hzk];clear hrows;clear hfill hk hle hzk hb hc;go_wp2_with fail;rw[HE.out];refine(HF.out k HK.out.1 wr HFL.out.gr).mono ?_;rintro e w' (⟨hpk,v,rfl,⟨g,off,c2,rfl,hm1,hm2,hgl,hrow⟩,hg⟩|⟨hnp,rfl,hg⟩)
   ·have HPK:=zHd hpk
    clear hpk;have hf2:=HFL.out.grown hg;have hcl:=hf2.cell (by rw[HK.out.2.1];exact HK.out.1);have hfr:=hf2.free k;rw[HK.out.2.1] at hcl;have HF2:=zHd hf2;have HG:=zHd hg;have HROW:=zHd (zAI hm1 (zAI hm2 (zAI hgl hrow)));clear hf2 hg hm1 hm2 hgl hrow;go_wp2;obtain⟨hk,hzk,hle⟩:=HK.out;have hput:=HF2.out.put (by rw[hzk];exact hk) (.slice (some ⟨g,off,none⟩) m c2);rw[hzk] at hput;obtain⟨hm1,hm2,hgl,hrow⟩:=HROW.out
    have hne:g≠w.heap.size:=by
     rcases hgl with h|h
     ·omega
     ·have:=(Array.getElem?_eq_some_iff.1 HFL.out.row).1;omega
    refine⟨⟨zs++[.slice (some ⟨g,off,none⟩) m c2],by simp[hzk],hput,fun i hi => ?_⟩,by simp[intOf];omega⟩
    by_cases hik2:i<zs.length
    ·obtain⟨gi,oi,ci,e1,e2,e3,e4,e5,e6⟩:=HR.out i hik2
     refine⟨gi,oi,ci,?_,e2,e3,e4,(e5.grown HG.out).grownB (zac _ _ _) e4,e6⟩;rw[List.getD_eq_getElem?_getD,List.getElem?_append_left hik2,← List.getD_eq_getElem?_getD];exact e1
    ·have hi2:i=k:=by simp at hi;omega
     subst hi2;refine⟨g,off,c2,?_,hm1,hm2,hne,hrow.grownB (zac _ _ _) hne,HPK.out⟩;rw[List.getD_eq_getElem?_getD,List.getElem?_append_right (by omega),hzk,Nat.sub_self]
     rfl
   ·go_wp2
    exact⟨rfl,.inr ⟨fun h=>hnp (h k HK.out.1),rfl,zaa HFL.out.gr hg⟩⟩
  ·have hkn:k=n:=by omega
   subst hkn;have t1:decide (k<k)=false:=by simp
   have t1':decide ((k:Int)<(k:Int))=false:=by simp
   have HFL:=zHd hfill;have HK:=zHd hzk;have HR:=zHd hrows;rw[hzk];clear hrows;clear hfill hk hle hzk;go_wp2;go_ret;have hzk:=HK.out;exact .inl ⟨fun i hi=>by obtain⟨_,_,_,_,_,_,_,_,h⟩:=HR.out i (by omega);exact h,_,rfl,⟨zs,rfl,hzk,HFL.out.rowAt hzk,fun i hi=>by obtain⟨gi,oi,ci,e1,e2,e3,e4,e5,e6⟩:=HR.out i (by omega);exact⟨gi,oi,ci,e1,e2,e3,e4,e5⟩⟩,HFL.out.gr⟩
end Go.Proofs.YtaogepcaoogpgaaGreatDoor
