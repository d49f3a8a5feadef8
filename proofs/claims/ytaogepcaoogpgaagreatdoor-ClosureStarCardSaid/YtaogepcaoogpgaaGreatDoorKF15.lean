/- Part. -/
import Derived.Test.YtaogepcaoogpgaaGreatDoorTie
import Derived.Test.YtaogepcaoogpgaaGreatDoorCards
import Derived.Deep.DeepHandedRow
import Derived.Test.YtaogepcaoogpgaaGreatDoorKF14
set_option linter.unusedVariables false
set_option linter.unusedSimpArgs false
set_option maxRecDepth 100000
set_option maxHeartbeats 16000000
namespace Go.Proofs.YtaogepcaoogpgaaGreatDoor
open Go.ChangeShapes Go.WideShapes Go.ChangeAt Go.RowKit Go.Lib
theorem own:ownKnob Tryz.prog.godebug=none:=by kernel_rfl
def putCells (cs:Array Value):Obj->Obj
 | .cells _ t frozen=>.cells cs t frozen
 | o=>o
mutual
def zwz:DataW Unit->List Value
 | .lit (.int k n)=>[.int k n]
 | .agg parts=>zyW parts
 | _=>[]
def zyW:List (DataW Unit)->List Value
 | []=>[]
 | d::r=>zwz d++zyW r
end
noncomputable def laidWorld (os:Os):World :=
 { World.holding Tryz.prog os ⟨#[],#[],[]⟩ with heap:=((World.holding Tryz.prog os ⟨#[],#[],[]⟩).heap.modify 3 (putCells (zwz Rows.laid_unicode_utf8_first).toArray)).modify 4 (putCells (zwz Rows.laid_unicode_utf8_acceptRanges).toArray) }
theorem zBh {H:Type}{enc:TypeId×Value->H}{P:Program}{f:Func}{s:ChangeSpec}{apart fresh handsOn:Bool}{W W':World}{args:Array Value}{v:Value}{ds gs:List (DataW H)}{before pa pv:List MemPlace}
  (hW:DataW.Whole enc P f.params.toList s.vars apart W args.toList ds gs before)
  (hres:∀ (b:Nat) (sp:Nat->Bool) (hd:Bool),DataW.TrodAll enc P W' b sp hd f.resultTypes.toList (v.resultList f.resultTypes.size) (s.fn H (ds++gs)).results [])
  (hargs:DataW.TrodAll enc P W' 0 (fun b=>decide (b<W.heap.size)) true f.params.toList args.toList (s.fn H (ds++gs)).args pa)
  (hvars:DataW.TrodVars enc P W' (fun b=>decide (b<W.heap.size)) s.vars (s.fn H (ds++gs)).vars pv)
  (hb:Below W.heap.size W W'):s.post enc P f apart fresh handsOn false W args v W' :=
 ⟨ds,gs,before,[],pa,pv,hW,hres _ _ _,hargs,hvars,hb.frame _,fun h=>by cases h⟩
open Go.ChangeShapes Go.WideShapes Go.ChangeAt Go.RowKit Go.Lib
theorem zBi {H:Type}{enc:TypeId×Value->H}{W W':World}{t:TypeId}{v:Value}{d:DataW H}{p:List MemPlace}(hr:Tryz.prog.readableRec t=true)(hrow:t<Tryz.prog.types.size)
  (h:DataW.Trod enc Tryz.prog W 0 (fun _=>true) true t v d p) (hb:Below W.heap.size W W') (hlt:∀ x∈p,x.block<W.heap.size) :
  DataW.Trod enc Tryz.prog W' 0 (fun b=>decide (b<W.heap.size)) true t v d p:=Below.trod (by kernel_rfl) hr hrow h hb hlt
open Go.RowKit
theorem k1:zad 1:=.inl rfl
theorem k2:zad 2:=.inr (.inl rfl)
theorem k3:zad 3:=.inr (.inr rfl)
def e1 (x:Rat):El 1:=⟨.inr x,by unfold zap;rfl⟩
def e2 (x:Rat)(h:decide (0<=x)=true):El 2:=⟨.inr x,by show(decide ((2:Int)=1) || ((decide ((2:Int)=2) || decide ((2:Int)=3))&&decide (0<=x)))=true;rw[h];rfl⟩
def zwA:El 1:=⟨.inl true,rfl⟩
def li0:ByteArray:=⟨#[48]⟩
def li1:ByteArray:=⟨#[49]⟩
def li2:ByteArray:=⟨#[50]⟩
def li3:ByteArray:=⟨#[51]⟩
def li4:ByteArray:=⟨#[52]⟩
def li6:ByteArray:=⟨#[54]⟩
def li7:ByteArray:=⟨#[55]⟩
def zsl:ByteArray:=⟨#[105,110,102]⟩
def zHT:ByteArray:=⟨#[45,105,110,102]⟩
theorem zcx.congr {w:World}{v:Value}{n m:Nat}{G R:Nat->Nat->ByteArray}(h:zcx w v n (fun _=>m) G)(e:∀ i,i<n->∀ j,j<m->G i j=R i j):zcx w v n (fun _=>m) R:=by
 obtain⟨rs,h1,h2⟩:=h;refine⟨rs,h1,fun i hi=>?_⟩;obtain⟨A,c,e1,e2,e3,e4⟩:=h2 i hi;refine⟨A,c,e1,e2,e3,fun j hj=>?_⟩;obtain⟨ad,q1,q2,q3⟩:=e4 j hj;exact⟨ad,q1,q2,q3.trans (by dsimp only;rw[e i hi j hj])⟩
def tab {α:Type}(a b c d:α)(i j:Nat):α:=if i=0 then (if j=0 then a else b) else (if j=0 then c else d)
theorem zJL {α:Type}{P:α->Prop}{a b c d:α}(h:P a/\P b/\P c/\P d)(i j:Nat):P (tab a b c d i j):=by
 unfold tab;split <;> split
 ·exact h.1
 ·exact h.2.1
 ·exact h.2.2.1
 ·exact h.2.2.2
instance (v:Ext):Decidable (Fits v):=by
 rcases v with(_|_)|x
 ·exact .isTrue trivial
 ·exact .isTrue trivial
 ·show Decidable (zbp x);unfold zbp;infer_instance
instance (v:Ext):Decidable (Sh4 v):=by
 rcases v with(_|_)|x
 ·exact .isTrue trivial
 ·exact .isTrue trivial
 ·show Decidable (_<=4);infer_instance
instance {k:Int} (v:El k):Decidable (zam v):=inferInstanceAs (Decidable (Fits v.1))
def A1:Nat->Nat->El 1:=tab (e1 1) (e1 2) zwA (e1 3)
def A2:Nat->Nat->El 2:=tab (e2 (1/2) (by decide +kernel)) (e2 (1/4) (by decide +kernel)) (e2 0 (by decide +kernel)) (e2 (1/3) (by decide +kernel))
def A3:Nat->Nat->El 1:=fun _ _=>e1 (-1)
def G1:Nat->Nat->ByteArray:=tab li1 li2 zsl li3
def G2:Nat->Nat->ByteArray:=tab ⟨#[49,47,50]⟩ ⟨#[49,47,52]⟩ li0 ⟨#[49,47,51]⟩
def G3:Nat->Nat->ByteArray:=fun _ _=>⟨#[45,49]⟩
def R1:Nat->Nat->ByteArray:=tab li0 li2 zsl li0
def R2:Nat->Nat->ByteArray:=tab li2 ⟨#[51,47,52]⟩ li0 ⟨#[51,47,50]⟩
def R3:Nat->Nat->ByteArray:=fun _ _=>zHT
theorem zlC {P:Nat->Nat->Prop}(h:P 0 0/\P 0 1/\P 1 0/\P 1 1):∀ i,i<2->∀ j,j<2->P i j:=fun i hi j hj=>by
 rcases (show i=0∨i=1 by omega) with rfl|rfl <;> rcases (show j=0∨j=1 by omega) with rfl|rfl
 ·exact h.1
 ·exact h.2.1
 ·exact h.2.2.1
 ·exact h.2.2.2
theorem zBj {P:Nat->Nat->Prop}(h:P 0 0):∀ i,i<1->∀ j,j<1->P i j:=fun i hi j hj=>by
 obtain rfl:i=0:=by omega
 obtain rfl:j=0:=by omega
 exact h
theorem ex1 {w:World}{e:Ending}{w':World}(h:zjg 1 2 (fun _=>2) G1 w e w'):w.grownBy w' none/\∃ v,e=.returned (.tuple #[v,.int .i64 0])/\zcx w' v 2 (fun _=>2) R1:=by
 obtain⟨hg,v,h1,h2⟩:=zoV k1 (A0:=A1) (by omega) (zlC (by refine⟨?_,?_,?_,?_⟩ <;> decide +kernel)) (zlC (by refine⟨?_,?_,?_,?_⟩ <;> decide +kernel)) (zlC (by refine⟨?_,?_,?_,?_⟩ <;> decide +kernel)) (by decide +kernel) (fun _ _=>rfl) h;exact⟨hg,v,h1,h2.texts.congr (zlC (by refine⟨?_,?_,?_,?_⟩ <;> decide +kernel))⟩
theorem ex2 {w:World}{e:Ending}{w':World}(h:zjg 2 2 (fun _=>2) G2 w e w'):w.grownBy w' none/\∃ v,e=.returned (.tuple #[v,.int .i64 0])/\zcx w' v 2 (fun _=>2) R2:=by
 obtain⟨hg,v,h1,h2⟩:=zoV k2 (A0:=A2) (by omega) (zlC (by refine⟨?_,?_,?_,?_⟩ <;> decide +kernel)) (zlC (by refine⟨?_,?_,?_,?_⟩ <;> decide +kernel)) (zlC (by refine⟨?_,?_,?_,?_⟩ <;> decide +kernel)) (by decide +kernel) (fun _ _=>rfl) h;exact⟨hg,v,h1,h2.texts.congr (zlC (by refine⟨?_,?_,?_,?_⟩ <;> decide +kernel))⟩
theorem ex3 {w:World}{e:Ending}{w':World}(h:zjg 1 1 (fun _=>1) G3 w e w'):w.grownBy w' none/\∃ v,e=.returned (.tuple #[v,.int .i64 0])/\zcx w' v 1 (fun _=>1) R3:=by
 obtain⟨hg,v,h1,h2⟩:=zoV k1 (A0:=A3) (by omega) (zBj (by decide +kernel)) (zBj (by decide +kernel)) (zBj (by decide +kernel)) (by decide +kernel) (fun _ _=>rfl) h;exact⟨hg,v,h1,h2.texts.congr (zBj (by decide +kernel))⟩
def zbG:zak:=⟨1,0,li1,[⟨⟨#[]⟩,[⟨1,1,li2,1⟩]⟩,⟨li4,[⟨2,1,li3,1⟩]⟩]⟩
theorem zBk {a:ByteArray}{x:Rat}(h:zaw a x):wgtB 1 a=true:=zoG (v:=.inr x) ⟨h,rfl⟩
theorem val7 {a:ByteArray}{x:Rat}(h:zaw a x):Val 1 a (.inr x):=⟨h,rfl⟩
theorem r1:zaw li1 1:=⟨by decide +kernel,by decide +kernel⟩
theorem r2:zaw li2 2:=⟨by decide +kernel,by decide +kernel⟩
theorem r3:zaw li3 3:=⟨by decide +kernel,by decide +kernel⟩
theorem r4:zaw li4 4:=⟨by decide +kernel,by decide +kernel⟩
theorem zjN:validB zbG=true:=by
 unfold validB headB zbG stB6 finB arcB zbu zgd;simp[zBk r1,zBk r2,zBk r3,zBk r4];exact .inl (by decide +kernel)
theorem zne:checkC zbG=0:=by
 unfold checkC;rw[if_pos zjN];rfl
theorem zoW:zhd zbG:=⟨by decide +kernel,by decide +kernel,by decide +kernel,by decide +kernel,by decide +kernel⟩
theorem znf {x:Rat}{a:ByteArray}(h:zaw a x):vE k1 a=e1 x:=Subtype.ext (zAD k1 (val7 h))
def Am:Nat->Nat->El 1:=tab zwA (e1 2) zwA (e1 3)
def Fm (i:Nat):El 1:=if i=0 then zwA else e1 4
theorem zIl:∀ i,i<2->∀ j,j<2->arcM k1 zbG.states i j=Am i j:=zlC (by
 refine⟨?_,?_,?_,?_⟩
 all_goals
  rw[ziO];unfold arcL stA zbG;simp[znf r2,znf r3];decide +kernel)
theorem zLh:∀ i,i<2->finM k1 zbG.states i=Fm i:=fun i hi=>by
 rcases (show i=0∨i=1 by omega) with rfl|rfl
 ·unfold finM finE stF zbG Fm
  simp;decide +kernel
 ·unfold finM finE stF zbG Fm
  simp only[List.getElem?_cons_succ,List.getElem?_cons_zero,Option.map_some,Option.getD_some];rw[if_neg (by decide +kernel),znf r4];rfl
theorem zwB:toE k1 zbG.states 0=e1 6/\toE k1 zbG.states 1=e1 4:=by
 have h:=fun i (hi:i<2)=>zkD (srE 1 k1) (n:=2) (fun i j hi hj=>zIl i hi j hj) zLh hi;refine⟨(h 0 (by omega)).trans ?_,(h 1 (by omega)).trans ?_⟩ <;> decide +kernel
theorem zwC:frE k1 zbG.states li1 0 0=e1 1/\frE k1 zbG.states li1 0 1=e1 3:=by
 have hl:∀ i,i<2->leadM k1 li1 0 i=(if i=0 then e1 1 else zwA):=fun i hi=>by
  unfold leadM;rw[znf r1];rfl
 have h:=fun i (hi:i<2)=>zkD (srE 1 k1) (n:=2) (A:=fun x y=>arcM k1 zbG.states y x) (B:=fun x y=>Am y x) (fun i j hi hj=>zIl j hj i hi) hl hi;refine⟨(h 0 (by omega)).trans ?_,(h 1 (by omega)).trans ?_⟩ <;> decide +kernel
theorem zsm:zis zbG.kind zbG.states:=⟨by decide,by decide +kernel,fun i hi a ha=>by
  rcases (show i=0∨i=1 by have:i<2:=hi;omega) with rfl|rfl
  ·rw[zqbk.1 (show a∈[_] from ha)];unfold zdW;decide +kernel
  ·rw[zqbk.1 (show a∈[_] from ha)];unfold zdW;decide +kernel,fun i hi=>by
  rcases (show i=0∨i=1 by have:i<2:=hi;omega) with rfl|rfl
  ·unfold zdW;decide +kernel
  ·unfold zdW;decide +kernel⟩
theorem zyX:zdA 1 zbG.states:=(zfz zjN).sts (by decide)
theorem zJM:totE k1 (trimM zbG).states (trimM zbG).lead (trimM zbG).start.toNat=e1 7:=by
 have h:=zww (k:=1) k1 (m:=zbG) (zjo zjN);rw[h];unfold totE;show(srE 1 k1).mul (vE k1 li1) (toE k1 zbG.states 0)=e1 7;rw[znf r1,zwB.1];decide +kernel
open Go.RowKit
theorem zlD (w:World)(a b:ByteArray):zaG (w.alloc (.cells #[.string a,.string b] 9)) (.slice (some ⟨w.heap.size,0,none⟩) 2 2) 2 (fun j=>.string (if j=0 then a else b)) :=
 ⟨_,2,rfl,zqab _,by unfold maxLen;omega,fun j hj=>⟨_,rfl,by simp,by
  rw[zcl,zqat];rcases (show j=0∨j=1 by omega) with rfl|rfl
  ·exact zao w _ _ rfl
  ·exact zao w _ _ rfl⟩⟩
theorem zHU (w:World)(a:ByteArray):zaG (w.alloc (.cells #[.string a] 9)) (.slice (some ⟨w.heap.size,0,none⟩) 1 1) 1 (fun j=>.string a) :=
 ⟨_,1,rfl,zqab _,by unfold maxLen;omega,fun j hj=>⟨_,rfl,by simp,by
  rw[zcl,zqat];obtain rfl:j=0:=by omega
  exact zao w _ _ rfl⟩⟩
theorem zjO (w:World)(a b c d:ByteArray)(H1 H2:Nat)(h1:H1=w.heap.size+1)(h2:H2=w.heap.size+2) :
  zcx (((w.alloc (.cells #[.string a,.string b] 9)).alloc (.cells #[.string c,.string d] 9)).alloc (.cells #[.slice (some ⟨w.heap.size,0,none⟩) 2 2,.slice (some ⟨H1,0,none⟩) 2 2] 33)) (.slice (some ⟨H2,0,none⟩) 2 2) 2 (fun _=>2) (tab a b c d):=by
 subst h1 h2;have g1:=zGA (w.alloc (.cells #[.string a,.string b] 9)) (.cells #[.string c,.string d] 9) none;have g2:=zGA ((w.alloc (.cells #[.string a,.string b] 9)).alloc (.cells #[.string c,.string d] 9)) (.cells #[.slice (some ⟨w.heap.size,0,none⟩) 2 2,.slice (some ⟨w.heap.size+1,0,none⟩) 2 2] 33) none;have r1:=((zlD w a b).grown g1).grown g2;have r2:=(zlD (w.alloc (.cells #[.string a,.string b] 9)) c d).grown g2;have hs1:(w.alloc (.cells #[.string a,.string b] 9)).heap.size=w.heap.size+1:=by simp
 have hs2:((w.alloc (.cells #[.string a,.string b] 9)).alloc (.cells #[.string c,.string d] 9)).heap.size=w.heap.size+2:=by simp
 rw[hs1] at r2;refine⟨fun i=>if i=0 then .slice (some ⟨w.heap.size,0,none⟩) 2 2 else .slice (some ⟨w.heap.size+1,0,none⟩) 2 2,⟨_,2,rfl,zqab _,by unfold maxLen;omega,fun j hj=>⟨_,rfl,by simp,?_⟩⟩,fun i hi=>?_⟩
 ·rw[zcl,zqat,<- hs2]
  rcases (show j=0∨j=1 by omega) with rfl|rfl
  ·exact zao _ _ _ rfl
  ·exact zao _ _ _ rfl
 ·unfold tab
  rcases (show i=0∨i=1 by omega) with rfl|rfl
  ·exact r1
  ·exact r2
theorem zty (w:World)(a:ByteArray)(H1:Nat)(h1:H1=w.heap.size+1) :
  zcx ((w.alloc (.cells #[.string a] 9)).alloc (.cells #[.slice (some ⟨w.heap.size,0,none⟩) 1 1] 33)) (.slice (some ⟨H1,0,none⟩) 1 1) 1 (fun _=>1) (fun _ _=>a):=by
 subst h1;have g2:=zGA (w.alloc (.cells #[.string a] 9)) (.cells #[.slice (some ⟨w.heap.size,0,none⟩) 1 1] 33) none;have r1:=(zHU w a).grown g2;have hs1:(w.alloc (.cells #[.string a] 9)).heap.size=w.heap.size+1:=by simp
 refine⟨fun i=>.slice (some ⟨w.heap.size,0,none⟩) 1 1,⟨_,1,rfl,zqab _,by unfold maxLen;omega,fun j hj=>⟨_,rfl,by simp,?_⟩⟩,fun i hi=>r1⟩;rw[zcl,zqat,<- hs1];obtain rfl:j=0:=by omega
 exact zao _ _ _ rfl
theorem zwD {a b c d:ByteArray}(h:a.size<=9/\b.size<=9/\c.size<=9/\d.size<=9)(i j:Nat):(tab a b c d i j).size<=maxLen:=by
 have:=zJL (P:=fun x:ByteArray=>x.size<=9) h i j;unfold maxLen;omega
theorem zjr {W:World}{g k n:Nat}{xs:List Value}{t:TypeId}(h:W.heap[g]?=some (.cells xs.toArray t (0,0)))(hl:xs.length=n*k):Reads W W.heap.size k (some ⟨g,0,none⟩) n xs :=
 ⟨hl,fun _=>⟨_,rfl,(zqad.1 h).1,fun j u hu=>by
  rw[zcl,zqat,zqbw W g _ _ _ (0,0) h,zqap];exact hu⟩⟩
theorem zJN (w:World)(H:Nat)(hH:H=w.heap.size+2) :
  zdo ((((w.alloc (.cells #[.int .i64 1,.int .i64 1,.string li2,.int .i64 1] 59)).alloc (.cells #[.int .i64 2,.int .i64 1,.string li3,.int .i64 1] 59)).alloc (.cells #[.string ⟨#[]⟩,.slice (some ⟨w.heap.size,0,none⟩) 1 1,.string li4,.slice (some ⟨w.heap.size+1,0,none⟩) 1 1] 57)).alloc (.cells #[.int .i64 1,.int .i64 0,.string li1,.slice (some ⟨H,0,none⟩) 2 2] 31))
   (.agg #[.int .i64 1,.int .i64 0,.string li1,.slice (some ⟨H,0,none⟩) 2 2]) zbG:=by
 subst hH;have g1:=zGA (w.alloc (.cells #[.int .i64 1,.int .i64 1,.string li2,.int .i64 1] 59)) (.cells #[.int .i64 2,.int .i64 1,.string li3,.int .i64 1] 59) none;have g2:=zGA ((w.alloc (.cells #[.int .i64 1,.int .i64 1,.string li2,.int .i64 1] 59)).alloc (.cells #[.int .i64 2,.int .i64 1,.string li3,.int .i64 1] 59)) (.cells #[.string ⟨#[]⟩,.slice (some ⟨w.heap.size,0,none⟩) 1 1,.string li4,.slice (some ⟨w.heap.size+1,0,none⟩) 1 1] 57) none;have g3:=zGA (((w.alloc (.cells #[.int .i64 1,.int .i64 1,.string li2,.int .i64 1] 59)).alloc (.cells #[.int .i64 2,.int .i64 1,.string li3,.int .i64 1] 59)).alloc (.cells #[.string ⟨#[]⟩,.slice (some ⟨w.heap.size,0,none⟩) 1 1,.string li4,.slice (some ⟨w.heap.size+1,0,none⟩) 1 1] 57)) (.cells #[.int .i64 1,.int .i64 0,.string li1,.slice (some ⟨w.heap.size+2,0,none⟩) 2 2] 31) none;have b0:=zaE w (.cells #[.int .i64 1,.int .i64 1,.string li2,.int .i64 1] 59);have b1:=zaE (w.alloc (.cells #[.int .i64 1,.int .i64 1,.string li2,.int .i64 1] 59)) (.cells #[.int .i64 2,.int .i64 1,.string li3,.int .i64 1] 59);have b2:=zaE ((w.alloc (.cells #[.int .i64 1,.int .i64 1,.string li2,.int .i64 1] 59)).alloc (.cells #[.int .i64 2,.int .i64 1,.string li3,.int .i64 1] 59)) (.cells #[.string ⟨#[]⟩,.slice (some ⟨w.heap.size,0,none⟩) 1 1,.string li4,.slice (some ⟨w.heap.size+1,0,none⟩) 1 1] 57);have z1:(w.alloc (.cells #[.int .i64 1,.int .i64 1,.string li2,.int .i64 1] 59)).heap.size=w.heap.size+1:=by simp
 have z2:((w.alloc (.cells #[.int .i64 1,.int .i64 1,.string li2,.int .i64 1] 59)).alloc (.cells #[.int .i64 2,.int .i64 1,.string li3,.int .i64 1] 59)).heap.size=w.heap.size+2:=by simp
 rw[z1] at b1;rw[z2] at b2;have c0:=(g3.block _ (by first|(simp;omega)|simp) (by simp)).trans ((g2.block _ (by first|(simp;omega)|simp) (by simp)).trans ((g1.block w.heap.size (by simp) (by simp)).trans b0));have c1:=(g3.block _ (by first|(simp;done)|(simp;omega)) (by simp)).trans ((g2.block (w.heap.size+1) (by simp) (by simp)).trans b1);have c2:=(g3.block (w.heap.size+2) (by simp) (by simp)).trans b2;refine⟨_,rfl,some ⟨w.heap.size+2,0,none⟩,2,[.slice (some ⟨w.heap.size,0,none⟩) 1 1,.slice (some ⟨w.heap.size+1,0,none⟩) 1 1],rfl,rfl,zjr c2 rfl,fun i s u hs hu=>?_⟩;have hi:i<2:=(zqae.1 hs).1;rcases (show i=0∨i=1 by omega) with rfl|rfl
 ·simp only[zbG,List.getElem?_cons_zero,Option.some.injEq] at hs hu
  subst hs hu;exact⟨_,1,rfl,zjr (xs:=([⟨1,1,li2,1⟩]:List zaN).flatMap zeB) c0 rfl⟩
 ·simp only[zbG,List.getElem?_cons_succ,List.getElem?_cons_zero,Option.some.injEq] at hs hu
  subst hs hu;exact⟨_,1,rfl,zjr (xs:=([⟨2,1,li3,1⟩]:List zaN).flatMap zeB) c1 rfl⟩
theorem zJO (w:World)(H:Nat):zeR ((((w.alloc (.cells #[.int .i64 1,.int .i64 1,.string li2,.int .i64 1] 59)).alloc (.cells #[.int .i64 2,.int .i64 1,.string li3,.int .i64 1] 59)).alloc (.cells #[.string ⟨#[]⟩,.slice (some ⟨w.heap.size,0,none⟩) 1 1,.string li4,.slice (some ⟨w.heap.size+1,0,none⟩) 1 1] 57)).alloc (.cells #[.int .i64 1,.int .i64 0,.string li1,.slice (some ⟨H,0,none⟩) 2 2] 31)) (w.heap.size+3) 1 0 li1 (some ⟨H,0,none⟩) 2 2:=by
 have h:=zeR.new (((w.alloc (.cells #[.int .i64 1,.int .i64 1,.string li2,.int .i64 1] 59)).alloc (.cells #[.int .i64 2,.int .i64 1,.string li3,.int .i64 1] 59)).alloc (.cells #[.string ⟨#[]⟩,.slice (some ⟨w.heap.size,0,none⟩) 1 1,.string li4,.slice (some ⟨w.heap.size+1,0,none⟩) 1 1] 57)) 1 0 li1 (some ⟨H,0,none⟩) 2 2;rw[show(((w.alloc (.cells #[.int .i64 1,.int .i64 1,.string li2,.int .i64 1] 59)).alloc (.cells #[.int .i64 2,.int .i64 1,.string li3,.int .i64 1] 59)).alloc (.cells #[.string ⟨#[]⟩,.slice (some ⟨w.heap.size,0,none⟩) 1 1,.string li4,.slice (some ⟨w.heap.size+1,0,none⟩) 1 1] 57)).heap.size=w.heap.size+3 by simp] at h;exact h
theorem zyY {w:World}{v:Value}{f:Nat->El 1}{a b:ByteArray}(h:zaG w v 2 (txs f))(h0:tx (f 0)=a)(h1:tx (f 1)=b):zaG w v 2 (fun j=>.string (if j=0 then a else b)):=by
 obtain⟨A,c,e1,e2,e3,e4⟩:=h;refine⟨A,c,e1,e2,e3,fun j hj=>?_⟩;obtain⟨ad,q1,q2,q3⟩:=e4 j hj;refine⟨ad,q1,q2,q3.trans ?_⟩;unfold txs;rcases (show j=0∨j=1 by omega) with rfl|rfl
 ·rw[h0];rfl
 ·rw[h1];rfl
theorem zJP {w:World}{e:Ending}{w':World}(h:zwf zbG w e w'):w.grownBy w' none/\∃ v,e=.returned (.tuple #[v,.int .i64 0])/\zaG w' v 2 (fun j=>.string (if j=0 then li6 else li4)):=by
 rcases h with⟨hn,_⟩|⟨_,hk,hg,⟨_,v,h1,h2⟩|⟨hn,_⟩⟩
 ·exact absurd zne hn
 ·exact⟨hg,v,h1,zyY h2 (by rw[show toE hk zbG.states 0=e1 6 from zwB.1];decide +kernel) (by rw[show toE hk zbG.states 1=e1 4 from zwB.2];decide +kernel)⟩
 ·exact absurd (zEO k1 zsm zyX) hn
theorem zEQ {w:World}{e:Ending}{w':World}(h:zoS zbG w e w'):w.grownBy w' none/\∃ v,e=.returned (.tuple #[v,.int .i64 0])/\zaG w' v 2 (fun j=>.string (if j=0 then li1 else li3)):=by
 rcases h with⟨hn,_⟩|⟨_,hk,hg,⟨_,v,h1,h2⟩|⟨hn,_⟩⟩
 ·exact absurd zne hn
 ·exact⟨hg,v,h1,zyY h2 (by rw[show frE hk zbG.states zbG.lead zbG.start.toNat 0=e1 1 from zwC.1];decide +kernel) (by rw[show frE hk zbG.states zbG.lead zbG.start.toNat 1=e1 3 from zwC.2];decide +kernel)⟩
 ·exact absurd (zHS k1 (s0:=0) zsm zyX ⟨_,val7 r1⟩ (by unfold zdW;decide +kernel)) hn
theorem zHV {w:World}{e:Ending}{w':World}(h:zna zbG w e w'):w.grownBy w' none/\e=.returned (.tuple #[.string li7,.int .i64 0]):=by
 rcases h with⟨hn,_⟩|⟨_,hk,hg,⟨_,h1⟩|⟨hn,_⟩⟩
 ·exact absurd zne hn
 ·refine⟨hg,h1.trans ?_⟩
  rw[show totE hk (trimM zbG).states (trimM zbG).lead (trimM zbG).start.toNat=e1 7 from zJM];exact zqbz (fun a=>Ending.returned (.tuple #[.string a,.int .i64 0])) (show tx (k:=1) (e1 7)=li7 by decide +kernel)
 ·exact absurd (zEP (m:=zbG) k1 zjN zsm (by unfold zdW;decide +kernel)) hn
theorem zhR (n:Nat)(l:Nat->Nat)(X:Nat->Nat->ByteArray):zEh n n l l X X:=⟨rfl,fun _ _=>⟨rfl,fun _ _=>rfl⟩⟩
theorem zdi (w:World):Calls Tryz.prog 11 #[] w (fun e w'=>e=.returned (.bool true)/\w.grownBy w' none):=by
 go_enter Tryz.func11,Tryz.ntmps11;go_wp2_with fail;refine(zjh 1 2 (fun _=>2) G1 _ _ (by omega) (zjO w li1 li2 zsl li3 _ _ rfl rfl) (zwD (by decide +kernel))).mono ?_;intro e w1 hq;obtain⟨hg,v1,rfl,hm1⟩:=ex1 hq;have H1:=zHd (zAI hm1 (zaa (zaa (zaa (zGA w (.cells #[.string li1,.string li2] 9) none) (zGA _ (.cells #[.string zsl,.string li3] 9) none)) (zGA _ _ none)) hg));clear hq hm1 hg;go_wp2_with fail;refine(zjh 2 2 (fun _=>2) G2 _ _ (by omega) (zjO w1 ⟨#[49,47,50]⟩ ⟨#[49,47,52]⟩ li0 ⟨#[49,47,51]⟩ _ _ rfl rfl) (zwD (by decide +kernel))).mono ?_;intro e w2 hq;obtain⟨hg,v2,rfl,hm2⟩:=ex2 hq;have H2:=zHd (zAI hm2 (zaa (zaa (zaa (zGA w1 (.cells #[.string ⟨#[49,47,50]⟩,.string ⟨#[49,47,52]⟩] 9) none) (zGA _ (.cells #[.string li0,.string ⟨#[49,47,51]⟩] 9) none)) (zGA _ _ none)) hg));clear hq hm2 hg;go_wp2_with fail;refine(zjh 1 1 (fun _=>1) G3 _ _ (by omega) (zty w2 ⟨#[45,49]⟩ _ rfl) (fun _ _=>by show(⟨#[45,49]⟩:ByteArray).size<=maxLen;decide +kernel)).mono ?_;intro e w3 hq;obtain⟨hg,v3,rfl,hm3⟩:=ex3 hq;have H3:=zHd (zAI hm3 (zaa (zaa (zGA w2 (.cells #[.string ⟨#[45,49]⟩] 9) none) (zGA _ _ none)) hg));clear hq hm3 hg;go_wp2_with fail;have hgm:=zaa (zaa (zaa (zGA w3 (.cells #[.int .i64 1,.int .i64 1,.string li2,.int .i64 1] 59) none) (zGA _ (.cells #[.int .i64 2,.int .i64 1,.string li3,.int .i64 1] 59) none)) (zGA _ (.cells #[.string ⟨#[]⟩,.slice (some ⟨w3.heap.size,0,none⟩) 1 1,.string li4,.slice (some ⟨w3.heap.size+1,0,none⟩) 1 1] 57) none)) (zGA _ (.cells #[.int .i64 1,.int .i64 0,.string li1,.slice (some ⟨w3.heap.size+1+1,0,none⟩) 2 2] 31) none);have hmv:=zJN w3 (w3.heap.size+1+1) rfl;have hbx:=zJO w3 (w3.heap.size+1+1);have HG:=zHd hgm;have HMV:=zHd hmv;have HBX:=zHd hbx;clear hgm hmv hbx;refine(zKK HMV.out zoW).mono ?_;intro e w4 hq;obtain⟨hg4,v4,rfl,hr4⟩:=zJP hq;obtain⟨x0,x1,x2,x3⟩:=HBX.out.grown hg4;have HMV4:=zHd (HMV.out.below (zcM hg4));have H4:=zHd (zAI hr4 (zaa HG.out hg4));have HBX4:=zHd (HBX.out.grown hg4);clear hq hr4 hg4 HMV HBX HG;go_wp2_with fail;refine(zHH HMV4.out zoW).mono ?_;intro e w5 hq;obtain⟨hg5,v5,rfl,hr5⟩:=zEQ hq;obtain⟨y0,y1,y2,y3⟩:=HBX4.out.grown hg5;have HMV5:=zHd (HMV4.out.below (zcM hg5));have H5:=zHd (zAI hr5 hg5);clear hq hr5 hg5 HMV4 HBX4 x0 x1 x2 x3;go_wp2_with fail;refine(zEH HMV5.out zoW).mono ?_;intro e w6 hq;obtain⟨hg6,rfl⟩:=zHV hq;have H6:=zHd hg6;clear hq hg6 HMV5 y0 y1 y2 y3;go_wp2_with fail;have G6:=zHd (zaa (zaa (zaa H6.out (zGA w6 (.cells #[.string li0,.string li2] 9) none)) (zGA _ (.cells #[.string zsl,.string li0] 9) none)) (zGA _ (.cells #[.slice (some ⟨w6.heap.size,0,none⟩) 2 2,.slice (some ⟨w6.heap.size+1,0,none⟩) 2 2] 33) none));refine(zfU 2 2 (fun _=>2) (fun _=>2) R1 R1 _ _ _ (by omega) (by omega) (by intros;omega) (by intros;omega) (((((H1.out.1.grown H2.out.2).grown H3.out.2).grown H4.out.2).grown H5.out.2).grown G6.out) (zjO w6 li0 li2 zsl li0 _ _ rfl rfl)).mono ?_;rintro e w7 ⟨b,rfl,hb,hg7⟩;obtain rfl:=hb.2 (zhR 2 (fun _=>2) R1);have H7:=zHd (zaa G6.out hg7);clear hb hg7 G6;go_wp2_with fail;have G7:=zHd (zaa (zaa (zaa H7.out (zGA w7 (.cells #[.string li2,.string ⟨#[51,47,52]⟩] 9) none)) (zGA _ (.cells #[.string li0,.string ⟨#[51,47,50]⟩] 9) none)) (zGA _ (.cells #[.slice (some ⟨w7.heap.size,0,none⟩) 2 2,.slice (some ⟨w7.heap.size+1,0,none⟩) 2 2] 33) none));refine(zfU 2 2 (fun _=>2) (fun _=>2) R2 R2 _ _ _ (by omega) (by omega) (by intros;omega) (by intros;omega) ((((H2.out.1.grown H3.out.2).grown H4.out.2).grown H5.out.2).grown G7.out) (zjO w7 li2 ⟨#[51,47,52]⟩ li0 ⟨#[51,47,50]⟩ _ _ rfl rfl)).mono ?_;rintro e w8 ⟨b,rfl,hb,hg8⟩;obtain rfl:=hb.2 (zhR 2 (fun _=>2) R2);have H8:=zHd (zaa G7.out hg8);clear hb hg8 G7;go_wp2_with fail;have G8:=zHd (zaa (zaa H8.out (zGA w8 (.cells #[.string zHT] 9) none)) (zGA _ (.cells #[.slice (some ⟨w8.heap.size,0,none⟩) 1 1] 33) none));refine(zfU 1 1 (fun _=>1) (fun _=>1) R3 R3 _ _ _ (by omega) (by omega) (by intros;omega) (by intros;omega) (((H3.out.1.grown H4.out.2).grown H5.out.2).grown G8.out) (zty w8 zHT _ rfl)).mono ?_;rintro e w9 ⟨b,rfl,hb,hg9⟩;obtain rfl:=hb.2 (zhR 1 (fun _=>1) R3);have H9:=zHd (zaa G8.out hg9);clear hb hg9 G8;go_wp2_with fail;have G9:=zHd (zaa H9.out (zGA w9 (.cells #[.string li6,.string li4] 9) none));refine(zmR 2 2 (fun j=>if j=0 then li6 else li4) (fun j=>if j=0 then li6 else li4) _ _ _ (by omega) (by omega) ((H4.out.1.grown H5.out.2).grown G9.out) (zlD w9 li6 li4)).mono ?_;rintro e wa ⟨b,rfl,hb,hga⟩;obtain rfl:=hb.2 ⟨rfl,fun _ _=>rfl⟩;have HA:=zHd (zaa G9.out hga);clear hb hga G9;go_wp2_with fail;have GA:=zHd (zaa HA.out (zGA wa (.cells #[.string li1,.string li3] 9) none));refine(zmR 2 2 (fun j=>if j=0 then li1 else li3) (fun j=>if j=0 then li1 else li3) _ _ _ (by omega) (by omega) (H5.out.1.grown GA.out) (zlD wa li1 li3)).mono ?_;rintro e wb ⟨b,rfl,hb,hgb⟩;obtain rfl:=hb.2 ⟨rfl,fun _ _=>rfl⟩;have HB:=zHd (zaa GA.out hgb);clear hb hgb GA;go_wp2_with fail;rw[show(li7.toList==[55])=true by decide +kernel];exact zqby (v:=.bool true) (by simp[results,Tryz.results11,go_sem]) rfl ⟨rfl,zaa H1.out.2 (zaa H2.out.2 (zaa H3.out.2 (zaa H4.out.2 (zaa H5.out.2 HB.out))))⟩
open Go.RowKit
def e3 (x:Rat)(h:decide (0<=x)=true):El 3:=⟨.inr x,by show(decide ((3:Int)=1) || ((decide ((3:Int)=2) || decide ((3:Int)=3))&&decide (0<=x)))=true;rw[h];rfl⟩
def K2:Nat->Nat->El 2:=fun _ _=>e2 1 (by decide +kernel)
open Go.RowKit
theorem zyZ {k:Int}{u:El k}(h:zam u):(tx u).size<=maxLen:=by
 have:=zlf h;obtain⟨v,hv⟩:=u;rcases v with(_|_)|x
 ·exact zrp
 ·exact zro
 ·exact ziG (show zaw _ x from this)
theorem zbf {w w':World}(o:Option Nat)(h:w.grownBy w' none):w.grownBy w' o:=⟨h.os,h.tape,h.output,h.size,fun i hi _=>h.block i hi (by simp)⟩
theorem zJQ {w:World}{b:Nat}{u0 u1 v:Value}{T:TypeId}(h:w.heap[b]?=some (.cells #[u0,u1] T (0,0))):(w.setCell ⟨b,1,none⟩ v).heap[b]?=some (.cells #[u0,v] T (0,0)):=by
 rw[heap_setCell_same w b 1 _ _ v h];rfl
open Go.RowKit
theorem zxL {w w':World}{b:Nat}(h:w.grownBy w' (some b))(hb:w.heap.size<=b):w.grownBy w' none:=⟨h.os,h.tape,h.output,h.size,fun i hi _=>h.block i hi (by simp;omega)⟩
open Go.RowKit
theorem zfe (k:Int)(n:Nat)(ln:Nat->Nat)(G:Nat->Nat->ByteArray)(av:Value)(w:World)(hn:n<=10000)(ha:zcx w av n ln G)(hs:∀ i j,(G i j).size<=maxLen) :
  Calls Tryz.prog 13 #[.int .i64 k,av] w (zbV (zjf k n ln G) w):=by
 obtain⟨rs,⟨A,c,rfl,ha1,ha2,ha3⟩,hr⟩:=ha;have HA:=zHd ha3;have HR:=zHd hr;have HN:=zHd hn;have HS:=zHd hs
 by_cases hk:zad k
 rotate_left 1
 ·have HK:=zHd (znB (k:=k) hk)
  have HKN:=zHd hk;clear ha3 hr hn hs hk;go_enter Tryz.func13,Tryz.ntmps13;go_wp2_with fail;refine(HK.out _).mono ?_;rintro e w' ⟨rfl,rfl⟩;go_wp2;go_ret;exact zbV.no (fun h=>HKN.out h.1) (World.grownBy.refl _ _)
 ·have HK:=zHd (zhw (k:=k) hk)
  have HKY:=zHd hk;clear ha3 hr hn hs hk;go_enter Tryz.func13,Tryz.ntmps13;go_wp2_with fail;refine(HK.out _).mono ?_;rintro e w' ⟨rfl,rfl⟩;go_wp2_with fail
  go_loopw [5] (fun iv wr=>∃ i:Nat,i<=n/\iv=.int .i64 (i:Int)/\w.grownBy wr none/\∀ x,x<i->ln x=n/\∀ y,y<n->∃ v,Val k (G x y) v) (fun iv _=>n-(intOf iv).toNat)
  case atStart=>exact⟨0,zqaw _,rfl,World.grownBy.refl _ _,fun x hx=>absurd hx (by omega)⟩
  case round =>
   obtain⟨i,hi,rfl,hg,hx⟩:=hrel
   by_cases hin:i<n
   ·obtain⟨ad,rfl,hb,hc⟩:=HA.out i hin
    obtain⟨Ai,ci,hre,hi1,hi2,hi3⟩:=HR.out i hin;rw[hre] at hc;have q1:wr.cell? (ad.add i)=some (.slice Ai (ln i) ci):=(zaD (ad:=ad.add i) (by rw[zau];exact hg.block ad.block hb (by simp))).trans hc;have u1:decide (i<n)=true:=(by simpa using hin);have u1':decide ((i:Int)<(n:Int))=true:=(by simpa using hin);have hit:(i:Int)<(n:Int):=(by omega);have hi0:(0:Int)<=(i:Int):=(by omega);have n1:IntKind.i64.wrap ((i:Int)+1)=(i:Int)+1:=by have:=HN.out;rw[zqah];omega
    by_cases hl:ln i=n
    rotate_left 1
    ·have HI:=zHd (zAI hin (zAI hg hl))
     have u2:((ln i:Int) != (n:Int))=true:=(by simp[bne];omega);clear hi hin hg hx hb hc hre hi1 hi2 hi3 hl;go_wp2;go_ret;exact zbV.no (fun h=>HI.out.2.2 (h.2.1 i HI.out.1)) HI.out.2.1
    ·have u2:((n:Int) != (n:Int))=false:=by simp
     rw[hl] at q1 hi3;have HI:=zHd (zAI hin (zAI hg (zAI hx hl)));have H3:=zHd hi3;have HQ:=zHd q1;clear hi hin hg hx hb hc hre hi1 hi2 hi3 hl;go_wp2;generalize wr=wq at *
     go_loopw [6] (fun jv wr=>∃ y:Nat,y<=n/\jv=.int .i64 (y:Int)/\wq.grownBy wr none/\∀ x,x<y->∃ v,Val k (G i x) v) (fun jv _=>n-(intOf jv).toNat)
     case atStart=>exact⟨0,zqaw _,rfl,World.grownBy.refl _ _,fun x hx=>absurd hx (by omega)⟩
     case round =>
      obtain⟨y,hy,rfl,hg,hv⟩:=hrel
      by_cases hyn:y<n
      ·obtain⟨rd,rfl,hrb,hrc⟩:=H3.out y hyn
       have hgw:=zaa HI.out.2.1 hg;have d1:wr.cell? (ad.add i)=some (.slice (some rd) n ci):=hg.cell HQ.out (by simp);have d2:wr.cell? (rd.add y)=some (.string (G i y)):=hgw.cell hrc (by simp);have v1:decide (y<n)=true:=(by simpa using hyn);have v1':decide ((y:Int)<(n:Int))=true:=(by simpa using hyn);have hyt:(y:Int)<(n:Int):=(by omega);have hy0:(0:Int)<=(y:Int):=(by omega);have n2:IntKind.i64.wrap ((y:Int)+1)=(y:Int)+1:=by have:=HN.out;rw[zqah];omega
       have hvb:∃ b:Bool,(b=true↔∃ v,Val k (G i y) v)/\VB 46 k (G i y) b:=by
        rcases zCo k (G i y) with⟨v,h⟩|h
        ·exact⟨true,⟨fun _=>⟨v,h⟩,fun _=>rfl⟩,zeY h⟩
        ·exact⟨false,⟨fun e=>by simp at e,fun⟨v,e⟩=>absurd e.has (by rw[h v e.e];simp)⟩,zLb h (HS.out i y)⟩
       obtain⟨b,hb1,hb2⟩:=hvb;have HV:=zHd hb1;have HC:=zHd hb2;have HJ:=zHd (zAI hyn (zAI hg (zAI hgw hv)));clear hy hyn hg hv hgw hb1 hb2 hrb hrc q1;go_wp2_with fail;refine(HC.out _).mono ?_;rintro e w5 ⟨rfl,hg5⟩;have H5:=zHd hg5;clear hg5;cases b
       ·go_wp2
        go_ret;refine zbV.no (fun h=>?_) (zaa HJ.out.2.2.1 H5.out);have:=HV.out.2 (h.2.2 i y HI.out.1 HJ.out.1);simp at this
       ·go_wp2
        refine⟨⟨y+1,HJ.out.1,by simp,zaa HJ.out.2.1 H5.out,fun x hx=>?_⟩,by have:=HJ.out.1;simp[intOf];omega⟩
        by_cases e:x<y
        ·exact HJ.out.2.2.2 x e
        ·rw[show x=y by omega];exact HV.out.1 (by simp)
      ·obtain rfl:y=n:=by omega
       have v1:decide (y<y)=false:=(by simp);have v1':decide ((y:Int)<(y:Int))=false:=(by simp);have HJ:=zHd (zAI hg hv);clear hy hyn hg hv q1;go_wp2;refine⟨⟨i+1,HI.out.1,by simp,zaa HI.out.2.1 HJ.out.1,fun x hx=>?_⟩,by have:=HI.out.1;simp[intOf];omega⟩
       by_cases e:x<i
       ·exact HI.out.2.2.1 x e
       ·rw[show x=i by omega];exact⟨HI.out.2.2.2,HJ.out.2⟩
   ·obtain rfl:i=n:=by omega
    have u1:decide (i<i)=false:=(by simp);have u1':decide ((i:Int)<(i:Int))=false:=(by simp);have HI:=zHd (zAI hg hx);clear hi hin hg hx;go_wp2;go_ret;exact zbV.yes ⟨HKY.out,fun x hx=>(HI.out.2 x hx).1,fun x y hx hy=>(HI.out.2 x hx).2 y hy⟩ HI.out.1
open Go.RowKit
structure zeq (W:World)(g:Nat)(vs:List Value)(rows:Nat->List Value):Prop where
 row:W.heap[g]?=some (.cells vs.toArray 33 (0,0))
 own:∀ (i:Nat) (v:Value),vs[i]?=some v->W.ownsRow (g+1) 9 1 v (rows i).length (rows i)
 dis:∀ (i j:Nat) (v v':Value),i≠j->vs[i]?=some v->vs[j]?=some v'->v.ownBlock=none∨v.ownBlock≠v'.ownBlock
theorem zeq.lt {W:World}{g:Nat}{vs:List Value}{rows:Nat->List Value}(h:zeq W g vs rows):g<W.heap.size:=(zqad.1 h.row).1
theorem zeq.next {W W':World}{g:Nat}{vs:List Value}{rows:Nat->List Value}(h:zeq W g vs rows)(hg:W.grownBy W' none):zeq W' g vs rows :=
 ⟨(hg.block g h.lt (by simp)).trans h.row,fun i v hv=>(h.own i v hv).kept hg (by cases e:v.ownBlock <;> simp),h.dis⟩
theorem zeq.other {W W':World}{g b:Nat}{vs:List Value}{rows:Nat->List Value}(h:zeq W g vs rows)(hg:W.grownBy W' (some b))(hb:b<g):zeq W' g vs rows :=
 ⟨(hg.block g h.lt (by simp;omega)).trans h.row,fun i v hv=>(h.own i v hv).kept hg (by
   cases e:v.ownBlock with
   | none=>exact .inl rfl
   | some c=>exact .inr (by have:=((h.own i v hv).lt c e).1;intro e2;cases e2;omega)),h.dis⟩
theorem zeq.cell {W:World}{g i:Nat}{vs:List Value}{rows:Nat->List Value}(h:zeq W g vs rows){v:Value}(hv:vs[i]?=some v):W.cell? ⟨g,i,none⟩=some v:=by
 rw[zqbw W g i _ _ (0,0) h.row,zqap];exact hv
theorem zeq.put {W W':World}{g i:Nat}{vs:List Value}{rows:Nat->List Value}{v v':Value}{l:List Value}(h:zeq W g vs rows)(hv:vs[i]?=some v)(hg:W.grownBy W' v.ownBlock)
  (hown:W'.ownsRow (g+1) 9 1 v' l.length l) (hat:∀ c,v'.ownBlock=some c->v.ownBlock=some c∨W.heap.size<=c) :
  zeq (W'.setCell ⟨g,i,none⟩ v') g (vs.set i v') (fun x=>if x=i then l else rows x):=by
 have hlt:=h.lt;have hi:=(zqae.1 hv).1;have hne:some g≠v.ownBlock:=fun e=>by have:=((h.own i v hv).lt g e.symm).1;omega
 have hrow:W'.heap[g]?=some (.cells vs.toArray 33 (0,0)):=(hg.block g hlt hne).trans h.row
 have hfar:∀ (u:Value) (l':List Value),W'.ownsRow (g+1) 9 1 u l'.length l'->(W'.setCell ⟨g,i,none⟩ v').ownsRow (g+1) 9 1 u l'.length l':=fun u l' ho=>ho.kept (zac W' ⟨g,i,none⟩ v') (by
  cases e:u.ownBlock with
  | none=>exact .inl rfl
  | some c=>exact .inr (by have:=(ho.lt c e).1;show some c≠some g;intro e2;cases e2;omega))
 refine⟨?_,fun x u hx=>?_,fun x y u u' hxy hx hy=>?_⟩
 ·rw[heap_setCell_same W' g i _ _ _ hrow]
  simp
 ·by_cases e:x=i
  ·subst e
   rw[zqbi hi] at hx;cases hx;rw[if_pos rfl];exact hfar _ _ hown
  ·rw[zqbl (Ne.symm e)] at hx
   rw[if_neg e];refine hfar _ _ ((h.own x u hx).kept hg ?_);exact h.dis x i u v e hx hv
 ·by_cases ex:x=i
  ·subst ex
   rw[zqbi hi] at hx;rw[zqbl hxy] at hy;cases hx;cases ev:v'.ownBlock with
   | none=>exact .inl rfl
   | some c =>
    refine .inr (fun e2=>?_);have h2:=(h.own y u' hy).lt c e2.symm;rcases hat c ev with h3|h3
    ·rcases h.dis x y v u' hxy hv hy with h4|h4
     ·rw[h4] at h3;cases h3
     ·exact h4 (h3.trans e2)
    ·omega
  ·rw[zqbl (Ne.symm ex)] at hx
   by_cases ey:y=i
   ·subst ey
    rw[zqbi hi] at hy;cases hy;cases eu:u.ownBlock with
    | none=>exact .inl rfl
    | some c =>
     refine .inr (fun e2=>?_);have h2:=(h.own x u hx).lt c eu;rcases hat c e2.symm with h3|h3
     ·rcases h.dis x y u v hxy hx hv with h4|h4
      ·rw[h4] at eu;cases eu
      ·exact h4 (eu.trans h3.symm)
     ·omega
   ·rw[zqbl (Ne.symm ey)] at hy
    exact h.dis x y u u' hxy hx hy
theorem zeq.made {w w1:World}{n:Nat}(h:zaB 33 (.slice none 0 0) n [] w w1):zeq w1 w.heap.size (List.replicate n (.slice none 0 0)) (fun _=>[]):=by
 have hr:=h.row;simp only[List.nil_append,List.length_nil,Nat.sub_zero] at hr;refine⟨hr,fun i v hv=>?_,fun i j v v' _ hv _=>.inl ?_⟩
 ·obtain⟨h1,rfl⟩:=zqae.1 hv
  rw[List.getElem_replicate];exact World.ownsRow_nil _ _ _ _
 ·obtain⟨h1,rfl⟩:=zqae.1 hv
  rw[List.getElem_replicate];rfl
def zgr (n i j x:Nat):Nat:=if x<i then n else if x=i then j else 0
def zbz (n:Nat)(G:Nat->Nat->ByteArray)(i j x:Nat):List Value:=(List.range (zgr n i j x)).map (fun y=>.string (G x y))
theorem zeg (n:Nat)(G:Nat->Nat->ByteArray)(i j x:Nat):(zbz n G i j x).length=zgr n i j x:=by simp[zbz]
def zdS (G:Nat->Nat->ByteArray)(i j:Nat)(s:ByteArray)(x y:Nat):ByteArray:=if x=i/\y=j then s else G x y
theorem zER {n i j:Nat}{G:Nat->Nat->ByteArray}{s:ByteArray}(hj:j<n):(fun x=>if x=i then zbz n G i j i++[.string s] else zbz n G i j x)=zbz n (zdS G i j s) i (j+1):=by
 funext x
 by_cases e:x=i
 ·subst e
  rw[if_pos rfl];unfold zbz zgr;rw[if_neg (Nat.lt_irrefl _),if_pos rfl,if_neg (Nat.lt_irrefl _),if_pos rfl,List.range_succ,List.map_append];congr 1
  ·refine List.map_congr_left (fun y hy=>?_)
   have:=List.mem_range.1 hy;unfold zdS;rw[if_neg (by omega)]
  ·simp[zdS]
 ·rw[if_neg e]
  unfold zbz;have hc:zgr n i j x=zgr n i (j+1) x:=by unfold zgr;rw[if_neg e,if_neg e]
  rw[hc];refine List.map_congr_left (fun y hy=>?_);unfold zdS;rw[if_neg (by omega)]
theorem zHW (n i x:Nat):zgr n i n x=zgr n (i+1) 0 x:=by
 unfold zgr
 by_cases h:x<i
 ·rw[if_pos h,if_pos (by omega)]
 ·rw[if_neg h]
  by_cases e:x=i
  ·rw[if_pos e,if_pos (by omega)]
  ·rw[if_neg e,if_neg (by omega)]
   split <;> rfl
theorem zBl (n:Nat)(G:Nat->Nat->ByteArray)(i:Nat):zbz n G i n=zbz n G (i+1) 0:=by
 funext x;unfold zbz;rw[zHW]
theorem zkf (n:Nat)(G:Nat->Nat->ByteArray):zbz n G 0 0=fun _=>[]:=by
 funext x;unfold zbz zgr;rw[if_neg (by omega)];split <;> rfl
theorem zdX {n x j:Nat}(hx:x<n):zgr n n j x=n:=by unfold zgr;rw[if_pos hx]
def zoX (w:World)(b:Nat)(v:Value)(n:Nat)(L:Nat->Value):Prop :=
 ∃ A cap,v=.slice A n cap/\n<=cap/\cap<=maxLen/\∀ j,j<n->∃ ad,A=some ad/\ad.block<w.heap.size/\ad.block≠b/\w.cell? (ad.add j)=some (L j)
theorem zoX.grown {w w':World}{b:Nat}{v:Value}{n:Nat}{L:Nat->Value}(h:zoX w b v n L)(hg:w.grownBy w' (some b)):zoX w' b v n L:=by
 obtain⟨A,cap,rfl,h1,h2,h3⟩:=h;refine⟨A,cap,rfl,h1,h2,fun j hj=>?_⟩;obtain⟨ad,rfl,hb,hne,hc⟩:=h3 j hj;exact⟨ad,rfl,zqba hb hg.size,hne,(zaD (ad:=ad.add j) (by rw[zau];exact hg.block ad.block hb (by simpa using hne))).trans hc⟩
theorem zoX.of {w:World}{b:Nat}{v:Value}{n:Nat}{L:Nat->Value}(h:zaG w v n L)(hb:w.heap.size<=b):zoX w b v n L:=by
 obtain⟨A,cap,rfl,h1,h2,h3⟩:=h;refine⟨A,cap,rfl,h1,h2,fun j hj=>?_⟩;obtain⟨ad,rfl,hl,hc⟩:=h3 j hj;exact⟨ad,rfl,hl,by omega,hc⟩
def zjs (w:World)(b:Nat)(v:Value)(n:Nat)(G:Nat->Nat->ByteArray):Prop :=
 ∃ rs:Nat->Value,zoX w b v n rs/\∀ i,i<n->zoX w b (rs i) n (fun j=>.string (G i j))
theorem zjs.grown {w w':World}{b:Nat}{v:Value}{n:Nat}{G:Nat->Nat->ByteArray}(h:zjs w b v n G)(hg:w.grownBy w' (some b)):zjs w' b v n G:=by
 obtain⟨rs,h1,h2⟩:=h;exact⟨rs,h1.grown hg,fun i hi=>(h2 i hi).grown hg⟩
theorem zjs.of {w:World}{b:Nat}{v:Value}{n:Nat}{G:Nat->Nat->ByteArray}(h:zcx w v n (fun _=>n) G)(hb:w.heap.size<=b):zjs w b v n G:=by
 obtain⟨rs,h1,h2⟩:=h;exact⟨rs,.of h1 hb,fun i hi=>.of (h2 i hi) hb⟩
theorem zjs.shape {w:World}{b:Nat}{v:Value}{n:Nat}{G:Nat->Nat->ByteArray}(h:zjs w b v n G):∃ A c,v=.slice A n c:=by
 obtain⟨rs,⟨A,c,e,_⟩,_⟩:=h;exact⟨A,c,e⟩
theorem zeq.rows {W:World}{g n:Nat}{vs:List Value}{G:Nat->Nat->ByteArray}(h:zeq W g vs (zbz n G n 0))(hn:vs.length=n)(hn2:n<=10000) :
  (∀ j,j<n->W.cell? ⟨g,0+j,none⟩=some (vs.getD j (.slice none 0 0)))/\∀ i,i<n->∃ c cap,vs.getD i (.slice none 0 0)=.slice (some ⟨c,0,none⟩) n cap/\n<=cap/\cap<=maxLen/\g<c/\c<W.heap.size/\∀ j,j<n->W.cell? ((⟨c,0,none⟩:Addr).add j)=some (.string (G i j)):=by
 refine⟨fun j hj=>?_,fun i hi=>?_⟩
 ·rw[zqat]
  refine h.cell ?_;rw[zqaa,zqac (by omega)];rfl
 ·have hv:vs[i]?=some (vs.getD i (.slice none 0 0)):=by
   rw[zqaa,zqac (by omega)];rfl
  have ho:=h.own i _ hv;rw[zeg,zdX hi] at ho;rcases ho.2 with⟨he,h0⟩|⟨c,cap,cur,he,hbc,hgc,h1,h2,h3,h4⟩
  ·omega
  ·refine⟨c,cap,he,h1,h2,by omega,(zqad.1 hgc).1,fun j hj=>?_⟩
   exact ho.cells (g:=c) (by rw[he];rfl) j (.string (G i j)) (by
    unfold zbz;rw[zqaj,zqbe (by rw[zdX hi];exact hj)];rfl)
theorem zeq.matA {W:World}{g n:Nat}{vs:List Value}{G:Nat->Nat->ByteArray}(h:zeq W g vs (zbz n G n 0))(hn:vs.length=n)(hn2:n<=10000):zcx W (.slice (some ⟨g,0,none⟩) n n) n (fun _=>n) G:=by
 obtain⟨h1,h2⟩:=h.rows hn hn2;refine⟨fun i=>vs.getD i (.slice none 0 0),⟨_,_,rfl,zqab _,by unfold maxLen;omega,fun j hj=>⟨_,rfl,h.lt,by rw[zcl];exact h1 j hj⟩⟩,fun i hi=>?_⟩;obtain⟨c,cap,he,e1,e2,e3,e4,e5⟩:=h2 i hi;exact⟨_,_,he,e1,e2,fun j hj=>⟨_,rfl,e4,e5 j hj⟩⟩
open Go.RowKit
structure zaU (r:Option Nat)(n:Nat)(w:World)(g i j:Nat)(vs:List Value)(G:Nat->Nat->ByteArray)(wr:World):Prop where
 len:vs.length=n
 grid:zeq wr g vs (zbz n G i j)
 gr:w.grownBy wr r
 far:w.heap.size<=g
 low:∀ b,r=some b->b<w.heap.size
theorem zaU.kept {r:Option Nat}{n:Nat}{w:World}{g i j:Nat}{vs:List Value}{G:Nat->Nat->ByteArray}{wr w2:World}(h:zaU r n w g i j vs G wr)(hg:wr.grownBy w2 r):zaU r n w g i j vs G w2:=by
 refine⟨h.len,?_,zaa h.gr hg,h.far,h.low⟩;cases r with
 | none=>exact h.grid.next hg
 | some b=>exact h.grid.other hg (by have:=h.low b rfl;have:=h.far;omega)
theorem zaU.row {r:Option Nat}{n:Nat}{w:World}{g i:Nat}{vs:List Value}{G:Nat->Nat->ByteArray}{wr:World}(h:zaU r n w g i n vs G wr):zaU r n w g (i+1) 0 vs G wr :=
 ⟨h.len,by rw[<- zBl];exact h.grid,h.gr,h.far,h.low⟩
theorem zaU.at_ {r:Option Nat}{n:Nat}{w:World}{g i j:Nat}{vs:List Value}{G:Nat->Nat->ByteArray}{wr:World}(h:zaU r n w g i j vs G wr)(hi:i<n) :
  ∃ v,vs[i]?=some v/\wr.cell? ⟨g,i,none⟩=some v/\wr.ownsRow (g+1) 9 1 v j (zbz n G i j i)/\v.ownBlock≠some g/\∃ A c,v=.slice A j c:=by
 have hv:vs[i]?=some (vs[i]'(by rw[h.len];exact hi)):=zqac (by rw[h.len];exact hi);have ho:=h.grid.own i _ hv;have hc:zgr n i j i=j:=by unfold zgr;rw[if_neg (Nat.lt_irrefl _),if_pos rfl]
 rw[zeg,hc] at ho;refine⟨_,hv,h.grid.cell hv,ho,fun e=>by have:=(ho.lt g e).1;omega,?_⟩;rcases ho.2 with⟨e,h0⟩|⟨c,cap,cur,e,_⟩
 ·exact⟨none,0,by rw[e,h0]⟩
 ·exact⟨_,_,e⟩
theorem zaU.ready {r:Option Nat}{n:Nat}{w:World}{g i j:Nat}{vs:List Value}{G:Nat->Nat->ByteArray}{wr W':World}{v:Value}{o:Obj}(h:zaU r n w g i j vs G wr)(hv:vs[i]?=some v)(hg:(wr.alloc o).grownBy W' v.ownBlock) :
  W'.cell? ⟨g,i,none⟩=some v/\W'.frozen? ⟨g,i,none⟩=false:=by
 have hne:some g≠v.ownBlock:=fun e=>by have:=((h.grid.own i v hv).lt g e.symm).1;omega
 have h1:=(zGA wr o none).block g h.grid.lt (by simp);have hb:W'.heap[g]?=wr.heap[g]?:=(hg.block g (zqba h.grid.lt (zGA wr o none).size) hne).trans h1;exact⟨(zaD (ad:=⟨g,i,none⟩) hb).trans (h.grid.cell hv),zqbx W' g i _ _ (hb.trans h.grid.row)⟩
theorem zaU.start {r:Option Nat}{n:Nat}{w w1:World}(h:zaB 33 (.slice none 0 0) n [] w w1)(hr:∀ b,r=some b->b<w.heap.size):zaU r n w w.heap.size 0 0 (List.replicate n (.slice none 0 0)) (fun _ _=>⟨#[]⟩) w1 :=
 ⟨zqax ..,by rw[zkf];exact zeq.made h,by cases r with
  | none=>exact h.gr
  | some b=>exact zaS h.gr,zqab _,hr⟩
theorem zaU.put {r:Option Nat}{n:Nat}{w:World}{g i j g2 cap:Nat}{vs:List Value}{G:Nat->Nat->ByteArray}{wr W':World}{v:Value}{o:Obj}{s:ByteArray}(h:zaU r n w g i j vs G wr)(hi:i<n)(hj:j<n)(hv:vs[i]?=some v)
  (hg:(wr.alloc o).grownBy W' v.ownBlock) (hown:W'.ownsRow (g+1) 9 1 (.slice (some ⟨g2,0,none⟩) (j+1) cap) (j+1) (zbz n G i j i++[.string s])) (hat:v.ownBlock=some g2∨g2=wr.heap.size+1) :
  zaU r n w g i (j+1) (vs.set i (.slice (some ⟨g2,0,none⟩) (j+1) cap)) (zdS G i j s) (W'.setCell ⟨g,i,none⟩ (.slice (some ⟨g2,0,none⟩) (j+1) cap)) /\
   ∀ b,b<w.heap.size->(W'.setCell ⟨g,i,none⟩ (.slice (some ⟨g2,0,none⟩) (j+1) cap)).heap[b]?=wr.heap[b]?:=by
 have hgA:=zGA wr o none;have hfar:=h.far;have hlw:=h.gr.size;have hob:∀ c,v.ownBlock=some c->g+1<=c:=fun c e=>((h.grid.own i v hv).lt c e).1
 have hl:(zbz n G i j i++[Value.string s]).length=j+1:=by
  rw[zqag,zeg];unfold zgr;rw[if_neg (Nat.lt_irrefl _),if_pos rfl];rfl
 have hsz:(wr.alloc o).heap.size=wr.heap.size+1:=by simp
 refine⟨⟨by rw[List.length_set];exact h.len,?_,?_,h.far,h.low⟩,fun b hb=>?_⟩
 ·have h1:=(h.grid.next hgA).put (l:=zbz n G i j i++[.string s]) (v':=.slice (some ⟨g2,0,none⟩) (j+1) cap) hv hg (by rw[hl];exact hown) (fun c e=>by
   have e2:g2=c:=by simpa [Value.ownBlock] using e
   subst e2;rcases hat with h2|h2
   ·exact .inl h2
   ·exact .inr (by rw[hsz];omega))
  rw[zER hj] at h1;exact h1
 ·have h1:w.grownBy W' r:=by
   have h0:w.grownBy (wr.alloc o) r:=zaa h.gr (zaS hgA);cases e:v.ownBlock with
   | none=>rw[e] at hg;exact zaa h0 (zaS hg)
   | some c=>rw[e] at hg;exact zaj h0 hg (by have:=hob c e;omega)
  exact zaj h1 (zac _ _ _) hfar
 ·have e1:(W'.setCell ⟨g,i,none⟩ (.slice (some ⟨g2,0,none⟩) (j+1) cap)).heap[b]?=W'.heap[b]?:=zqcd W' _ b _ (by show b≠g;omega)
  have e2:W'.heap[b]?=(wr.alloc o).heap[b]?:=hg.block b (by omega) (fun e=>by have:=hob b e.symm;omega);exact e1.trans (e2.trans (hgA.block b (by omega) (by simp)))
theorem zaU.matA {r:Option Nat}{n:Nat}{w:World}{g:Nat}{vs:List Value}{G:Nat->Nat->ByteArray}{wr:World}(h:zaU r n w g n 0 vs G wr)(hn:n<=10000):zcx wr (.slice (some ⟨g,0,none⟩) n n) n (fun _=>n) G:=h.grid.matA h.len hn
theorem zaU.any {r:Option Nat}{n:Nat}{w:World}{g:Nat}{vs:List Value}{G:Nat->Nat->ByteArray}{wr:World}(h:zaU r n w g 0 0 vs G wr)(G':Nat->Nat->ByteArray):zaU r n w g 0 0 vs G' wr :=
 ⟨h.len,by rw[zkf,<- zkf n G];exact h.grid,h.gr,h.far,h.low⟩
theorem zBm (s:ByteArray)(i j:Nat):zdS (fun _ _=>s) i j s=fun _ _=>s:=by funext x y;unfold zdS;split <;> rfl
open Go.RowKit
theorem zHX {W:World}{B c n cap j:Nat}{T:TypeId}{xs:List Value}(h:W.ownsRow B T 1 (.slice (some ⟨c,0,none⟩) n cap) n xs)(hj:j<n)(u:Value) :
  (W.setCell ⟨c,j,none⟩ u).ownsRow B T 1 (.slice (some ⟨c,0,none⟩) n cap) n (xs.set j u):=by
 refine⟨by rw[List.length_set];exact h.1,?_⟩;rcases h.2 with⟨e,h0⟩|⟨g',cap',cur,e,hb,hg,h1,h2,h3,h4⟩
 ·omega
 ·simp only[Value.slice.injEq,Option.some.injEq,Addr.mk.injEq,and_true,true_and] at e
  obtain⟨rfl,rfl⟩:=e;refine .inr ⟨c,cap,cur.setIfInBounds j u,rfl,hb,heap_setCell_same W c j _ _ u hg,h1,h2,by rw[Array.size_setIfInBounds];exact h3,?_⟩;rw[Array.toList_setIfInBounds,<- h4];apply List.ext_getElem?;intro i;simp only[List.getElem?_take,List.getElem?_set,zqan]
  by_cases hi:i<n*1
  ·rw[if_pos hi]
   by_cases e:j=i
   ·rw[if_pos e,if_pos e]
    subst e;have:j<cur.toList.length:=by rw[zqbs];omega
    rw[if_pos this,if_pos (by omega)]
   ·rw[if_neg e,if_neg e,if_pos hi]
  ·rw[if_neg hi,if_neg (by omega),if_neg hi]
theorem zES {n i j:Nat}{G:Nat->Nat->ByteArray}{s:ByteArray}(hi:i<n)(hj:j<n)(x:Nat):zbz n (zdS G i j s) n 0 x=if x=i then (zbz n G n 0 i).set j (.string s) else zbz n G n 0 x:=by
 by_cases e:x=i
 ·subst e
  rw[if_pos rfl];unfold zbz;rw[zdX hi];apply List.ext_getElem?;intro y;rw[List.getElem?_set];simp only[zqaj,zqbn,List.length_range]
  by_cases hy:y<n
  ·rw[zqbe hy]
   by_cases e2:j=y
   ·subst e2;rw[if_pos rfl,if_pos hj];simp[zdS]
   ·rw[if_neg e2];simp[zdS,Ne.symm e2]
  ·rw[zqas (by simpa using hy),if_neg (by omega)];rfl
 ·rw[if_neg e]
  unfold zbz;refine List.map_congr_left (fun y hy=>?_);unfold zdS;rw[if_neg (by omega)]
theorem zaU.get {r:Option Nat}{n:Nat}{w:World}{g i j:Nat}{vs:List Value}{G:Nat->Nat->ByteArray}{wr:World}(h:zaU r n w g n 0 vs G wr)(hi:i<n)(hj:j<n) :
  ∃ c cap,vs[i]?=some (.slice (some ⟨c,0,none⟩) n cap)/\wr.cell? ⟨g,i,none⟩=some (.slice (some ⟨c,0,none⟩) n cap)/\wr.cell? ⟨c,j,none⟩=some (.string (G i j))/\wr.frozen? ⟨c,j,none⟩=false/\g<c/\c<wr.heap.size:=by
 have hv:vs[i]?=some (vs[i]'(by rw[h.len];exact hi)):=zqac (by rw[h.len];exact hi);have ho:=h.grid.own i _ hv;rw[zeg,zdX hi] at ho;have hc0:=h.grid.cell hv;rcases ho.2 with⟨e,h0⟩|⟨c,cap,cur,e,hb,hg,h1,h2,h3,h4⟩
 ·omega
 ·have hc:=ho.cells (g:=c) (by rw[e];rfl) j (.string (G i j)) (by
   unfold zbz;rw[zqaj,zqbe (by rw[zdX hi];exact hj)];rfl)
  rw[zcl,zqat] at hc;rw[e] at hv hc0;exact⟨c,cap,hv,hc0,hc,zqbx wr c j _ _ hg,by omega,(zqad.1 hg).1⟩
theorem zaU.set {r:Option Nat}{n:Nat}{w:World}{g i j c cap:Nat}{vs:List Value}{G:Nat->Nat->ByteArray}{wr:World}{s:ByteArray}(h:zaU r n w g n 0 vs G wr)(hi:i<n)(hj:j<n)(hv:vs[i]?=some (.slice (some ⟨c,0,none⟩) n cap)) :
  zaU r n w g n 0 vs (zdS G i j s) (wr.setCell ⟨c,j,none⟩ (.string s)):=by
 have ho:=h.grid.own i _ hv;rw[zeg,zdX hi] at ho;have hc:=(ho.lt c rfl).1;have hfar:=h.far;have gs:=zac wr ⟨c,j,none⟩ (.string s);refine⟨h.len,⟨(gs.block g h.grid.lt (by show some g≠some c;intro e;cases e;omega)).trans h.grid.row,fun x u hx=>?_,h.grid.dis⟩,zaj h.gr gs (by show w.heap.size<=c;omega),h.far,h.low⟩;rw[zES hi hj x]
 by_cases e:x=i
 ·subst e
  rw[hv] at hx;cases hx;rw[if_pos rfl,List.length_set,zeg,zdX hi];exact zHX ho hj _
 ·rw[if_neg e]
  refine(h.grid.own x u hx).kept gs ?_;have:=h.grid.dis x i u _ e hx hv;rcases this with h1|h1
  ·exact .inl h1
  ·exact .inr h1
open Go.RowKit
def zbb (k:Int)(sb:Nat)(bad:Bool)(w:World):Prop:=w.heap[sb]?=some (.cells #[.int .i64 k,.bool bad] 72 (0,0))
theorem zbb.lt {k:Int}{sb:Nat}{bad:Bool}{w:World}(h:zbb k sb bad w):sb<w.heap.size:=(zqad.1 h).1
theorem zbb.kept {k:Int}{sb:Nat}{bad:Bool}{w w':World}(h:zbb k sb bad w)(hg:w.grownBy w' none):zbb k sb bad w':=(hg.block sb h.lt (by simp)).trans h
theorem zbL {k:Int}{w:World}{b:Nat}{bad:Bool}{c:Bool}(h:zbb k b bad w):zbb k b c (w.setCell ⟨b,1,none⟩ (.bool c)):=zJQ h
theorem zdC (k:Int)(b:Nat)(bad:Bool)(c:ByteArray)(w:World)(hb:zbb k b bad w):Calls Tryz.prog 105 #[.pointer (some ⟨b,0,none⟩),.string c] w (zab (.string (if bad=true then zae k else c)) w):=by
 have d0:=zqbw w b 0 _ _ (0,0) hb;have d1:=zqbw w b 1 _ _ (0,0) hb;clear hb;go_enter Tryz.func105,Tryz.ntmps105;cases bad
 ·go_wp2
  go_ret;exact⟨rfl,World.grownBy.refl _ _⟩
 ·go_wp2_with fail
  refine(zdf _ _).mono ?_;rintro e w1 ⟨rfl,hg⟩;have HG:=zHd hg;clear hg;go_wp2;go_ret;exact⟨rfl,HG.out⟩
def zoY {k:Int}(b:Nat)(bad:Bool)(r:El k)(w:World)(e:Ending)(w':World):Prop :=
 ∃ (S:ByteArray) (bad':Bool),e=.returned (.string S)/\w.grownBy w' (some b)/\zbb k b bad' w'/\(bad'=false↔bad=false/\zam r)/\(bad'=false->S=tx r)/\∃ t:El k,zam t/\S=tx t
theorem zsn {k:Int}(r:El k):∃ (S:ByteArray) (E:Int),zbI r.1=.tuple #[.string S,.int .i64 E]/\(E=0↔zam r)/\(E=0->S=tx r):=by
 by_cases hf:zam r
 ·exact⟨tx r,0,zgA (zlf hf),⟨fun _=>hf,fun _=>rfl⟩,fun _=>rfl⟩
 ·exact⟨⟨#[]⟩,2,zlg hf,⟨fun h=>absurd h (by decide),fun h=>absurd h hf⟩,fun h=>absurd h (by decide)⟩
theorem ztz {k:Int}(hk:zad k)(b:Nat)(bad:Bool)(u v:El k)(fu:zam u)(fv:zam v)(w:World)(hb:zbb k b bad w) :
  Calls Tryz.prog 63 #[.pointer (some ⟨b,0,none⟩),.string (tx u),.string (tx v)] w (zoY b bad ((srE k hk).add u v) w):=by
 have hop:SOp 104 k (tx u) (tx v) (zbI ((srE k hk).add u v).1):=zDD (zeX fu) (zeX fv);obtain⟨S,E,hE,h0,hS⟩:=zsn ((srE k hk).add u v);rw[hE] at hop;have HOP:=zHd hop;have HE:=zHd (zAI h0 hS);have HB:=zHd hb;have HK:=zHd hk;have d0:=zqbw w b 0 _ _ (0,0) hb;have d1:=zqbw w b 1 _ _ (0,0) hb;have z1:=zqbx w b 1 _ _ hb;generalize hr:(srE k hk).add u v=r at *;have HR:=zHd hr;clear hop h0 hS hE hb hr;go_enter Tryz.func63,Tryz.ntmps63;go_wp2_with fail;refine(HOP.out w).mono ?_;rintro e w1 ⟨rfl,hg1⟩;have e0:=hg1.cell d0 (by simp);have e1:=hg1.cell d1 (by simp);have hb1:zbb k b bad w1:=zbb.kept HB.out hg1;have y1:=zqbx w1 b 1 _ _ hb1;have HB1:=zHd hb1;have HG:=zHd hg1;clear hb1 hg1 d0 d1 z1;cases bad
 ·by_cases hE0:E=0
  ·subst hE0
   go_wp2_with fail;refine(zdC k b false S _ (zbL HB1.out)).mono ?_;rintro e w2 ⟨rfl,hg2⟩;have HG2:=zHd hg2;clear hg2;go_wp2;go_ret;exact⟨S,false,rfl,zaa (zaa (zbf (some b) HG.out) (zac _ _ _)) (zbf (some b) HG2.out),zbb.kept (zbL HB1.out) HG2.out,⟨fun _=>⟨rfl,HE.out.1.1 (by simp)⟩,fun _=>rfl⟩,fun _=>HE.out.2 (by simp),⟨_,HE.out.1.1 (by simp),HE.out.2 (by simp)⟩⟩
  ·have t0:(E != 0)=true:=by simpa using hE0
   have HN:=zHd hE0;clear hE0;go_wp2_with fail;refine(zdC k b true S _ (zbL HB1.out)).mono ?_;rintro e w2 ⟨rfl,hg2⟩;have HG2:=zHd hg2;clear hg2;go_wp2;go_ret;exact⟨zae k,true,rfl,zaa (zaa (zbf (some b) HG.out) (zac _ _ _)) (zbf (some b) HG2.out),zbb.kept (zbL HB1.out) HG2.out,⟨fun h=>(by cases h),fun h=>absurd (HE.out.1.2 h.2) HN.out⟩,fun h=>(by cases h),⟨(srE k HK.out).zero,zcw HK.out,(zdG HK.out).symm⟩⟩
 ·go_wp2_with fail
  refine(zdC k b true S _ (zbL HB1.out)).mono ?_;rintro e w2 ⟨rfl,hg2⟩;have HG2:=zHd hg2;clear hg2;go_wp2;go_ret;exact⟨zae k,true,rfl,zaa (zaa (zbf (some b) HG.out) (zac _ _ _)) (zbf (some b) HG2.out),zbb.kept (zbL HB1.out) HG2.out,⟨fun h=>(by cases h),fun h=>(by cases h.1)⟩,fun h=>(by cases h),⟨(srE k HK.out).zero,zcw HK.out,(zdG HK.out).symm⟩⟩
theorem zqH {k:Int}(hk:zad k)(b:Nat)(bad:Bool)(u v:El k)(fu:zam u)(fv:zam v)(w:World)(hb:zbb k b bad w) :
  Calls Tryz.prog 64 #[.pointer (some ⟨b,0,none⟩),.string (tx u),.string (tx v)] w (zoY b bad ((srE k hk).mul u v) w):=by
 have hop:SOp 106 k (tx u) (tx v) (zbI ((srE k hk).mul u v).1):=zAr (zeX fu) (zeX fv);obtain⟨S,E,hE,h0,hS⟩:=zsn ((srE k hk).mul u v);rw[hE] at hop;have HOP:=zHd hop;have HE:=zHd (zAI h0 hS);have HB:=zHd hb;have HK:=zHd hk;have d0:=zqbw w b 0 _ _ (0,0) hb;have d1:=zqbw w b 1 _ _ (0,0) hb;have z1:=zqbx w b 1 _ _ hb;generalize hr:(srE k hk).mul u v=r at *;have HR:=zHd hr;clear hop h0 hS hE hb hr;go_enter Tryz.func64,Tryz.ntmps64;go_wp2_with fail;refine(HOP.out w).mono ?_;rintro e w1 ⟨rfl,hg1⟩;have e0:=hg1.cell d0 (by simp);have e1:=hg1.cell d1 (by simp);have hb1:zbb k b bad w1:=zbb.kept HB.out hg1;have y1:=zqbx w1 b 1 _ _ hb1;have HB1:=zHd hb1;have HG:=zHd hg1;clear hb1 hg1 d0 d1 z1;cases bad
 ·by_cases hE0:E=0
  ·subst hE0
   go_wp2_with fail;refine(zdC k b false S _ (zbL HB1.out)).mono ?_;rintro e w2 ⟨rfl,hg2⟩;have HG2:=zHd hg2;clear hg2;go_wp2;go_ret;exact⟨S,false,rfl,zaa (zaa (zbf (some b) HG.out) (zac _ _ _)) (zbf (some b) HG2.out),zbb.kept (zbL HB1.out) HG2.out,⟨fun _=>⟨rfl,HE.out.1.1 (by simp)⟩,fun _=>rfl⟩,fun _=>HE.out.2 (by simp),⟨_,HE.out.1.1 (by simp),HE.out.2 (by simp)⟩⟩
  ·have t0:(E != 0)=true:=by simpa using hE0
   have HN:=zHd hE0;clear hE0;go_wp2_with fail;refine(zdC k b true S _ (zbL HB1.out)).mono ?_;rintro e w2 ⟨rfl,hg2⟩;have HG2:=zHd hg2;clear hg2;go_wp2;go_ret;exact⟨zae k,true,rfl,zaa (zaa (zbf (some b) HG.out) (zac _ _ _)) (zbf (some b) HG2.out),zbb.kept (zbL HB1.out) HG2.out,⟨fun h=>(by cases h),fun h=>absurd (HE.out.1.2 h.2) HN.out⟩,fun h=>(by cases h),⟨(srE k HK.out).zero,zcw HK.out,(zdG HK.out).symm⟩⟩
 ·go_wp2_with fail
  refine(zdC k b true S _ (zbL HB1.out)).mono ?_;rintro e w2 ⟨rfl,hg2⟩;have HG2:=zHd hg2;clear hg2;go_wp2;go_ret;exact⟨zae k,true,rfl,zaa (zaa (zbf (some b) HG.out) (zac _ _ _)) (zbf (some b) HG2.out),zbb.kept (zbL HB1.out) HG2.out,⟨fun h=>(by cases h),fun h=>(by cases h.1)⟩,fun h=>(by cases h),⟨(srE k HK.out).zero,zcw HK.out,(zdG HK.out).symm⟩⟩
theorem zET {k:Int}(hk:zad k)(b:Nat)(bad:Bool)(u:El k)(fu:zam u)(w:World)(hb:zbb k b bad w) :
  Calls Tryz.prog 91 #[.pointer (some ⟨b,0,none⟩),.string (tx u)] w (zoY b bad ((srE k hk).star u) w):=by
 have hop:zGI 140 k (tx u) (zbI ((srE k hk).star u).1):=zDI (zeX fu);obtain⟨S,E,hE,h0,hS⟩:=zsn ((srE k hk).star u);rw[hE] at hop;have HOP:=zHd hop;have HE:=zHd (zAI h0 hS);have HB:=zHd hb;have HK:=zHd hk;have d0:=zqbw w b 0 _ _ (0,0) hb;have d1:=zqbw w b 1 _ _ (0,0) hb;have z1:=zqbx w b 1 _ _ hb;generalize hr:(srE k hk).star u=r at *;have HR:=zHd hr;clear hop h0 hS hE hb hr;go_enter Tryz.func91,Tryz.ntmps91;go_wp2_with fail;refine(HOP.out w).mono ?_;rintro e w1 ⟨rfl,hg1⟩;have e0:=hg1.cell d0 (by simp);have e1:=hg1.cell d1 (by simp);have hb1:zbb k b bad w1:=zbb.kept HB.out hg1;have y1:=zqbx w1 b 1 _ _ hb1;have HB1:=zHd hb1;have HG:=zHd hg1;clear hb1 hg1 d0 d1 z1;cases bad
 ·by_cases hE0:E=0
  ·subst hE0
   go_wp2_with fail;refine(zdC k b false S _ (zbL HB1.out)).mono ?_;rintro e w2 ⟨rfl,hg2⟩;have HG2:=zHd hg2;clear hg2;go_wp2;go_ret;exact⟨S,false,rfl,zaa (zaa (zbf (some b) HG.out) (zac _ _ _)) (zbf (some b) HG2.out),zbb.kept (zbL HB1.out) HG2.out,⟨fun _=>⟨rfl,HE.out.1.1 (by simp)⟩,fun _=>rfl⟩,fun _=>HE.out.2 (by simp),⟨_,HE.out.1.1 (by simp),HE.out.2 (by simp)⟩⟩
  ·have t0:(E != 0)=true:=by simpa using hE0
   have HN:=zHd hE0;clear hE0;go_wp2_with fail;refine(zdC k b true S _ (zbL HB1.out)).mono ?_;rintro e w2 ⟨rfl,hg2⟩;have HG2:=zHd hg2;clear hg2;go_wp2;go_ret;exact⟨zae k,true,rfl,zaa (zaa (zbf (some b) HG.out) (zac _ _ _)) (zbf (some b) HG2.out),zbb.kept (zbL HB1.out) HG2.out,⟨fun h=>(by cases h),fun h=>absurd (HE.out.1.2 h.2) HN.out⟩,fun h=>(by cases h),⟨(srE k HK.out).zero,zcw HK.out,(zdG HK.out).symm⟩⟩
 ·go_wp2_with fail
  refine(zdC k b true S _ (zbL HB1.out)).mono ?_;rintro e w2 ⟨rfl,hg2⟩;have HG2:=zHd hg2;clear hg2;go_wp2;go_ret;exact⟨zae k,true,rfl,zaa (zaa (zbf (some b) HG.out) (zac _ _ _)) (zbf (some b) HG2.out),zbb.kept (zbL HB1.out) HG2.out,⟨fun h=>(by cases h),fun h=>(by cases h.1)⟩,fun h=>(by cases h),⟨(srE k HK.out).zero,zcw HK.out,(zdG HK.out).symm⟩⟩
open Go.RowKit
def zEU (k:Int)(n:Nat)(w:World)(e:Ending)(w':World):Prop :=
 ∃ g vs,e=.returned (.slice (some ⟨g,0,none⟩) n n)/\zaU none n w g n 0 vs (fun _ _=>zae k) w'
theorem zqI (k:Int)(n:Nat)(w:World)(hn:n<=60) :
  Calls Tryz.prog 90 #[.int .i64 k,.int .i64 (n:Int)] w (zEU k n w):=by
 obtain⟨i0,hi,hz0,hz1,hz2⟩:=info_parts zeN;obtain⟨j0,ji,jz0,jz1,jz2⟩:=info_parts zgo;have n0:¬ (n:Int)<0:=by omega
 have HN:=zHd hn;clear hn;go_enter Tryz.func90,Tryz.ntmps90;go_wp2_with (at_make;refine wpList_make_full _ rfl _ _ 22 rfl w.heap.size 33 i0 (.slice none 0 0) 1 Tryz.underlying22 hi hz0 hz1 _ _ _ _ n rfl rfl ?c0 ?c1 ?c2 (by have:=HN.out;unfold maxLen;omega) (zqab _) ?_)
 case c0=>omega
 case c1=>omega
 case c2=>have:=HN.out;first|omega|(rw[hz2];omega)
 intro w1 hown hgr;have hfill:=zaB.start hown hgr;have HF:=zHd ((zaU.start (r:=none) hfill (fun b e=>by cases e)).any (fun _ _=>zae k));clear hown hgr hfill;go_wp2
 go_loopw [6] (fun iv wr=>∃ (i:Nat) (vs:List Value),i<=n/\iv=.int .i64 (i:Int)/\zaU none n w w.heap.size i 0 vs (fun _ _=>zae k) wr) (fun iv _=>n-(intOf iv).toNat)
 case atStart=>exact⟨0,_,zqaw _,rfl,HF.out⟩
 case round =>
  obtain⟨i,vs,hi',rfl,hf⟩:=hrel
  by_cases hin:i<n
  ·have u1:decide (i<n)=true:=by simpa using hin
   have u1':decide ((i:Int)<(n:Int))=true:=by simpa using hin
   have u2:(i:Int)<(n:Int):=by omega
   have u3:(0:Int)<=(i:Int):=by omega
   have u4:IntKind.i64.wrap ((i:Int)+1)=(i:Int)+1:=by have:=HN.out;rw[zqah];omega
   have HI:=zHd (zAI hin hf);clear hi' hin hf;go_wp2;generalize wr=wq at *
   go_loopw [7] (fun jv wr=>∃ (j:Nat) (vs:List Value),j<=n/\jv=.int .i64 (j:Int)/\zaU none n w w.heap.size i j vs (fun _ _=>zae k) wr) (fun jv _=>n-(intOf jv).toNat)
   case atStart=>exact⟨0,vs,zqaw _,rfl,HI.out.2⟩
   case round =>
    obtain⟨j,vs2,hj',rfl,hf⟩:=hrel
    by_cases hjn:j<n
    ·have x1:decide (j<n)=true:=by simpa using hjn
     have x1':decide ((j:Int)<(n:Int))=true:=(by simpa using hjn);have x2:(j:Int)<(n:Int):=(by omega);have x3:(0:Int)<=(j:Int):=(by omega);have x4:IntKind.i64.wrap ((j:Int)+1)=(j:Int)+1:=(by have:=HN.out;rw[zqah];omega);obtain⟨v,hv,hvc,hvo,hvn,A,c,rfl⟩:=hf.at_ HI.out.1;have k0:wr.drew.cell? ⟨w.heap.size,i,none⟩=some (.slice A j c):=hvc;have HX:=zHd (zAI hjn (zAI hf (zAI True.intro (zAI True.intro hv))));clear hj' hjn hf hv hvc hvo hvn;go_upto_region 8 with(fail);refine zex (e:=11) (n:=11) (fun W':World=>W'.cell? ⟨w.heap.size,i,none⟩=some (.slice A j c)) (by kernel_rfl) (by kernel_rfl) rfl ?_;have hS0:(fun W':World=>W'.cell? ⟨w.heap.size,i,none⟩=some (.slice A j c)) wr.drew:=k0;refine zTk 0 (.slice (some ⟨w.heap.size,0,none⟩) n n) rfl hS0 ?_;(try simp only[zS,Act.put]);refine zTk 1 (.int .i64 (i:Int)) rfl hS0 ?_;(try simp only[zS,Act.put]);refine zTk 2 (.slice (some ⟨w.heap.size,0,none⟩) n n) rfl hS0 ?_;(try simp only[zS,Act.put]);refine zTk 3 (.int .i64 (i:Int)) rfl hS0 ?_;(try simp only[zS,Act.put]);refine zTk 4 (.pointer (some ⟨w.heap.size,i,none⟩)) rfl hS0 ?_;(try simp only[zS,Act.put]);refine zTk 5 (.slice A j c) rfl hS0 ?_;(try simp only[zS,Act.put]);refine zTk 6 (.int .i64 k) rfl hS0 ?_;(try simp only[zS,Act.put]);refine zqcc (rs:=[7]) (by kernel_rfl) (by simp) ?_;refine AllReadyH.cons rfl (fun K hK=>?_) AllReadyH.nil;go_simp;refine(zdf k _).mono ?_;rintro e w5 ⟨rfl,hg5⟩;have hf5:=HX.out.2.1.kept (zaa (zag wr none) hg5);obtain⟨v5,hv5,hvc5,hvo5,_⟩:=hf5.at_ HI.out.1;obtain rfl:v5=.slice A j c:=by have h:=hv5.symm.trans HX.out.2.2.2.2;cases h;rfl
     refine hK.out _ _ hvc5 (fun hHeld=>?_);refine zqcc (rs:=[8]) (by kernel_rfl) (by simp) ?_;refine AllReadyH.cons rfl (fun K hK=>?_) AllReadyH.nil;go_simp;have hal:=zGA w5 (.cells #[.string (zae k)] 9) none;refine hK.out _ _ (hal.cell hvc5 (by simp)) (fun hHeld=>?_);refine zqcc (rs:=[9]) (by kernel_rfl) (by simp) ?_;refine AllReadyH.cons rfl (fun K hK=>?_) AllReadyH.nil;refine step_append_lies _ (by rfl) _ _ _ (by rfl) (w.heap.size+1) 9 j0 (.string ⟨#[]⟩) 1 16 Tryz.underlying33 ji jz0 jz1 jz2 rfl (by omega) (.slice A j c) j (zbz n (fun _ _=>zae k) i j i) (by rfl) (hvo5.alloc _) ⟨w5.heap.size,0,none⟩ 1 1 [.string (zae k)] (by rfl) (by rfl) (World.news_of_block (cs:=#[.string (zae k)]) (t:=9) (fr:=(0,0)) (zqce w5 _)) (by simp[Value.oneCell']) (by omega) (by have:=HN.out;have:=HX.out.1;unfold maxLen;omega) (by have:=HN.out;have:=HX.out.1;omega) (by have:=hf5.grid.lt;first|(simp;omega)|(simp at this ⊢;omega)) (w5.heap.size+1) (by simp) ?_;intro g2 cap W6 hown6 hgrow hat hlt6;have hrd:=hf5.ready hv5 hgrow;have z0:=hrd.2;have q0:=hrd.1;refine hK.out _ _ hrd.1 (fun hHeld=>?_);refine zTk 10 (.pointer (some ⟨w.heap.size,i,none⟩)) rfl hHeld ?_;(try simp only[zS,Act.put]);clear hHeld;refine wpAnyH_done (by kernel_rfl) ?_ _;refine zfL (by rfl) (fun K hK=>?_);go_simp;refine hK _ _ ?_;have hput:=hf5.put HI.out.1 HX.out.1 hv5 hgrow hown6 hat;have HP:=zHd hput;clear hput hgrow hown6 hat hrd;go_wp2;have hfin:=HP.out.1;rw[zBm] at hfin;exact⟨⟨j+1,_,HX.out.1,by simp,hfin⟩,by have:=HX.out.1;simp[intOf];omega⟩
    ·obtain rfl:j=n:=by omega
     have v1:decide (j<j)=false:=(by simp);have v1':decide ((j:Int)<(j:Int))=false:=(by simp);have HJ:=zHd hf;clear hj' hjn hf;go_wp2;exact⟨⟨i+1,vs2,HI.out.1,by simp,HJ.out.row⟩,by have:=HI.out.1;simp[intOf];omega⟩
  ·obtain rfl:i=n:=by omega
   have u1:decide (i<i)=false:=by simp
   have u1':decide ((i:Int)<(i:Int))=false:=by simp
   have HJ:=zHd hf;clear hi' hin hf;go_wp2;go_ret;exact⟨_,vs,rfl,HJ.out⟩
open Go.RowKit
theorem zaU.lift {n sb:Nat}{w w2:World}{g i j:Nat}{vs:List Value}{G:Nat->Nat->ByteArray}{wr:World}(h:zaU none n w2 g i j vs G wr)(hg:w.grownBy w2 (some sb))(hsb:sb<w.heap.size):zaU (some sb) n w g i j vs G wr :=
 ⟨h.len,h.grid,zaa hg (zaS h.gr),zqam hg.size h.far,fun b e=>by cases e;exact hsb⟩
theorem zaU.since {n sb:Nat}{w w2:World}{g i j:Nat}{vs:List Value}{G:Nat->Nat->ByteArray}{wr:World}(h:zaU (some sb) n w2 g i j vs G wr)(hg:w.grownBy w2 (some sb))(hsb:sb<w.heap.size):zaU (some sb) n w g i j vs G wr :=
 ⟨h.len,h.grid,zaa hg h.gr,zqam hg.size h.far,fun b e=>by cases e;exact hsb⟩
theorem zaU.blocks {r:Option Nat}{n:Nat}{w:World}{g:Nat}{vs:List Value}{G:Nat->Nat->ByteArray}{wr:World}(h:zaU r n w g n 0 vs G wr) :
  ∃ rb cb:Nat->Nat,∀ i,i<n->vs[i]?=some (.slice (some ⟨rb i,0,none⟩) n (cb i))/\wr.cell? ⟨g,i,none⟩=some (.slice (some ⟨rb i,0,none⟩) n (cb i))/\g<rb i/\rb i<wr.heap.size/\n<=cb i /\
   (∃ cur:List Value,wr.heap[rb i]?=some (.cells cur.toArray 9 (0,0))/\n<=cur.length)/\∀ j,j<n->wr.cell? ⟨rb i,j,none⟩=some (.string (G i j))/\wr.frozen? ⟨rb i,j,none⟩=false:=by
 have hex:∀ i,∃ p:Nat×Nat,i<n->vs[i]?=some (.slice (some ⟨p.1,0,none⟩) n p.2)/\wr.cell? ⟨g,i,none⟩=some (.slice (some ⟨p.1,0,none⟩) n p.2)/\g<p.1/\p.1<wr.heap.size/\n<=p.2 /\
   (∃ cur:List Value,wr.heap[p.1]?=some (.cells cur.toArray 9 (0,0))/\n<=cur.length)/\∀ j,j<n->wr.cell? ⟨p.1,j,none⟩=some (.string (G i j))/\wr.frozen? ⟨p.1,j,none⟩=false:=by
  intro i
  by_cases hi:i<n
  ·have hv:vs[i]?=some (vs[i]'(by rw[h.len];exact hi)):=zqac (by rw[h.len];exact hi)
   have ho:=h.grid.own i _ hv;rw[zeg,zdX hi] at ho;have hc0:=h.grid.cell hv;rcases ho.2 with⟨e,h0⟩|⟨c,cap,cur,e,hb,hg,h1,h2,h3,h4⟩
   ·omega
   ·rw[e] at hv hc0
    refine⟨(c,cap),fun _=>⟨hv,hc0,by show g<c;omega,(zqad.1 hg).1,h1,⟨cur.toList,hg,by rw[zqbs];show n<=_;omega⟩,fun j hj=>⟨?_,zqbx wr c j _ _ hg⟩⟩⟩
    have hc:=ho.cells (g:=c) (by rw[e];rfl) j (.string (G i j)) (by
     unfold zbz;rw[zqaj,zqbe (by rw[zdX hi];exact hj)];rfl)
    rw[zcl,zqat] at hc;exact hc
  ·exact⟨(0,0),fun h=>absurd h hi⟩
 exact⟨fun i=>(hex i).choose.1,fun i=>(hex i).choose.2,fun i hi=>(hex i).choose_spec hi⟩
theorem zaU.copy {r:Option Nat}{n:Nat}{w:World}{g i c cap:Nat}{vs:List Value}{G:Nat->Nat->ByteArray}{wr W':World}{GA:Nat->ByteArray}{cur:List Value}(h:zaU r n w g n 0 vs G wr)(hi:i<n)(hv:vs[i]?=some (.slice (some ⟨c,0,none⟩) n cap))
  (hc:wr.heap[c]?=some (.cells cur.toArray 9 (0,0))) (hl:n<=cur.length) (hb:W'.heap[c]?=some (.cells (splice cur 0 ((List.range n).map (fun y=>Value.string (GA y)))).toArray 9 (0,0))) (hg:wr.grownBy W' (some c)) :
  zaU r n w g n 0 vs (fun x y=>if x=i then GA y else G x y) W':=by
 have ho:=h.grid.own i _ hv;rw[zeg,zdX hi] at ho;have hcg:=(ho.lt c rfl).1;have hfar:=h.far;refine⟨h.len,⟨(hg.block g h.grid.lt (by simp;omega)).trans h.grid.row,fun x u hx=>?_,h.grid.dis⟩,zaj h.gr hg (by omega),h.far,h.low⟩
 by_cases e:x=i
 ·subst e
  rw[hv] at hx;cases hx;rw[zeg,zdX hi]
  have er:zbz n (fun a y=>if a=x then GA y else G a y) n 0 x=(List.range n).map (fun y=>Value.string (GA y)):=by
   unfold zbz;rw[zdX hi];simp
  rw[er];refine⟨by simp,?_⟩;rcases ho.2 with⟨e,h0⟩|⟨g',cap',cur',e,hb',hg',h1,h2,h3,h4⟩
  ·omega
  ·simp only[Value.slice.injEq,Option.some.injEq,Addr.mk.injEq,and_true,true_and] at e
   obtain⟨rfl,rfl⟩:=e;rw[hc] at hg';have hcc:cur'=cur.toArray:=by simpa using hg'.symm
   refine .inr ⟨c,cap,_,rfl,hb',hb,h1,h2,?_,?_⟩
   ·rw[hcc] at h3
    have h3:cur.length=cap*1:=(by simpa using h3);simp[splice];omega
   ·simp[splice]
 ·have e2:zbz n (fun a y=>if a=i then GA y else G a y) n 0 x=zbz n G n 0 x:=by
   unfold zbz;refine List.map_congr_left (fun y _=>?_);show Value.string (if x=i then GA y else G x y)=_;rw[if_neg e]
  rw[e2];refine(h.grid.own x u hx).kept hg ?_;have:=h.grid.dis x i u _ e hx hv;rcases this with h1|h1
  ·exact .inl h1
  ·exact .inr h1
structure zwE {k:Int}(hk:zad k)(A:Nat->Nat->El k)(n:Nat):Prop where
 star:∀ t,t<n->zam ((srE k hk).star (el (srE k hk) A t t t))
 once:∀ t i,t<n->i<n->zam ((srE k hk).mul (el (srE k hk) A t i t) ((srE k hk).star (el (srE k hk) A t t t)))
 twice:∀ t i j,t<n->i<n->j<n->zam ((srE k hk).mul ((srE k hk).mul (el (srE k hk) A t i t) ((srE k hk).star (el (srE k hk) A t t t))) (el (srE k hk) A t t j))
 sum:∀ t i j,t<n->i<n->j<n->zam (el (srE k hk) A (t+1) i j)
 last:∀ i,i<n->zam (stM (srE k hk) A n i i)
structure AtR {k:Int}(hk:zad k)(A:Nat->Nat->El k)(n:Nat)(bad:Bool)(M:Nat->Nat->El k)(G:Nat->Nat->ByteArray)(U:Nat->Nat->El k)(b1:Bool):Prop where
 tx:∀ i j,i<n->j<n->G i j=tx (U i j)/\zam (U i j)
 good:b1=false->bad=false/\∀ i j,i<n->j<n->U i j=M i j
 keeps:bad=false->zwE hk A n->b1=false
def zng {α:Type}(U:Nat->Nat->α)(i j:Nat)(u:α)(x y:Nat):α:=if x=i/\y=j then u else U x y
theorem zJR {k:Int}(U:Nat->Nat->El k)(i j:Nat)(u:El k){G:Nat->Nat->ByteArray}{x y:Nat}(h:G x y=tx (U x y)):zdS G i j (tx u) x y=tx (zng U i j u x y):=by
 unfold zdS zng;split
 ·rfl
 ·exact h
theorem zza {k:Int}(hk:zad k)(A:Nat->Nat->El k){t i j:Nat}(h:el (srE k hk) A t i t=(srE k hk).zero∨el (srE k hk) A t t j=(srE k hk).zero):el (srE k hk) A (t+1) i j=el (srE k hk) A t i j:=by
 show(srE k hk).add (el (srE k hk) A t i j) ((srE k hk).mul ((srE k hk).mul (el (srE k hk) A t i t) ((srE k hk).star (el (srE k hk) A t t t))) (el (srE k hk) A t t j))=_;rcases h with h|h
 ·rw[h,(srE k hk).zero_mul,(srE k hk).zero_mul,(srE k hk).add_zero]
 ·rw[h,(srE k hk).mul_zero,(srE k hk).add_zero]
theorem zJS {k:Int}(hk:zad k)(A:Nat->Nat->El k){n i j:Nat}(h:i≠j):stM (srE k hk) A n i j=el (srE k hk) A n i j:=by
 unfold stM idm;rw[if_neg h,(srE k hk).zero_add]
theorem zEV {k:Int}(hk:zad k)(A:Nat->Nat->El k)(n i:Nat):stM (srE k hk) A n i i=(srE k hk).add (srE k hk).one (el (srE k hk) A n i i):=by
 unfold stM idm;rw[if_pos rfl]
theorem zJT {k:Int}(hk:zad k)(w:World):Calls Tryz.prog 92 #[.int .i64 k] w (zab (.string (tx (srE k hk).one)) w):=by
 rw[zvq hk];exact zoE k w
open Go.RowKit
theorem zKR (l:List UInt8):zdB l<=l.length:=by unfold zdB;exact List.length_filter_le _ _
theorem zHY {a:ByteArray}{k:Nat}(hk:k<a.size):zdB (a.data.toList.take (k+1))=zdB (a.data.toList.take k)+(if zcf a[k]=true then 1 else 0):=by
 have hk2:k<a.data.toList.length:=by rw[zqbs];exact hk
 rw[List.take_add_one,zqac hk2,znL];have e:a.data.toList[k]=a[k]:=by rw[Array.getElem_toList];rfl
 rw[e];congr 1;show zdB [a[k]]=_;unfold zdB
 by_cases h:zcf a[k]=true
 ·rw[if_pos h];simp[h]
 ·rw[if_neg h];simp[h]
theorem zqJ (a:ByteArray)(w:World)(hs:a.size<=maxLen):Calls Tryz.prog 48 #[.string a] w (zab (.bool (decide (zdB a.data.toList<=4))) w):=by
 have HS:=zHd hs;unfold maxLen at hs;go_enter Tryz.func48,Tryz.ntmps48;go_wp2
 go_loopw [3,4] (fun nv iv wr=>∃ (k c:Nat),k<=a.size/\nv=.int .i64 (c:Int)/\iv=.int .i64 (k:Int)/\c=zdB (a.data.toList.take k)/\wr=w) (fun _ iv _=>a.size-(intOf iv).toNat)
 case atStart=>exact⟨0,0,zqaw _,rfl,rfl,rfl,rfl⟩
 case round =>
  obtain⟨k,c,hk,rfl,rfl,hc,rfl⟩:=hrel;have hck:c<=k:=by rw[hc];exact zqam (zKR _) (by rw[zqan];omega)
  have HC:=zHd hc
  by_cases hlt:k<a.size
  ·have n1:IntKind.i64.wrap ((k:Int)+1)=(k:Int)+1:=by rw[zqah];omega
   have n2:IntKind.i64.wrap ((c:Int)+1)=(c:Int)+1:=by rw[zqah];omega
   have HST:=zHd (zHY hlt);clear hc
   by_cases h48:(48:Int)<=(a[k].toNat:Int)
   ·by_cases h57:(a[k].toNat:Int)<=57
    ·have hd:=znn a[k] (by omega) (by omega)
     have HD:=zHd hd;clear hd;go_wp2;refine⟨⟨k+1,c+1,hlt,by simp,by simp,?_,by first|rfl|trivial⟩,by simp[intOf];omega⟩;rw[HST.out,if_pos HD.out,HC.out]
    ·have hd:=zgw a[k] (.inr (by omega))
     have HD:=zHd hd;clear hd;go_wp2;refine⟨⟨k+1,c,hlt,rfl,by simp,?_,by first|rfl|trivial⟩,by simp[intOf];omega⟩;rw[HST.out,if_neg (by rw[HD.out];decide),HC.out,Nat.add_zero]
   ·have hd:=zgw a[k] (.inl (by omega))
    have HD:=zHd hd;clear hd;go_wp2;refine⟨⟨k+1,c,hlt,rfl,by simp,?_,by first|rfl|trivial⟩,by simp[intOf];omega⟩;rw[HST.out,if_neg (by rw[HD.out];decide),HC.out,Nat.add_zero]
  ·have hke:k=a.size:=by omega
   have hce:c=zdB a.data.toList:=by
    rw[hc,hke];congr 1;exact zqaf (by rw[zqbs];exact zqab _)
   have HE:=zHd hce;clear hc hce hke
   by_cases h4:c<=4
   ·have t1:decide (c<=4)=true:=by simpa using h4
    have t2:decide ((c:Int)<=4)=true:=(by simp;omega);have t3:(c:Int)<=4:=(by omega);go_wp2;go_ret;exact⟨by rw[<- HE.out];first|rfl|simp[h4],World.grownBy.refl _ _⟩
   ·have t1:decide (c<=4)=false:=by simpa using h4
    have t2:decide ((c:Int)<=4)=false:=(by simp;omega);have t3:¬ (c:Int)<=4:=(by omega);go_wp2;go_ret;exact⟨by rw[<- HE.out];first|rfl|simp[h4],World.grownBy.refl _ _⟩
def zJU {k:Int}(hk:zad k)(n:Nat)(A:Nat->Nat->El k)(w:World)(e:Ending)(w':World):Prop :=
 ∃ b:Bool,e=.returned (.bool b)/\(b=true->n<=5/\(∀ x y,x<n->y<n->Sh4 (A x y).1)/\ns n (fun x=>(nzL (srE k hk) (A x) n).length)<=10)/\w.grownBy w' none
theorem zso {α:Type}(S:Sr α)[DecidableEq α](f:Nat->α):∀ n,(nzL S f n).length<=n
 | 0=>zqab _
 | n+1=>by
  show(nzL S f n++(if f n=S.zero then [] else [(n,f n)])).length<=n+1;rw[zqag];have:=zso S f n;split <;> simp <;> omega
theorem zwF (f:Nat->Nat){m:Nat}:∀ n,(∀ x,x<n->f x<=m)->ns n f<=n*m
 | 0,_=>by show 0<=0*m;omega
 | n+1,h=>by
  show ns n f+f n<=(n+1)*m;have h1:=zwF f n (fun x hx=>h x (by omega));have h2:=h n (by omega);rw[Nat.add_mul,Nat.one_mul];omega
theorem zxM {k:Int}(hk:zad k)(n:Nat)(G:Nat->Nat->ByteArray)(A:Nat->Nat->El k)(av:Value)(w:World)(hn:n<=9)(ha:zcx w av n (fun _=>n) G)(hA:∀ i j,i<n->j<n->G i j=tx (A i j)/\zam (A i j)) :
  Calls Tryz.prog 14 #[.int .i64 k,av] w (zJU hk n A w):=by
 obtain⟨rs,⟨Aa,ca,rfl,_,_,ha3⟩,hr⟩:=ha;have HA:=zHd ha3;have HR:=zHd hr;have HN:=zHd hn;have HAE:=zHd hA;clear ha3 hr hn hA;go_enter Tryz.func14,Tryz.ntmps14;go_wp2
 go_loopw [5,6] (fun cv iv wr=>∃ (i c:Nat),i<=n/\cv=.int .i64 (c:Int)/\iv=.int .i64 (i:Int)/\w.grownBy wr none/\c=ns i (fun x=>(nzL (srE k hk) (A x) n).length)/\∀ x y,x<i->y<n->Sh4 (A x y).1) (fun _ iv _=>n-(intOf iv).toNat)
 case atStart=>exact⟨0,0,zqaw _,rfl,rfl,World.grownBy.refl _ _,rfl,fun x y hx=>absurd hx (by omega)⟩
 case round =>
  obtain⟨i,c,hi',rfl,rfl,hg,hc,hsh⟩:=hrel
  by_cases hin:i<n
  ·have u1:decide (i<n)=true:=by simpa using hin
   have u1':decide ((i:Int)<(n:Int))=true:=by simpa using hin
   have u2:(i:Int)<(n:Int):=by omega
   have u3:(0:Int)<=(i:Int):=by omega
   have u4:IntKind.i64.wrap ((i:Int)+1)=(i:Int)+1:=by have:=HN.out;rw[zqah];omega
   have hcb:c<=81:=by
    rw[hc];refine zqam (zwF _ (m:=9) i (fun x _=>zqam (zso _ _ _) HN.out)) ?_;have:=HN.out;omega
   obtain⟨ad,rfl,hb,hca⟩:=HA.out i hin;obtain⟨Ai,ci,hre,_,_,hi3⟩:=HR.out i hin;rw[hre] at hca;have HI:=zHd (zAI hin (zAI hg (zAI hc (zAI hsh hcb))));have H3:=zHd hi3;have HCA:=zHd (zAI hb hca);clear hi' hin hg hc hsh hb hca hre hi3;go_wp2;generalize wr=wq at *
   go_loopw [5,7] (fun cv jv wr=>∃ (j c2:Nat),j<=n/\cv=.int .i64 (c2:Int)/\jv=.int .i64 (j:Int)/\w.grownBy wr none/\c2=c+(nzL (srE k hk) (A i) j).length/\∀ y,y<j->Sh4 (A i y).1) (fun _ jv _=>n-(intOf jv).toNat)
   case atStart=>exact⟨0,c,zqaw _,rfl,rfl,HI.out.2.1,rfl,fun y hy=>absurd hy (by omega)⟩
   case round =>
    obtain⟨j,c2,hj',rfl,rfl,hg,hc2,hsh⟩:=hrel;have q1:wr.cell? (ad.add i)=some (.slice Ai n ci):=hg.cell HCA.out.2 (by simp)
    by_cases hjn:j<n
    ·have x1:decide (j<n)=true:=by simpa using hjn
     have x1':decide ((j:Int)<(n:Int))=true:=(by simpa using hjn);have x2:(j:Int)<(n:Int):=(by omega);have x3:(0:Int)<=(j:Int):=(by omega);have x4:IntKind.i64.wrap ((j:Int)+1)=(j:Int)+1:=(by have:=HN.out;rw[zqah];omega);have hl:=zso (srE k hk) (A i) j;have x5:IntKind.i64.wrap ((c2:Int)+1)=(c2:Int)+1:=(by have:=HN.out;have:=HI.out.2.2.2.2;rw[zqah];omega);obtain⟨rd,rfl,hrb,hrc⟩:=H3.out j hjn;obtain⟨eG,fG⟩:=HAE.out i j HI.out.1 hjn;rw[eG] at hrc;have q2:wr.cell? (rd.add j)=some (.string (tx (A i j))):=hg.cell hrc (by simp);have d1:wr.drew.cell? (ad.add i)=some (.slice (some rd) n ci):=q1;have d2:wr.drew.cell? (rd.add j)=some (.string (tx (A i j))):=q2
     have hstep:(nzL (srE k hk) (A i) (j+1)).length=(nzL (srE k hk) (A i) j).length+(if A i j=(srE k hk).zero then 0 else 1):=by
      show(nzL (srE k hk) (A i) j++(if A i j=(srE k hk).zero then [] else [(j,A i j)])).length=_;rw[zqag];split <;> rfl
     have HJ:=zHd (zAI hjn (zAI hg (zAI hc2 (zAI hsh (zAI fG hstep)))));have HRC:=zHd (zAI hrb hrc);clear hj' hjn hg hc2 hsh hrb hrc eG fG hstep hl q2;rcases zcI (tx (A i j)) (zae k) with⟨f1,z1⟩|⟨f1,z1⟩
     ·have f2:((tx (A i j)).toList != (zae k).toList)=false:=by simp[bne,f1]
      have HZ:=zHd (zec hk HJ.out.2.2.2.2.1 z1);clear z1;go_upto_region 8 with(fail)
      go_region_held2 (fun W'=>W'.cell? (ad.add i)=some (.slice (some rd) n ci)/\W'.cell? (rd.add j)=some (.string (tx (A i j)))) (first|exact⟨d1,d2⟩|exact S5|go_keep)
       (first|(go_at_call 47;refine(zdf k _).mono ?_;rintro e w5 ⟨rfl,hg5⟩;have S5:(fun W':World=>W'.cell? (ad.add i)=some (.slice (some rd) n ci)/\W'.cell? (rd.add j)=some (.string (tx (A i j)))) w5:=⟨hg5.cell d1 (by simp),hg5.cell d2 (by simp)⟩;have H5:=zHd (zaa HJ.out.2.1 (zaa (zag wr none) hg5));clear hg5))
      all_goals
       obtain⟨s1,s2⟩:=S5;clear d1 d2 q1;have hsz:=zyZ HJ.out.2.2.2.2.1;go_wp2_with fail;refine(zqJ _ _ hsz).mono ?_;rintro e w6 ⟨rfl,hg6⟩;have H6:=zHd (zaa H5.out hg6);clear hg6 hsz;cases hd:decide (zdB (tx (A i j)).data.toList<=4)
       ·go_wp2
        go_ret;exact⟨false,rfl,fun h=>(by cases h),H6.out⟩
       ·have HD:=zHd (of_decide_eq_true hd)
        clear hd;go_wp2;refine⟨⟨j+1,c2,HJ.out.1,rfl,by simp,H6.out,?_,fun y hy=>?_⟩,by have:=HJ.out.1;simp[intOf];omega⟩
        ·rw[HJ.out.2.2.2.2.2,if_pos HZ.out,HJ.out.2.2.1];rfl
        ·by_cases e:y<j
         ·exact HJ.out.2.2.2.1 y e
         ·rw[show y=j by omega];exact zwl (zlf HJ.out.2.2.2.2.1) HD.out
     ·have f2:((tx (A i j)).toList != (zae k).toList)=true:=by simp[bne,f1]
      have HZ:Hid (¬ A i j=(srE k hk).zero):=zHd (fun h=>z1 (by rw[h,zdG]));clear z1;go_upto_region 8 with(fail)
      go_region_held2 (fun W'=>W'.cell? (ad.add i)=some (.slice (some rd) n ci)/\W'.cell? (rd.add j)=some (.string (tx (A i j)))) (first|exact⟨d1,d2⟩|exact S5|go_keep)
       (first|(go_at_call 47;refine(zdf k _).mono ?_;rintro e w5 ⟨rfl,hg5⟩;have S5:(fun W':World=>W'.cell? (ad.add i)=some (.slice (some rd) n ci)/\W'.cell? (rd.add j)=some (.string (tx (A i j)))) w5:=⟨hg5.cell d1 (by simp),hg5.cell d2 (by simp)⟩;have H5:=zHd (zaa HJ.out.2.1 (zaa (zag wr none) hg5));clear hg5))
      all_goals
       obtain⟨s1,s2⟩:=S5;clear d1 d2 q1;have hsz:=zyZ HJ.out.2.2.2.2.1;go_wp2_with fail;refine(zqJ _ _ hsz).mono ?_;rintro e w6 ⟨rfl,hg6⟩;have H6:=zHd (zaa H5.out hg6);clear hg6 hsz;cases hd:decide (zdB (tx (A i j)).data.toList<=4)
       ·go_wp2
        go_ret;exact⟨false,rfl,fun h=>(by cases h),H6.out⟩
       ·have HD:=zHd (of_decide_eq_true hd)
        clear hd;go_wp2;refine⟨⟨j+1,c2+1,HJ.out.1,by simp,by simp,H6.out,?_,fun y hy=>?_⟩,by have:=HJ.out.1;simp[intOf];omega⟩
        ·rw[HJ.out.2.2.2.2.2,if_neg HZ.out,HJ.out.2.2.1];omega
        ·by_cases e:y<j
         ·exact HJ.out.2.2.2.1 y e
         ·rw[show y=j by omega];exact zwl (zlf HJ.out.2.2.2.2.1) HD.out
    ·obtain rfl:n=j:=by omega
     have x1:decide (n<n)=false:=(by simp);have x1':decide ((n:Int)<(n:Int))=false:=(by simp);have HJ:=zHd (zAI hg (zAI hc2 hsh));clear hj' hjn hg hc2 hsh;go_wp2;refine⟨⟨i+1,c2,HI.out.1,rfl,by simp,HJ.out.1,?_,fun x y hx hy=>?_⟩,by have:=HI.out.1;simp[intOf];omega⟩
     ·rw[HJ.out.2.1,HI.out.2.2.1];rfl
     ·by_cases e:x<i
      ·exact HI.out.2.2.2.1 x y e hy
      ·rw[show x=i by omega];exact HJ.out.2.2 y hy
  ·obtain rfl:n=i:=by omega
   have u1:decide (n<n)=false:=by simp
   have u1':decide ((n:Int)<(n:Int))=false:=by simp
   have HI:=zHd (zAI hg (zAI hc hsh));clear hi' hin hg hc hsh
   by_cases h5:n<=5
   ·have y1:decide ((n:Int)<=5)=true:=by simp;omega
    have y2:(n:Int)<=5:=by omega
    by_cases h10:c<=10
    ·have z1:decide ((c:Int)<=10)=true:=by simp;omega
     have z2:(c:Int)<=10:=(by omega);have HB:=zHd (zAI h5 h10);clear h5 h10;go_wp2;go_ret;exact⟨true,rfl,fun _=>⟨HB.out.1,fun x y hx hy=>HI.out.2.2 x y hx hy,by rw[<- HI.out.2.1];exact HB.out.2⟩,HI.out.1⟩
    ·have z1:decide ((c:Int)<=10)=false:=by simp;omega
     have z2:¬ (c:Int)<=10:=(by omega);clear h5 h10;go_wp2;go_ret;exact⟨false,rfl,fun h=>(by cases h),HI.out.1⟩
   ·have y1:decide ((n:Int)<=5)=false:=by simp;omega
    have y2:¬ (n:Int)<=5:=(by omega);clear h5;go_wp2;go_ret;exact⟨false,rfl,fun h=>(by cases h),HI.out.1⟩
end Go.Proofs.YtaogepcaoogpgaaGreatDoor
