/- Part. -/
import Derived.Test.YtadgpgofcjpnjaaGreatDoorZK25
set_option linter.unusedVariables false
set_option linter.defProp false
set_option linter.unusedSimpArgs false
set_option maxRecDepth 100000
set_option maxHeartbeats 16000000
namespace Go.Proofs.YtadgpgofcjpnjaaGreatDoor
open Go.Proofs.Tryz
open Go.RowKit
section
variable {α:Type} (S:Sr α)
def zfo (Y:Nat)(g:Nat->Nat->α)(i j:Nat):α:=S.add (sm S i (fun r=>sm S (Y+1) (fun c=>g r c))) (sm S j (fun c=>g i c))
def zlI (Y:Nat)(g:Nat->Nat->α):zfo S Y g 0 0=S.zero:=S.add_zero _
def ziG (Y:Nat)(g:Nat->Nat->α)(i j:Nat):zfo S Y g i (j+1)=S.add (zfo S Y g i j) (g i j):=by
 unfold zfo;rw[S.add_assoc];rfl
def zpb (Y:Nat)(g:Nat->Nat->α)(i:Nat):zfo S Y g (i+1) 0=zfo S Y g i (Y+1):=by
 unfold zfo;show S.add (S.add _ _) S.zero=_;rw[S.add_zero]
def zuO (X Y:Nat)(g:Nat->Nat->α):zfo S Y g (X+1) 0=grid S X Y g:=S.add_zero _
end
def zie (x:List Nat)(i p:Nat):(x.drop i).take p=zcc x i (i+p):=by
 unfold zcc;rw[Nat.add_sub_cancel_left]
def zwx (x:List Nat)(i:Nat):zcc x i x.length=x.drop i:=by
 unfold zcc;rw[<- List.length_drop,List.take_length]
def zhN {x:List Nat}{i:Nat}(hi:i<=x.length):x.drop i=[]↔i=x.length:=by
 rw[List.drop_eq_nil_iff];omega
def zhO {x:List Nat}{i p:Nat}(hp:p<=x.length-i):(x.drop i).take p=[]↔p=0:=by
 rw[List.take_eq_nil_iff];constructor
 ·rintro (h|h)
  ·exact h
  rw[List.drop_eq_nil_iff] at h;omega
 exact fun h=>.inl h
def zwy (x:List Nat){i p:Nat}:zcc x i i=[]:=by unfold zcc;simp
section
variable {k:Int} (hk:zam k)
def zBK (x y:List Nat){i j:Nat}(f:List Nat->List Nat->List Nat->List Nat->El k) :
  sp (srE k hk) (x.drop i) (y.drop j) f=zfo (srE k hk) (y.length-j) (fun p q=>f (zcc x i (i+p)) (x.drop (i+p)) (zcc y j (j+q)) (y.drop (j+q))) (x.length-i+1) 0:=by
 rw[zuO,zxE,List.length_drop,List.length_drop];refine zef (fun p q _ _=>?_);rw[zie,zie,List.drop_drop,List.drop_drop]
def zGF (x y:List Nat){i j:Nat}(f:List Nat->List Nat->List Nat->List Nat->El k) :
  spx (srE k hk) (x.drop i) (y.drop j) f=zfo (srE k hk) (y.length-j) (fun p q=>if p=0/\q=0 then (srE k hk).zero else f (zcc x i (i+p)) (x.drop (i+p)) (zcc y j (j+q)) (y.drop (j+q))) (x.length-i+1) 0:=by
 unfold spx;rw[zuO,zxE,List.length_drop,List.length_drop];refine zef (fun p q hp hq=>?_);rw[zie,zie,List.drop_drop,List.drop_drop,<- zie,<- zie]
 by_cases h:p=0/\q=0
 rw[if_pos h,if_pos ⟨(zhO hp).2 h.1,(zhO hq).2 h.2⟩];rw[if_neg h,if_neg (fun e=>h ⟨(zhO hp).1 e.1,(zhO hq).1 e.2⟩)]
noncomputable def eps0 (x y:List Nat)(i j:Nat):El k:=if i=x.length/\j=y.length then (srE k hk).one else (srE k hk).zero
def zrB (x y:List Nat){i j:Nat}(hi:i<=x.length)(hj:j<=y.length):zfa (srE k hk) (x.drop i) (y.drop j)=eps0 hk x y i j:=by
 unfold zfa eps0
 by_cases h:i=x.length/\j=y.length
 rw[if_pos h,if_pos ⟨(zhN hi).2 h.1,(zhN hj).2 h.2⟩];rw[if_neg h,if_neg (fun e=>h ⟨(zhN hi).1 e.1,(zhN hj).1 e.2⟩)]
noncomputable def starG (a:zah)(x y:List Nat)(i j p q:Nat):El k:=if p=0/\q=0 then (srE k hk).zero else (srE k hk).mul (VL hk a (zcc x i (i+p)) (zcc y j (j+q))) (VL hk (zbt (zak k) a) (x.drop (i+p)) (y.drop (j+q)))
def zEI {a:zah}(ha:validB a=true)(x y:List Nat){i j:Nat}(hi:i<=x.length)(hj:j<=y.length) :
  VL hk (zbt (zak k) a) (x.drop i) (y.drop j)=(srE k hk).mul ((srE k hk).star (VL hk a (zcc x i i) (zcc y j j))) ((srE k hk).add (eps0 hk x y i j) (zfo (srE k hk) (y.length-j) (starG hk a x y i j) (x.length-i+1) 0)):=by
 have h:=zlz (S:=srE k hk) (zcB hk) (zcC hk) (zch hk) (zeI hk) (zbB ha) (x.drop i) (y.drop j);rw[show VL hk (zbt (zak k) a) (x.drop i) (y.drop j)=_ from h,zGF,zrB hk x y hi hj,zwy (p:=0),zwy (p:=0)];rfl
noncomputable def powV (a:zah)(most n:Nat)(u v:List Nat):El k:=ziL (srE k hk) (VL hk a) most n u v
noncomputable def powG (a:zah)(x y:List Nat)(most n i j p q:Nat):El k:=(srE k hk).mul (VL hk a (zcc x i (i+p)) (zcc y j (j+q))) (powV hk a most (n-1) (x.drop (i+p)) (y.drop (j+q)))
noncomputable def pow0 (n:Nat)(x y:List Nat)(i j:Nat):El k:=if n=0 then eps0 hk x y i j else (srE k hk).zero
def zEJ (a:zah)(n:Nat)(x y:List Nat){i j:Nat}(hi:i<=x.length)(hj:j<=y.length):powV hk a 0 n (x.drop i) (y.drop j)=pow0 hk n x y i j:=by
 unfold powV ziL pow0;rw[zrB hk x y hi hj]
def zGG (a:zah)(most n:Nat)(x y:List Nat){i j:Nat}(hi:i<=x.length)(hj:j<=y.length) :
  powV hk a (most+1) n (x.drop i) (y.drop j)=(srE k hk).add (pow0 hk n x y i j) (zfo (srE k hk) (y.length-j) (powG hk a x y most n i j) (x.length-i+1) 0):=by
 unfold powV pow0;unfold ziL;rw[zBK,zrB hk x y hi hj];rfl
def zyD {a:zah}(ha:validB a=true)(n most:Nat)(u v:List Nat):VL hk (zaJ (zak k) a n most) u v=powV hk a most n u v :=
 zhI (S:=srE k hk) (zcB hk) (zcC hk) (zch hk) (zeI hk) (zbB ha) n most u v
noncomputable def catG (a b:zah)(x y:List Nat)(i j:Nat):El k:=(srE k hk).mul (VL hk a (zcc x 0 i) (zcc y 0 j)) (VL hk b (zcc x i x.length) (zcc y j y.length))
def zyE {a b:zah}{lead:ByteArray}(hl:vE hk lead=(srE k hk).mul (vE hk a.lead) (vE hk b.lead))(ha:validB a=true)(hb:validB b=true)(x y:List Nat) :
  VL hk (zba lead a b) x y=zfo (srE k hk) y.length (catG hk a b x y) (x.length+1) 0:=by
 have h:=zly (S:=srE k hk) (zcB hk) (zcC hk) hl (zbB ha) (zbB hb) x y;have h2:=zBK hk x y (i:=0) (j:=0) (fun p q r s=>(srE k hk).mul (VL hk a p r) (VL hk b q s));rw[List.drop_zero,List.drop_zero,Nat.sub_zero,Nat.sub_zero] at h2;rw[show VL hk (zba lead a b) x y=_ from h];refine h2.trans ?_;congr 1;funext i j;unfold catG;rw[zqat,zqat,zwx,zwx]
end
end Go.Proofs.YtadgpgofcjpnjaaGreatDoor
