/- Part. -/
import Derived.Test.YtadgpgofcjpnjaaGreatDoorZK17
import Derived.Test.YtadgpgofcjpnjaaGreatDoorZK49
import Derived.Test.YtadgpgofcjpnjaaGreatDoorZK27
set_option linter.unusedVariables false
set_option linter.defProp false
set_option linter.unusedSimpArgs false
set_option maxRecDepth 100000
set_option maxHeartbeats 16000000
namespace Go.Proofs.YtadgpgofcjpnjaaGreatDoor
open Go.Proofs.Tryz
open Go.RowKit
def zdt (x y:List Nat)(z:Int):Bool:=decide (x.map (fun s:Nat=>(s:Int))=[z]/\y.map (fun s:Nat=>(s:Int))=[z])
def zso {zs:List Int}{i:Nat}(f:Int->Bool)(h:i<zs.length):(zs.take (i+1)).any f=((zs.take i).any f || f (zs.getD i 0)):=by
 rw[List.take_add_one,zqac h,List.any_append,zqaa,zqac h];simp
def zkP {x y:List Nat}{z:Int}(h:zdt x y z=true):x.length=1/\y.length=1:=by
 have:=of_decide_eq_true h;have h1:=zqbz List.length this.1;have h2:=zqbz List.length this.2;simpa using zAI h1 h2
def zhp (a b:Nat)(z:Int):zdt [a] [b] z=decide ((a:Int)=z/\(b:Int)=z):=by unfold zdt;simp
def zpc {zs:List Int}(h:zs.all zaI=true)(s:Nat):s∈ziO zs↔(s:Int)∈zs:=by
 unfold ziO;rw[List.mem_filter,List.mem_range,zqca];constructor;exact fun h=>h.2;intro hm;have:=List.all_eq_true.1 h _ hm;unfold zaI at this;have:=of_decide_eq_true this;exact⟨by omega,hm⟩
def zES {zs:List Int}(h:zs.all zaI=true):∀ s∈ziO zs,1<=s/\s<=500:=fun s hs=>by
 have hm:=(zpc h s).1 hs;have:=List.all_eq_true.1 h _ hm;unfold zaI at this;have:=of_decide_eq_true this;omega
def zqy (zs:List Int):(ziO zs).Nodup:=List.Pairwise.filter _ List.nodup_range
def zuR {zs:List Int}(h:zs.all zaI=true):(ziO zs).length<=500:=by
 have e:List.range 501=0::(List.range 500).map Nat.succ:=List.range_succ_eq_map (n:=500);unfold ziO;rw[e,List.filter_cons_of_neg];exact zqam (List.length_filter_le _ _) (by simp);intro h2;have h3:((0:Nat):Int)∈zs:=of_decide_eq_true h2;have:=List.all_eq_true.1 h _ h3;unfold zaI at this;have:=of_decide_eq_true this;omega
def zwz {x y:List Nat}{zs:List Int}(h:zs.all zaI=true):(∃ s,s∈ziO zs/\x=[s]/\y=[s])↔zs.any (zdt x y)=true:=by
 rw[List.any_eq_true];constructor
 ·rintro ⟨s,hs,rfl,rfl⟩
  exact⟨(s:Int),(zpc h s).1 hs,by rw[zhp];simp⟩
 rintro ⟨z,hz,hh⟩;obtain⟨h1,h2⟩:=zkP hh;obtain⟨a,rfl⟩:=List.length_eq_one_iff.1 h1;obtain⟨b,rfl⟩:=List.length_eq_one_iff.1 h2;rw[zhp] at hh;obtain⟨e1,e2⟩:=of_decide_eq_true hh;exact⟨a,(zpc h a).2 (by rw[e1];exact hz),rfl,by rw[show b=a by omega]⟩
set_option maxHeartbeats 64000000 in
def zop (k:Int)(zs:List Int)(lv:Value){w:World}(hl:zax w lv zs)(bl:zs.length<=140737488355328)(zx zy:List Int)(xv yv:Value)(hx:zax w xv zx)(hy:zax w yv zy)(bx:zx.length<=140737488355328)(by':zy.length<=140737488355328)(h:2000<zs.length∨(decide (zx.length+zy.length<=6)&&(zat zx&&zat zy))=false) :
  Calls prog 4 #[.int .i64 k,lv,xv,yv] w (zab (.bool true) w):=by
 have HWD:=zHd (zdH zx zy xv yv w hx hy bx by');generalize (decide (zx.length+zy.length<=6)&&(zat zx&&zat zy))=bw at HWD h;have HH:=zHd h;have HG:=zHd (World.grownBy.refl w none);obtain⟨Al,cl,rfl,_⟩:=hl;clear h bl bx by' hx hy;go_enter func4,ntmps4
 by_cases h2:2000<zs.length
 ·have t0:decide ((2000:Int)<(zs.length:Int))=true:=by rw[zqca];omega
  clear h2;go_wp2_with fail;exact zQab
 have t0:decide ((2000:Int)<(zs.length:Int))=false:=by rw[decide_eq_false_iff_not];omega
 obtain rfl:bw=false:=by rcases HH.out with h|h;exact absurd h h2;exact h
 clear h2;go_wp2_with fail;refine HWD.out.mono ?_;rintro e w1 ⟨rfl,hg⟩;have HG:=zHd hg;clear hg t0;go_wp2_with fail;exact zQab
def zaQ (w:World)(n:Nat):w.grownBy (w.drewN n) none:=by
 induction n with
 | zero=>exact World.grownBy.refl _ _
 | succ n ih=>exact zaa ih (zag _ none)
set_option maxHeartbeats 64000000 in
def zvJ (k:Int)(zs:List Int)(lv:Value){w:World}(hl:zax w lv zs)(bl:zs.length<=140737488355328)(x y:List Nat)(xv yv:Value)(hx:WIn w xv x)(hy:WIn w yv y)(h2000:zs.length<=2000)(hxy:x.length+y.length<=6)(hgd:¬ (zbv k=true/\zs.all zaI=true)) :
  Calls prog 4 #[.int .i64 k,lv,xv,yv] w (zab (.bool true) w):=by
 obtain⟨z0,hz⟩:∃ z,zao=z:=⟨_,rfl⟩
 have HLT:=zHd (fun w' (h:w.grownBy w' none)=>by
  have:=zhM k zs lv w' (hl.grown h) (by omega);rw[show lettersV k zs=(z0,1) by unfold lettersV;rw[if_neg hgd,hz]] at this;exact this)
 have hbad:(!zbv k || !zs.all zaI)=true:=by
  cases h1:zbv k;rfl;cases h2:zs.all zaI
  ·rfl
  exact absurd ⟨h1,h2⟩ hgd
 have HBAD:=zHd hbad;have HWD:=zHd (zcx hx hy hxy);have HRK:=zHd (zjd k);generalize zbv k=bk at *;obtain⟨n,hn⟩:∃ n,zs.length=n:=⟨_,rfl⟩;have HALL:=zHd (zAI (List.take_length (l:=zs)) hn);have hl0:=hl;unfold zax at hl0;rw[hn] at hl0;obtain⟨Al,cl,rfl,hlc⟩:=hl0;have HLC:=zHd hlc.2.2;have hx0:=hx.at';have hy0:=hy.at';obtain⟨Ax,cx,rfl⟩:=hx.form;obtain⟨Ay,cy,rfl⟩:=hy.form;unfold zax at hx0 hy0;rw[zqbn] at hx0 hy0
 have HXC:Hid (∀ a,x=[a]->∃ ad,Ax=some ad/\w.cell? ad=some (.int .i64 (a:Int))):=zHd (fun a ha=>by
  obtain⟨A',c',e,_,_,h3⟩:=hx0;obtain⟨rfl,rfl⟩:A'=Ax/\c'=cx:=by simp at e;exact⟨e.1.symm,e.2.symm⟩
  subst ha;obtain⟨ad,e1,_,e3⟩:=h3 0 (by simp);rw[ziF] at e3;exact⟨ad,e1,by simpa using e3⟩)
 have HYC:Hid (∀ a,y=[a]->∃ ad,Ay=some ad/\w.cell? ad=some (.int .i64 (a:Int))):=zHd (fun a ha=>by
  obtain⟨A',c',e,_,_,h3⟩:=hy0;obtain⟨rfl,rfl⟩:A'=Ay/\c'=cy:=by simp at e;exact⟨e.1.symm,e.2.symm⟩
  subst ha;obtain⟨ad,e1,_,e3⟩:=h3 0 (by simp);rw[ziF] at e3;exact⟨ad,e1,by simpa using e3⟩)
 have t0:decide ((2000:Int)<(n:Int))=false:=by rw[decide_eq_false_iff_not];omega
 have HN:=zHd (show n<=2000 by omega);have HG:=zHd (World.grownBy.refl w none);have HHIT:=zHd (fun i (h:i<n)=>zso (zs:=zs) (i:=i) (zdt x y) (by rw[hn];exact h));have HSYM:=zHd (fun i (h:i<n)=>zkk (zs:=zs) (i:=i) (by rw[hn];exact h));clear hx hy hx0 hy0 hxy;generalize hlx:x.length=lx at *;generalize hly:y.length=ly at *;have HLX:=zHd (zAI hlx hly);clear hl bl h2000 hgd hbad hn hlc hlx hly hz;go_enter func4,ntmps4;go_wp2_with fail;refine HWD.out.mono ?_;rintro e w1 ⟨rfl,hg⟩;have HG:=zHd hg;clear hg t0 HWD;go_wp2_with fail;refine(HLT.out _ HG.out).mono ?_;intro e wm h3;obtain⟨Atm,ktm,rfl,hst3,hg3⟩:=h3.open6;have hga:=zGA wm (.cells #[.int .i64 z0.kind,.int .i64 z0.start,.string z0.lead,.slice Atm z0.states.length ktm] 29) none;have hgg:=zaa hg3 hga;have HG:=zHd (zaa HG.out hgg);have HEm:=zHd (Ex9.new hst3);clear h3 hst3 hg3 hga hgg;go_upto_region 4 with(fail);generalize wm.alloc (.cells #[.int .i64 z0.kind,.int .i64 z0.start,.string z0.lead,.slice Atm z0.states.length ktm] 29)=wmm at *;go_wp2_with fail;refine(HRK.out _).mono ?_;rintro e w5 ⟨rfl,hg⟩;have HG:=zHd (zaa HG.out hg);have HEm:=zHd (HEm.out.grown hg);clear hg;go_wp2
 go_loopw [11,12,13] (fun bv sv iv wr=>∃ i:Nat,i<=n/\iv=.int .i64 (i:Int)/\bv=.bool (!bk || !(zs.take i).all zaI)/\sv=.bool ((zs.take i).any (zdt x y))/\w5.grownBy wr none) (fun _ _ iv _=>n-(intOf iv).toNat)
 case atStart=>exact⟨0,zqaw _,rfl,by simp,by simp,World.grownBy.refl _ _⟩
 case round =>
  obtain⟨i,hin,rfl,rfl,rfl,hg⟩:=hrel
  by_cases hi:i<n
  ·have u1:decide (i<n)=true:=by simpa using hi
   have u1':decide ((i:Int)<(n:Int))=true:=by rw[zqca];omega
   have u2:(i:Int)<(n:Int):=by omega
   have u3:(0:Int)<=(i:Int):=by omega
   have u4:IntKind.i64.wrap ((i:Int)+1)=(i:Int)+1:=by have:=HN.out;rw[zqah];omega
   obtain⟨ad,rfl,hb,hc⟩:=HLC.out i hi;have hc2:=(zaa HG.out hg).cell hc (by simp);have e1:=HHIT.out i hi;have e2:=HSYM.out i hi;generalize zs.getD i 0=z at *;generalize (zs.take i).all zaI=A1 at *;generalize (zs.take i).any (zdt x y)=A2 at *;have HI:=zHd (zAI hi (zAI e1 (zAI e2 hg)));have HCL:=zHd hc;clear hin hi hb hc e1 e2 hg;go_upto_region 9 with(fail);clear u1 u1'
   go_cut [11] from 34 to 85 (fun bv wx=>bv=.bool ((!bk || !A1) || !zaI z)/\wx=wr)
   case first =>
    generalize hb0:(!bk || !A1)=b0 at *;cases b0
    ·by_cases hz1:z<1
     ·have g1:decide (z<1)=true:=by simpa using hz1
      have HZ:Hid (zaI z=false):=zHd (by unfold zaI;simp;omega);clear hz1;exact zQbj
     have g1:decide (z<1)=false:=by simpa using hz1
     by_cases hz2:(500:Int)<z
     ·have g2:decide ((500:Int)<z)=true:=by simpa using hz2
      have HZ:Hid (zaI z=false):=zHd (by unfold zaI;simp;omega);clear hz1 hz2;exact zQbj
     have g2:decide ((500:Int)<z)=false:=(by simpa using hz2);have HZ:Hid (zaI z=true):=zHd (by unfold zaI;simp;omega);clear hz1 hz2;exact zQbj
    go_wp2;go_meet;exact ⟨by simp,rfl⟩
   case rest =>
    obtain⟨rfl,hwr⟩:=hcut;subst hwr;go_upto_region 10 with(fail);cases A2
    ·by_cases h1:lx=1
     ·have v1:((lx:Int)==1)=true:=by rw[beq_iff_eq];omega
      by_cases h2:ly=1
      ·have v2:((ly:Int)==1)=true:=by rw[beq_iff_eq];omega
       obtain⟨a0,rfl⟩:=List.length_eq_one_iff.1 (HLX.out.1.trans h1);obtain⟨b0,rfl⟩:=List.length_eq_one_iff.1 (HLX.out.2.trans h2);obtain⟨adx,rfl,hcx⟩:=HXC.out a0 rfl;obtain⟨ady,rfl,hcy⟩:=HYC.out b0 rfl;have hcx2:=(zaa HG.out HI.out.2.2.2).cell hcx (by simp);have hcy2:=(zaa HG.out HI.out.2.2.2).cell hcy (by simp);clear hcx hcy;have n1:(0:Int)<(lx:Int):=(by omega);have n2:(0:Int)<(ly:Int):=(by omega);clear h1 h2
       by_cases h3:(a0:Int)=z
       ·have v3:((a0:Int)==z)=true:=by rw[beq_iff_eq];exact h3
        by_cases h4:(b0:Int)=z
        ·have v4:((b0:Int)==z)=true:=by rw[beq_iff_eq];exact h4
         have HZ:=zHd (show zdt [a0] [b0] z=true by rw[zhp];exact decide_eq_true ⟨h3,h4⟩);clear h3 h4
         go_quiet (fail)
         go_wp2
         go_roundw
         case rel=>first
          | exact⟨i+1,HI.out.1,by simp,by rw[HI.out.2.2.1];cases bk <;> cases A1 <;> simp,by rw[HI.out.2.1];exact zqbz Value.bool (by rw[HZ.out];first|rfl|trivial),zaa HI.out.2.2.2 (zaQ _ _)⟩
          | ((repeat apply Exists.intro);exact⟨⟨i+1,HI.out.1,by simp,by rw[HI.out.2.2.1];cases bk <;> cases A1 <;> simp,by rw[HI.out.2.1];exact zqbz Value.bool (by rw[HZ.out];first|rfl|trivial),zaa HI.out.2.2.2 (zaQ _ _)⟩,rfl⟩)
         case measure=>have:=HI.out.1;simp[intOf];omega
        have v4:((b0:Int)==z)=false:=(by rw[beq_eq_false_iff_ne];exact h4);have HZ:=zHd (show zdt [a0] [b0] z=false by rw[zhp];exact zqcb (fun h=>h4 h.2));clear h3 h4
        go_quiet (fail)
        go_wp2
        go_roundw
        case rel=>first
         | exact⟨i+1,HI.out.1,by simp,by rw[HI.out.2.2.1];cases bk <;> cases A1 <;> simp,by rw[HI.out.2.1];exact zqbz Value.bool (by rw[HZ.out];first|rfl|trivial),zaa HI.out.2.2.2 (zaQ _ _)⟩
         | ((repeat apply Exists.intro);exact⟨⟨i+1,HI.out.1,by simp,by rw[HI.out.2.2.1];cases bk <;> cases A1 <;> simp,by rw[HI.out.2.1];exact zqbz Value.bool (by rw[HZ.out];first|rfl|trivial),zaa HI.out.2.2.2 (zaQ _ _)⟩,rfl⟩)
        case measure=>have:=HI.out.1;simp[intOf];omega
       have v3:((a0:Int)==z)=false:=(by rw[beq_eq_false_iff_ne];exact h3);have HZ:=zHd (show zdt [a0] [b0] z=false by rw[zhp];exact zqcb (fun h=>h3 h.1));clear h3
       go_quiet (fail)
       go_wp2
       go_roundw
       case rel=>first
        | exact⟨i+1,HI.out.1,by simp,by rw[HI.out.2.2.1];cases bk <;> cases A1 <;> simp,by rw[HI.out.2.1];exact zqbz Value.bool (by rw[HZ.out];first|rfl|trivial),zaa HI.out.2.2.2 (zaQ _ _)⟩
        | ((repeat apply Exists.intro);exact⟨⟨i+1,HI.out.1,by simp,by rw[HI.out.2.2.1];cases bk <;> cases A1 <;> simp,by rw[HI.out.2.1];exact zqbz Value.bool (by rw[HZ.out];first|rfl|trivial),zaa HI.out.2.2.2 (zaQ _ _)⟩,rfl⟩)
       case measure=>have:=HI.out.1;simp[intOf];omega
      have v2:((ly:Int)==1)=false:=(by rw[beq_eq_false_iff_ne];omega);have HZ:Hid (zdt x y z=false):=zHd (by cases e:zdt x y z;rfl;exact absurd (HLX.out.2.symm.trans (zkP e).2) h2);clear h1 h2
      go_quiet (fail)
      go_wp2
      go_roundw
      case rel=>first
       | exact⟨i+1,HI.out.1,by simp,by rw[HI.out.2.2.1];cases bk <;> cases A1 <;> simp,by rw[HI.out.2.1];exact zqbz Value.bool (by rw[HZ.out];first|rfl|trivial),zaa HI.out.2.2.2 (zaQ _ _)⟩
       | ((repeat apply Exists.intro);exact⟨⟨i+1,HI.out.1,by simp,by rw[HI.out.2.2.1];cases bk <;> cases A1 <;> simp,by rw[HI.out.2.1];exact zqbz Value.bool (by rw[HZ.out];first|rfl|trivial),zaa HI.out.2.2.2 (zaQ _ _)⟩,rfl⟩)
      case measure=>have:=HI.out.1;simp[intOf];omega
     have v1:((lx:Int)==1)=false:=(by rw[beq_eq_false_iff_ne];omega);have HZ:Hid (zdt x y z=false):=zHd (by cases e:zdt x y z;rfl;exact absurd (HLX.out.1.symm.trans (zkP e).1) h1);clear h1
     go_quiet (fail)
     go_wp2
     go_roundw
     case rel=>first
      | exact⟨i+1,HI.out.1,by simp,by rw[HI.out.2.2.1];cases bk <;> cases A1 <;> simp,by rw[HI.out.2.1];exact zqbz Value.bool (by rw[HZ.out];first|rfl|trivial),zaa HI.out.2.2.2 (zaQ _ _)⟩
      | ((repeat apply Exists.intro);exact⟨⟨i+1,HI.out.1,by simp,by rw[HI.out.2.2.1];cases bk <;> cases A1 <;> simp,by rw[HI.out.2.1];exact zqbz Value.bool (by rw[HZ.out];first|rfl|trivial),zaa HI.out.2.2.2 (zaQ _ _)⟩,rfl⟩)
     case measure=>have:=HI.out.1;simp[intOf];omega
    go_quiet (fail)
    go_wp2
    go_roundw
    case rel=>first
     | exact⟨i+1,HI.out.1,by simp,by rw[HI.out.2.2.1];cases bk <;> cases A1 <;> simp,by rw[HI.out.2.1];exact zqbz Value.bool (by simp),zaa HI.out.2.2.2 (zaQ _ _)⟩
     | ((repeat apply Exists.intro);exact⟨⟨i+1,HI.out.1,by simp,by rw[HI.out.2.2.1];cases bk <;> cases A1 <;> simp,by rw[HI.out.2.1];exact zqbz Value.bool (by simp),zaa HI.out.2.2.2 (zaQ _ _)⟩,rfl⟩)
    case measure=>have:=HI.out.1;simp[intOf];omega
  have u1:decide (i<n)=false:=by simpa using hi
  have u1':decide ((i:Int)<(n:Int))=false:=by rw[decide_eq_false_iff_not];omega
  have u2:¬ (i:Int)<(n:Int):=by omega
  obtain rfl:i=n:=by omega
  have HB2:Hid ((!bk || !(zs.take i).all zaI)=true):=zHd (by have:=HBAD.out;have e:=HALL.out.1;rw[HALL.out.2] at e;rw[e];exact this);rw[HB2.out];have HEm:=zHd (HEm.out.grown hg);have HG:=zHd (zaa HG.out hg);clear hin hi hg;go_wp2_with fail;exact zQab
set_option maxHeartbeats 64000000 in
def zyK (k:Int)(zs:List Int)(lv:Value){w:World}(hl:zax w lv zs)(bl:zs.length<=140737488355328)(x y:List Nat)(xv yv:Value)(hx:WIn w xv x)(hy:WIn w yv y)(h2000:zs.length<=2000)(hxy:x.length+y.length<=6)(hgd:zbv k=true/\zs.all zaI=true) :
  Calls prog 4 #[.int .i64 k,lv,xv,yv] w (zab (.bool true) w):=by
 have hk:zam k:=(zbQ _).1 hgd.1;obtain⟨m,hm⟩:∃ m:zah,m=zcb k (zak k) (ziO zs):=⟨_,rfl⟩;have hsy:=zES hgd.2;have hmv:validB m=true:=by rw[hm];exact ziN hgd.1 (fun s h=>(hsy s h).2) (zuR hgd.2)
 have hmd:detB m=true:=by rw[hm];exact zvI hgd.1 hsy (zuR hgd.2) (zqy zs)
 have hmk:m.kind=k:=by rw[hm];rfl
 have hml:m.states.length=2:=by rw[hm];rfl
 have zV:VL hk m x y=if zs.any (zdt x y)=true then (srE k hk).one else (srE k hk).zero:=by
  rw[hm];refine(zoh (S:=srE k hk) (zcB hk) (zcC hk) k (zch hk) (zeI hk) (zqy zs) (fun s h=>(hsy s h).1) (fun s h=>(hx.sym s h).1) (fun s h=>(hy.sym s h).1)).trans ?_
  by_cases hh:zs.any (zdt x y)=true
  rw[if_pos hh,if_pos ((zwz hgd.2).2 hh)];rw[if_neg hh,if_neg (fun h=>hh ((zwz hgd.2).1 h))]
 have HBU:Hid (Calls prog 22 #[.int .i64 k,lv] w.drew.drew (zbb (m,0) w.drew.drew)∨True):=zHd (.inr trivial)
 have HLT:=zHd (fun w' (h:w.grownBy w' none)=>by
  have:=zhM k zs lv w' (hl.grown h) (by omega);rw[show lettersV k zs=(m,0) by unfold lettersV;rw[if_pos hgd,hm]] at this;exact this)
 have HH1:Hid (∀ w' mv' want,zan w' mv' m->w.grownBy w' none->(zav (VL hk m x y)->want=tx (VL hk m x y))->Calls prog 20 #[mv',.int .i64 k,xv,yv,.string want] w' (zab (.bool true) w')):=zHd (fun w' mv' want h1 hg hwant=>zek hk want h1 hmv hmk (hx.grown hg) (hy.grown hg) hwant);have HDT:=zHd (fun w' mv' (h1:zan w' mv' m)=>by have:=zDM h1 (zaq hmv);rw[hmd] at this;exact this);have HV:=zHd (zAI zV (zAI (zbJ hk) (zmF hk)));have t9:decide ((m.states.length:Int)<=2)=true:=by rw[zqca,hml];omega
 have HT9:=zHd t9;have hbad:(!zbv k || !zs.all zaI)=false:=by rw[hgd.1,hgd.2];rfl
 clear HBU t9 hsy;have HBAD:=zHd hbad;have HWD:=zHd (zcx hx hy hxy);have HRK:=zHd (zjd k);generalize zbv k=bk at *;obtain⟨n,hn⟩:∃ n,zs.length=n:=⟨_,rfl⟩;have HALL:=zHd (zAI (List.take_length (l:=zs)) hn);have hl0:=hl;unfold zax at hl0;rw[hn] at hl0;obtain⟨Al,cl,rfl,hlc⟩:=hl0;have HLC:=zHd hlc.2.2;have hx0:=hx.at';have hy0:=hy.at';obtain⟨Ax,cx,rfl⟩:=hx.form;obtain⟨Ay,cy,rfl⟩:=hy.form;unfold zax at hx0 hy0;rw[zqbn] at hx0 hy0
 have HXC:Hid (∀ a,x=[a]->∃ ad,Ax=some ad/\w.cell? ad=some (.int .i64 (a:Int))):=zHd (fun a ha=>by
  obtain⟨A',c',e,_,_,h3⟩:=hx0;obtain⟨rfl,rfl⟩:A'=Ax/\c'=cx:=by simp at e;exact⟨e.1.symm,e.2.symm⟩
  subst ha;obtain⟨ad,e1,_,e3⟩:=h3 0 (by simp);rw[ziF] at e3;exact⟨ad,e1,by simpa using e3⟩)
 have HYC:Hid (∀ a,y=[a]->∃ ad,Ay=some ad/\w.cell? ad=some (.int .i64 (a:Int))):=zHd (fun a ha=>by
  obtain⟨A',c',e,_,_,h3⟩:=hy0;obtain⟨rfl,rfl⟩:A'=Ay/\c'=cy:=by simp at e;exact⟨e.1.symm,e.2.symm⟩
  subst ha;obtain⟨ad,e1,_,e3⟩:=h3 0 (by simp);rw[ziF] at e3;exact⟨ad,e1,by simpa using e3⟩)
 have t0:decide ((2000:Int)<(n:Int))=false:=by rw[decide_eq_false_iff_not];omega
 have HN:=zHd (show n<=2000 by omega);have HG:=zHd (World.grownBy.refl w none);have HHIT:=zHd (fun i (h:i<n)=>zso (zs:=zs) (i:=i) (zdt x y) (by rw[hn];exact h));have HSYM:=zHd (fun i (h:i<n)=>zkk (zs:=zs) (i:=i) (by rw[hn];exact h));clear hx hy hx0 hy0 hxy;generalize hlx:x.length=lx at *;generalize hly:y.length=ly at *;have HLX:=zHd (zAI hlx hly);clear hl bl h2000 hgd hbad hn hlc hlx hly hm hmv hmd hmk hml zV;go_enter func4,ntmps4;go_wp2_with fail;refine HWD.out.mono ?_;rintro e w1 ⟨rfl,hg⟩;have HG:=zHd hg;clear hg t0 HWD;go_wp2_with fail;refine(HLT.out _ HG.out).mono ?_;intro e wm h3;obtain⟨Atm,ktm,rfl,hst3,hg3⟩:=h3.open6;have hga:=zGA wm (.cells #[.int .i64 m.kind,.int .i64 m.start,.string m.lead,.slice Atm m.states.length ktm] 29) none;have hgg:=zaa hg3 hga;have HG:=zHd (zaa HG.out hgg);have HEm:=zHd (Ex9.new hst3);clear h3 hst3 hg3 hga hgg;go_upto_region 4 with(fail);generalize wm.alloc (.cells #[.int .i64 m.kind,.int .i64 m.start,.string m.lead,.slice Atm m.states.length ktm] 29)=wmm at *;go_wp2_with fail;refine(HRK.out _).mono ?_;rintro e w5 ⟨rfl,hg⟩;have HG:=zHd (zaa HG.out hg);have HEm:=zHd (HEm.out.grown hg);clear hg;go_wp2
 go_loopw [11,12,13] (fun bv sv iv wr=>∃ i:Nat,i<=n/\iv=.int .i64 (i:Int)/\bv=.bool (!bk || !(zs.take i).all zaI)/\sv=.bool ((zs.take i).any (zdt x y))/\w5.grownBy wr none) (fun _ _ iv _=>n-(intOf iv).toNat)
 case atStart=>exact⟨0,zqaw _,rfl,by simp,by simp,World.grownBy.refl _ _⟩
 case round =>
  obtain⟨i,hin,rfl,rfl,rfl,hg⟩:=hrel
  by_cases hi:i<n
  ·have u1:decide (i<n)=true:=by simpa using hi
   have u1':decide ((i:Int)<(n:Int))=true:=by rw[zqca];omega
   have u2:(i:Int)<(n:Int):=by omega
   have u3:(0:Int)<=(i:Int):=by omega
   have u4:IntKind.i64.wrap ((i:Int)+1)=(i:Int)+1:=by have:=HN.out;rw[zqah];omega
   obtain⟨ad,rfl,hb,hc⟩:=HLC.out i hi;have hc2:=(zaa HG.out hg).cell hc (by simp);have e1:=HHIT.out i hi;have e2:=HSYM.out i hi;generalize zs.getD i 0=z at *;generalize (zs.take i).all zaI=A1 at *;generalize (zs.take i).any (zdt x y)=A2 at *;have HI:=zHd (zAI hi (zAI e1 (zAI e2 hg)));have HCL:=zHd hc;clear hin hi hb hc e1 e2 hg;go_upto_region 9 with(fail);clear u1 u1'
   go_cut [11] from 34 to 85 (fun bv wx=>bv=.bool ((!bk || !A1) || !zaI z)/\wx=wr)
   case first =>
    generalize hb0:(!bk || !A1)=b0 at *;cases b0
    ·by_cases hz1:z<1
     ·have g1:decide (z<1)=true:=by simpa using hz1
      have HZ:Hid (zaI z=false):=zHd (by unfold zaI;simp;omega);clear hz1;exact zQbj
     have g1:decide (z<1)=false:=by simpa using hz1
     by_cases hz2:(500:Int)<z
     ·have g2:decide ((500:Int)<z)=true:=by simpa using hz2
      have HZ:Hid (zaI z=false):=zHd (by unfold zaI;simp;omega);clear hz1 hz2;exact zQbj
     have g2:decide ((500:Int)<z)=false:=(by simpa using hz2);have HZ:Hid (zaI z=true):=zHd (by unfold zaI;simp;omega);clear hz1 hz2;exact zQbj
    go_wp2;go_meet;exact ⟨by simp,rfl⟩
   case rest =>
    obtain⟨rfl,hwr⟩:=hcut;subst hwr;go_upto_region 10 with(fail);cases A2
    ·by_cases h1:lx=1
     ·have v1:((lx:Int)==1)=true:=by rw[beq_iff_eq];omega
      by_cases h2:ly=1
      ·have v2:((ly:Int)==1)=true:=by rw[beq_iff_eq];omega
       obtain⟨a0,rfl⟩:=List.length_eq_one_iff.1 (HLX.out.1.trans h1);obtain⟨b0,rfl⟩:=List.length_eq_one_iff.1 (HLX.out.2.trans h2);obtain⟨adx,rfl,hcx⟩:=HXC.out a0 rfl;obtain⟨ady,rfl,hcy⟩:=HYC.out b0 rfl;have hcx2:=(zaa HG.out HI.out.2.2.2).cell hcx (by simp);have hcy2:=(zaa HG.out HI.out.2.2.2).cell hcy (by simp);clear hcx hcy;have n1:(0:Int)<(lx:Int):=(by omega);have n2:(0:Int)<(ly:Int):=(by omega);clear h1 h2
       by_cases h3:(a0:Int)=z
       ·have v3:((a0:Int)==z)=true:=by rw[beq_iff_eq];exact h3
        by_cases h4:(b0:Int)=z
        ·have v4:((b0:Int)==z)=true:=by rw[beq_iff_eq];exact h4
         have HZ:=zHd (show zdt [a0] [b0] z=true by rw[zhp];exact decide_eq_true ⟨h3,h4⟩);clear h3 h4
         go_quiet (fail)
         go_wp2
         go_roundw
         case rel=>first
          | exact⟨i+1,HI.out.1,by simp,by rw[HI.out.2.2.1];cases bk <;> cases A1 <;> simp,by rw[HI.out.2.1];exact zqbz Value.bool (by rw[HZ.out];first|rfl|trivial),zaa HI.out.2.2.2 (zaQ _ _)⟩
          | ((repeat apply Exists.intro);exact⟨⟨i+1,HI.out.1,by simp,by rw[HI.out.2.2.1];cases bk <;> cases A1 <;> simp,by rw[HI.out.2.1];exact zqbz Value.bool (by rw[HZ.out];first|rfl|trivial),zaa HI.out.2.2.2 (zaQ _ _)⟩,rfl⟩)
         case measure=>have:=HI.out.1;simp[intOf];omega
        have v4:((b0:Int)==z)=false:=(by rw[beq_eq_false_iff_ne];exact h4);have HZ:=zHd (show zdt [a0] [b0] z=false by rw[zhp];exact zqcb (fun h=>h4 h.2));clear h3 h4
        go_quiet (fail)
        go_wp2
        go_roundw
        case rel=>first
         | exact⟨i+1,HI.out.1,by simp,by rw[HI.out.2.2.1];cases bk <;> cases A1 <;> simp,by rw[HI.out.2.1];exact zqbz Value.bool (by rw[HZ.out];first|rfl|trivial),zaa HI.out.2.2.2 (zaQ _ _)⟩
         | ((repeat apply Exists.intro);exact⟨⟨i+1,HI.out.1,by simp,by rw[HI.out.2.2.1];cases bk <;> cases A1 <;> simp,by rw[HI.out.2.1];exact zqbz Value.bool (by rw[HZ.out];first|rfl|trivial),zaa HI.out.2.2.2 (zaQ _ _)⟩,rfl⟩)
        case measure=>have:=HI.out.1;simp[intOf];omega
       have v3:((a0:Int)==z)=false:=(by rw[beq_eq_false_iff_ne];exact h3);have HZ:=zHd (show zdt [a0] [b0] z=false by rw[zhp];exact zqcb (fun h=>h3 h.1));clear h3
       go_quiet (fail)
       go_wp2
       go_roundw
       case rel=>first
        | exact⟨i+1,HI.out.1,by simp,by rw[HI.out.2.2.1];cases bk <;> cases A1 <;> simp,by rw[HI.out.2.1];exact zqbz Value.bool (by rw[HZ.out];first|rfl|trivial),zaa HI.out.2.2.2 (zaQ _ _)⟩
        | ((repeat apply Exists.intro);exact⟨⟨i+1,HI.out.1,by simp,by rw[HI.out.2.2.1];cases bk <;> cases A1 <;> simp,by rw[HI.out.2.1];exact zqbz Value.bool (by rw[HZ.out];first|rfl|trivial),zaa HI.out.2.2.2 (zaQ _ _)⟩,rfl⟩)
       case measure=>have:=HI.out.1;simp[intOf];omega
      have v2:((ly:Int)==1)=false:=(by rw[beq_eq_false_iff_ne];omega);have HZ:Hid (zdt x y z=false):=zHd (by cases e:zdt x y z;rfl;exact absurd (HLX.out.2.symm.trans (zkP e).2) h2);clear h1 h2
      go_quiet (fail)
      go_wp2
      go_roundw
      case rel=>first
       | exact⟨i+1,HI.out.1,by simp,by rw[HI.out.2.2.1];cases bk <;> cases A1 <;> simp,by rw[HI.out.2.1];exact zqbz Value.bool (by rw[HZ.out];first|rfl|trivial),zaa HI.out.2.2.2 (zaQ _ _)⟩
       | ((repeat apply Exists.intro);exact⟨⟨i+1,HI.out.1,by simp,by rw[HI.out.2.2.1];cases bk <;> cases A1 <;> simp,by rw[HI.out.2.1];exact zqbz Value.bool (by rw[HZ.out];first|rfl|trivial),zaa HI.out.2.2.2 (zaQ _ _)⟩,rfl⟩)
      case measure=>have:=HI.out.1;simp[intOf];omega
     have v1:((lx:Int)==1)=false:=(by rw[beq_eq_false_iff_ne];omega);have HZ:Hid (zdt x y z=false):=zHd (by cases e:zdt x y z;rfl;exact absurd (HLX.out.1.symm.trans (zkP e).1) h1);clear h1
     go_quiet (fail)
     go_wp2
     go_roundw
     case rel=>first
      | exact⟨i+1,HI.out.1,by simp,by rw[HI.out.2.2.1];cases bk <;> cases A1 <;> simp,by rw[HI.out.2.1];exact zqbz Value.bool (by rw[HZ.out];first|rfl|trivial),zaa HI.out.2.2.2 (zaQ _ _)⟩
      | ((repeat apply Exists.intro);exact⟨⟨i+1,HI.out.1,by simp,by rw[HI.out.2.2.1];cases bk <;> cases A1 <;> simp,by rw[HI.out.2.1];exact zqbz Value.bool (by rw[HZ.out];first|rfl|trivial),zaa HI.out.2.2.2 (zaQ _ _)⟩,rfl⟩)
     case measure=>have:=HI.out.1;simp[intOf];omega
    go_quiet (fail)
    go_wp2
    go_roundw
    case rel=>first
     | exact⟨i+1,HI.out.1,by simp,by rw[HI.out.2.2.1];cases bk <;> cases A1 <;> simp,by rw[HI.out.2.1];exact zqbz Value.bool (by simp),zaa HI.out.2.2.2 (zaQ _ _)⟩
     | ((repeat apply Exists.intro);exact⟨⟨i+1,HI.out.1,by simp,by rw[HI.out.2.2.1];cases bk <;> cases A1 <;> simp,by rw[HI.out.2.1];exact zqbz Value.bool (by simp),zaa HI.out.2.2.2 (zaQ _ _)⟩,rfl⟩)
    case measure=>have:=HI.out.1;simp[intOf];omega
  have u1:decide (i<n)=false:=by simpa using hi
  have u1':decide ((i:Int)<(n:Int))=false:=by rw[decide_eq_false_iff_not];omega
  have u2:¬ (i:Int)<(n:Int):=by omega
  obtain rfl:i=n:=by omega
  have HB2:Hid ((!bk || !(zs.take i).all zaI)=false):=zHd (by have:=HBAD.out;have e:=HALL.out.1;rw[HALL.out.2] at e;rw[e];exact this);rw[HB2.out];have HEm:=zHd (HEm.out.grown hg);have HG:=zHd (zaa HG.out hg);clear hin hi hg;have HA2:Hid ((zs.take i).any (zdt x y)=zs.any (zdt x y)):=zHd (by have e:=HALL.out.1;rw[HALL.out.2] at e;rw[e]);rw[HA2.out];clear HA2 HB2;go_upto_region 13 with(fail);clear u1 u1' u2;go_wp2_with fail;refine(zbj _ _).mono ?_;rintro e w6 ⟨rfl,hg⟩;have HG:=zHd (zaa HG.out hg);have HEm:=zHd (HEm.out.grown hg);clear hg;generalize hB:zs.any (zdt x y)=B at *;clear hB;cases B
  ·have t9:=HT9.out
   obtain⟨z0,z1,z2,z3⟩:=HEm.out.box.cells;go_wp2_with fail;refine(HDT.out _ _ HEm.out.st).mono ?_;rintro e w8 ⟨rfl,hg⟩;have HG:=zHd (zaa HG.out hg);have HEm:=zHd (HEm.out.grown hg);clear hg t9 z0 z1 z2 z3;obtain⟨z0,z1,z2,z3⟩:=HEm.out.box.cells;go_wp2_with fail;refine(HH1.out _ _ _ HEm.out.st HG.out (fun _=>by have h:=HV.out.1;first|rw[h,if_neg (by decide),HV.out.2.1]|rw[h,if_neg (fun h=>h),HV.out.2.1])).mono ?_;rintro e w9 ⟨rfl,hg⟩;have HG:=zHd (zaa HG.out hg);clear hg z0 z1 z2 z3;go_wp2_with fail;exact zQab
  go_wp2_with fail;refine(zfz _ _).mono ?_;rintro e w7 ⟨rfl,hg⟩;have HG:=zHd (zaa HG.out hg);have HEm:=zHd (HEm.out.grown hg);clear hg;have t9:=HT9.out;obtain⟨z0,z1,z2,z3⟩:=HEm.out.box.cells;go_wp2_with fail;refine(HDT.out _ _ HEm.out.st).mono ?_;rintro e w8 ⟨rfl,hg⟩;have HG:=zHd (zaa HG.out hg);have HEm:=zHd (HEm.out.grown hg);clear hg t9 z0 z1 z2 z3;obtain⟨z0,z1,z2,z3⟩:=HEm.out.box.cells;go_wp2_with fail;refine(HH1.out _ _ _ HEm.out.st HG.out (fun _=>by have h:=HV.out.1;first|rw[h,if_pos rfl,HV.out.2.2]|rw[h,if_pos trivial,HV.out.2.2])).mono ?_;rintro e w9 ⟨rfl,hg⟩;have HG:=zHd (zaa HG.out hg);clear hg z0 z1 z2 z3;go_wp2_with fail;exact zQab
def zqz (k:Int)(zs:List Int)(lv:Value){w:World}(hl:zax w lv zs)(bl:zs.length<=140737488355328)(zx zy:List Int)(xv yv:Value)(hx:zax w xv zx)(hy:zax w yv zy)(bx:zx.length<=140737488355328)(by':zy.length<=140737488355328) :
  Calls prog 4 #[.int .i64 k,lv,xv,yv] w (zab (.bool true) w):=by
 by_cases h2:2000<zs.length
 exact zop k zs lv hl bl zx zy xv yv hx hy bx by' (.inl h2);cases hwd:(decide (zx.length+zy.length<=6)&&(zat zx&&zat zy));exact zop k zs lv hl bl zx zy xv yv hx hy bx by' (.inr hwd);rw[zqbb,zqbb,zqca] at hwd;obtain⟨x,hx',rfl⟩:=WIn.of hx hwd.2.1;obtain⟨y,hy',rfl⟩:=WIn.of hy hwd.2.2;have hl6:=hwd.1;rw[zqbn,zqbn] at hl6
 by_cases hb:zbv k=true/\zs.all zaI=true
 exact zyK k zs lv hl bl x y xv yv hx' hy' (by omega) hl6 hb;exact zvJ k zs lv hl bl x y xv yv hx' hy' (by omega) hl6 hb
end Go.Proofs.YtadgpgofcjpnjaaGreatDoor
