/- Part. -/
import Derived.Test.YtadgpgofcjpnjaaGreatDoorZK24
set_option linter.unusedVariables false
set_option linter.defProp false
set_option linter.unusedSimpArgs false
set_option maxRecDepth 100000
set_option maxHeartbeats 16000000
namespace Go.Proofs.YtadgpgofcjpnjaaGreatDoor
open Go.Proofs.Tryz
open Go.RowKit
def zcc (x:List Nat)(i j:Nat):List Nat:=(x.drop i).take (j-i)
def zuN {x:List Nat}{i j:Nat}(h:i<=j)(hj:j<=x.length):(zcc x i j).length=j-i:=by
 unfold zcc;rw[zqan,List.length_drop];omega
def zEE {x:List Nat}{i j t:Nat}(h:t<j-i):(zcc x i j).getD t 0=x.getD (i+t) 0:=by
 unfold zcc;rw[zqaa,List.getElem?_take_of_lt h,List.getElem?_drop,<- zqaa]
def zEF {x:List Nat}{i j s:Nat}(h:s∈zcc x i j):s∈x:=List.mem_of_mem_drop (zqau h)
def ziF (ad:Addr):ad.add 0=ad:=by unfold Addr.add;rcases ad with⟨b,o,s⟩;cases s <;> simp
def zEG (a:Addr)(l j:Nat)(hl:0<l):(a.add l).add j=a.add (l+j):=by
 unfold Addr.add;rcases a with⟨b,o,s⟩;cases s <;> (simp only;(repeat' split) <;> simp_all <;> omega)
def zGE {w:World}{A:Option Addr}{n cap:Nat}{L:Nat->Value}(h:zev w (.slice A n cap) n L){i j:Nat}(hij:i<=j)(hj:j<=n) :
  zev w (.slice (if cap=i then A else A.map (·.add (i*1))) (j-i) (cap-i)) (j-i) (fun t=>L (i+t)):=by
 obtain⟨A',cap',e,h1,h2,h3⟩:=h;obtain⟨rfl,rfl⟩:A'=A/\cap'=cap:=by simp at e;exact⟨e.1.symm,e.2.symm⟩
 refine⟨_,_,rfl,by omega,by omega,fun t ht=>?_⟩;obtain⟨ad,rfl,hl,hc⟩:=h3 (i+t) (by omega);rw[if_neg (by omega)];refine⟨ad.add (i*1),rfl,?_,?_⟩
 ·unfold Addr.add;split <;> exact hl
 rw[show(ad.add (i*1)).add t=ad.add (i+t) from ?_]
 ·exact hc
 rw[Nat.mul_one]
 by_cases h0:i=0
 subst h0;rw[ziF,zqat];exact zEG ad i t (by omega)
def zsk (x:List Nat)(t:Nat):(x.map (fun s:Nat=>(s:Int))).getD t 0=((x.getD t 0:Nat):Int):=by
 rw[zqaa,zqaa,zqaj];cases x[t]? <;> rfl
def WIn.sub {w:World}{A:Option Addr}{cap:Nat}{x:List Nat}(h:WIn w (.slice A x.length cap) x){i j:Nat}(hij:i<=j)(hj:j<=x.length) :
  WIn w (.slice (if cap=i then A else A.map (·.add (i*1))) (j-i) (cap-i)) (zcc x i j):=by
 have h0:=h.at';unfold zax at h0;rw[zqbn] at h0;refine⟨?_,?_⟩
 ·have hr:=zGE h0 hij hj
  unfold zax;rw[zqbn,zuN hij hj];obtain⟨A',cap',e,h1,h2,h3⟩:=hr;refine⟨A',cap',e,h1,h2,fun t ht=>?_⟩;obtain⟨ad,e1,hl,hc⟩:=h3 t ht;refine⟨ad,e1,hl,?_⟩;rw[hc];show some (Value.int .i64 ((x.map (fun s:Nat=>(s:Int))).getD (i+t) 0))=some (Value.int .i64 (((zcc x i j).map (fun s:Nat=>(s:Int))).getD t 0));rw[zsk,zsk,zEE ht]
 have hw:=h.word;have hs:=h.sym;have hl:=h.len;unfold zat;rw[zqbb,zqca,zqbn,zuN hij hj,List.all_eq_true];refine⟨by omega,fun z hz=>?_⟩;obtain⟨s,hs',rfl⟩:=zqbf.1 hz;have:=hs s (zEF hs');unfold zaI;rw[zqca];omega
def znN.two {P:Prop}{t:ByteArray}{w:World}{e:Ending}{w':World}(h:znN P t w e w'):∃ (S:ByteArray) (E:Int),e=.returned (.tuple #[.string S,.int .i64 E])/\w.grownBy w' none/\(E=0->P/\S=t):=by
 obtain⟨hg,⟨hp,e⟩|e⟩:=h;exact⟨t,0,e,hg,fun _=>⟨hp,rfl⟩⟩;exact⟨_,2,e,hg,fun h=>absurd h (by decide)⟩
def zsl (A:Option Addr)(n cap i j:Nat)(hij:i<=j)(hj:j<=n)(hn:n<=cap)(w:World) :
  (Instr.sliceAt 22 (.slice A n cap) (some (.int .i64 (i:Int))) (some (.int .i64 (j:Int))) none).run prog w=.ok (.slice (if cap=i then A else A.map (·.add (i*1))) (j-i) (cap-i)) w:=by
 rw[run_sliceAt_slice w 22 _ _ _ _ (by kernel_rfl),run_slice_lh w 22 A n cap (by kernel_rfl) .i64 .i64 (i:Int) (j:Int) (by omega) (by omega) (by omega)];have hi:prog.info? (prog.elem 22)=prog.info? (prog.elem 22):=rfl;have hz:(prog.info? (prog.elem 22)).map (fun i=>i.size)=some 1:=by kernel_rfl
 have hs:(sizeOf (prog.elem 22)).run prog w=.ok 1 w:=by
  cases hq:prog.info? (prog.elem 22) with
  | none=>rw[hq] at hz;cases hz
  | some i=>rw[hq] at hz;injection hz with hz;replace hz:i.size=1:=hz;simp[sizeOf,typeInfo,hq,hz]
 rw[hs];simp only[Result.andThen,sliced,Int.toNat_natCast]
def zho {k:Int}(hk:zam k)(w0:World)(m:zah)(u xv yv:Value)(x y:List Nat)(b:Nat)(ok:Bool)(i j p q:Nat)(hij:i<=j)(hjx:j<=x.length)(hpq:p<=q)(hqy:q<=y.length)(w:World)(hb:zbV w0 k m u xv yv b ok w)
  (hm:zan w0 (.agg #[.int .i64 m.kind,.int .i64 m.start,.string m.lead,u]) m) (zV:validB m=true) (hkd:m.kind=k) (hx:WIn w0 xv x) (hy:WIn w0 yv y) :
  Calls prog 31 #[.pointer (some ⟨b,0,none⟩),.int .i64 (i:Int),.int .i64 (j:Int),.int .i64 (p:Int),.int .i64 (q:Int)] w (zni w0 m u xv yv b ok (VL hk m (zcc x i j) (zcc y p q)) w):=by
 obtain⟨Ax,cx,rfl⟩:=hx.form;obtain⟨Ay,cy,rfl⟩:=hy.form
 have hcx:x.length<=cx:=by
  have h:=hx.at';unfold zax at h;rw[zqbn] at h;obtain⟨A',c',e,h1,_⟩:=h;obtain⟨rfl,rfl⟩:A'=Ax/\c'=cx:=by simp at e;exact⟨e.1.symm,e.2.symm⟩
  exact h1
 have hcy:y.length<=cy:=by
  have h:=hy.at';unfold zax at h;rw[zqbn] at h;obtain⟨A',c',e,h1,_⟩:=h;obtain⟨rfl,rfl⟩:A'=Ay/\c'=cy:=by simp at e;exact⟨e.1.symm,e.2.symm⟩
  exact h1
 have sx:=fun W=>zsl Ax x.length cx i j hij hjx hcx W;have sy:=fun W=>zsl Ay y.length cy p q hpq hqy hcy W;have hgd:=zaa hb.gr (zag w none);have hc:=(zjS hk (hm.grown hgd) zV hkd ((hx.grown hgd).sub hij hjx) ((hy.grown hgd).sub hpq hqy)).mono fun e w' h=>(znd.v h).two;generalize hAX:(if cx=i then Ax else Ax.map (·.add (i*1)))=AX at sx hc;generalize hAY:(if cy=p then Ay else Ay.map (·.add (p*1)))=AY at sy hc;generalize hr:VL hk m (zcc x i j) (zcc y p q)=r at *;generalize x.length=nx at *;generalize y.length=ny at *;have HC:=zHd hc;have HB:=zHd hb;have HK:=zHd hk;have d0:w.drew.cell? ⟨b,0,none⟩=some (.int .i64 k):=zqbw w.drew b 0 _ _ (0,0) hb.at';have d1:w.drew.cell? ⟨b,1,none⟩=some (.slice Ax nx cx):=zqbw w.drew b 1 _ _ (0,0) hb.at';have d2:w.drew.cell? ⟨b,2,none⟩=some (.slice Ay ny cy):=zqbw w.drew b 2 _ _ (0,0) hb.at';have d3:w.drew.cell? ⟨b,3,none⟩=some (.int .i64 m.kind):=zqbw w.drew b 3 _ _ (0,0) hb.at';have d4:w.drew.cell? ⟨b,4,none⟩=some (.int .i64 m.start):=zqbw w.drew b 4 _ _ (0,0) hb.at';have d5:w.drew.cell? ⟨b,5,none⟩=some (.string m.lead):=zqbw w.drew b 5 _ _ (0,0) hb.at';have d6:w.drew.cell? ⟨b,6,none⟩=some (u):=zqbw w.drew b 6 _ _ (0,0) hb.at';have d7:w.drew.cell? ⟨b,7,none⟩=some (.bool ok):=zqbw w.drew b 7 _ _ (0,0) hb.at';generalize j-i=li at *;generalize q-p=lp at *;generalize cx-i=ci at *;generalize cy-p=cp at *
 obtain⟨UA,ul,uc,rfl⟩:∃ A l c,u=.slice A l c:=by
  obtain⟨u',e,A,c,us,rfl,_⟩:=hm;simp at e;exact⟨_,_,_,e⟩
 clear hx hy hm hb hgd hc hij hjx hpq hqy hcx hcy hAX hAY zV hkd hr;go_enter func31,ntmps31;go_upto_region 1 with(fail)
 go_region_held2 (fun W'=>W'.cell? ⟨b,1,none⟩=some (.slice Ax nx cx)/\W'.cell? ⟨b,2,none⟩=some (.slice Ay ny cy)/\W'.cell? ⟨b,3,none⟩=some (.int .i64 m.kind)/\W'.cell? ⟨b,4,none⟩=some (.int .i64 m.start)/\W'.cell? ⟨b,5,none⟩=some (.string m.lead)/\W'.cell? ⟨b,6,none⟩=some (.slice UA ul uc)) (first|exact⟨d1,d2,d3,d4,d5,d6⟩|exact⟨e1,e2,e3,e4,e5,e6⟩|go_keep)
  (first
  | (go_at_call 49;refine HC.out.mono ?_;rintro e w6 ⟨S,E,rfl,hg6,hE⟩;have e0:=hg6.cell d0 (by simp);have e1:=hg6.cell d1 (by simp);have e2:=hg6.cell d2 (by simp);have e3:=hg6.cell d3 (by simp);have e4:=hg6.cell d4 (by simp);have e5:=hg6.cell d5 (by simp);have e6:=hg6.cell d6 (by simp);have e7:=hg6.cell d7 (by simp);have H6:=zHd (zAI hg6 hE);clear hg6 hE))
 obtain⟨hg6,hE⟩:=H6.out;have hg6':=zaa (zag w none) hg6;have hb6:=HB.out.grown hg6';have z7:=zqbx w6 b 7 _ _ hb6.at';have HB6:=zHd hb6;have HG:=zHd hg6';have HE:=zHd hE;have q0:(w6.setCell ⟨b,7,none⟩ (.bool false)).cell? ⟨b,0,none⟩=some (.int .i64 k):=zqbw _ b 0 _ _ (0,0) (hb6.set false).at';clear hg6 hE hg6' hb6 H6 d0 d1 d2 d3 d4 d5 d6 d7 e1 e2 e3 e4 e5 e6
 by_cases h0:E=0
 ·subst h0
  obtain⟨hf,rfl⟩:=HE.out rfl;have HF:=zHd hf;clear hf q0;cases ok
  ·go_wp2
   go_ret;exact⟨r,false,rfl,zaa (zaw (some b) HG.out) (zad _ _ _),HB6.out.set false,HF.out,fun h=>(by cases h)⟩
  go_wp2;go_ret;exact⟨r,true,rfl,zaa (zaw (some b) HG.out) (zad _ _ _),HB6.out.set true,HF.out,fun _=>⟨rfl,rfl⟩⟩
 have t0:(E != 0)=true:=by simpa using h0
 have t1:(E==0)=false:=by simpa using h0
 clear HE;cases ok
 ·go_wp2_with fail
  exact zQaY
 go_wp2_with fail;exact zQaY
end Go.Proofs.YtadgpgofcjpnjaaGreatDoor
