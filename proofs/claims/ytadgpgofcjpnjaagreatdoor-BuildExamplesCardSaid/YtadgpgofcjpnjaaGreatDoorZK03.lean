/- Part. -/
import Derived.Test.YtadgpgofcjpnjaaGreatDoorZK02
set_option linter.unusedVariables false
set_option linter.defProp false
set_option linter.unusedSimpArgs false
set_option maxRecDepth 100000
set_option maxHeartbeats 16000000
namespace Go.Proofs.YtadgpgofcjpnjaaGreatDoor
open Go.Proofs.Tryz
open Go.RowKit
def zwE (hi lo y:Nat)(h2:hi<y)(hy:y<18446744073709551616)(hlo:lo<18446744073709551616) :
  ∃ r,∀ w,Calls prog 217 #[.int .u64 hi,.int .u64 lo,.int .u64 y] w fun e w'=>e=.returned (.tuple #[.int .u64 ((18446744073709551616*hi+lo)/y:Nat),.int .u64 r])/\∃ n,w'=w.drewN n:=by
 by_cases h1:1<=hi
 ·have hb:=Lib.bitLenAux_bounds 64 y hy (by omega)
  change 1<=Lib.bitLen y/\2 ^ (Lib.bitLen y-1)<=y/\y<2 ^ Lib.bitLen y at hb;obtain⟨b1,b2,b3⟩:=hb;have b4:=Lib.bitLen_le y 64 (zqab _) hy
  have hlz:∀ w,Calls prog 221 #[.int .u64 y] w fun e w'=>e=.returned (.int .i64 ((64-Lib.bitLen y:Nat):Int))/\w=w':=by
   intro w;refine(Tryz.bits_LeadingZeros64 (y:Int) w (by omega) (by omega)).mono ?_;rintro e w' ⟨rfl,rfl⟩;refine⟨?_,rfl⟩;rw[Int.toNat_natCast,Int.natCast_sub b4];rfl
  have p1:y*2 ^ (64-Lib.bitLen y)<18446744073709551616:=by
   have:y*2 ^ (64-Lib.bitLen y)<2 ^ Lib.bitLen y*2 ^ (64-Lib.bitLen y):=Nat.mul_lt_mul_of_pos_right b3 (Nat.two_pow_pos _);rw[<- Nat.pow_add,show Lib.bitLen y+(64-Lib.bitLen y)=64 by omega] at this;exact this
  have p2:9223372036854775808<=y*2 ^ (64-Lib.bitLen y):=by
   have:2 ^ (Lib.bitLen y-1)*2 ^ (64-Lib.bitLen y)<=y*2 ^ (64-Lib.bitLen y):=Nat.mul_le_mul_right _ b2;rw[<- Nat.pow_add,show Lib.bitLen y-1+(64-Lib.bitLen y)=63 by omega] at this;exact this
  obtain⟨r,hr⟩:=zyU hi lo y (64-Lib.bitLen y) h1 h2 hlo (by omega) p1 p2 hlz;refine⟨r,fun w=>(hr w).mono ?_⟩;rintro e w' ⟨rfl,rfl⟩;exact⟨rfl,0,rfl⟩
 obtain rfl:hi=0:=by omega
 rw[Nat.mul_zero,zqat];have f2:((y:Int)==0)=false:=by simp;omega
 have hy1:(1:Int)<=(y:Int):=by omega
 have f3:(y:Int)≠0:=by omega
 have ea:(lo:Int)/(y:Int)=((lo/y:Nat):Int):=by push_cast;rfl
 have hq:lo/y<=lo:=Nat.div_le_self _ _;refine⟨(lo:Int)%(y:Int),fun w=>?_⟩;generalize lo/y=q at *;go_enter func217,ntmps217;go_wp2
 go_quiet (fail)
 go_wp2;go_ret2;exact⟨rfl,_,rfl⟩
def zyV (xs:List Nat)(i:Int)(hx:∀ x∈xs,x<1000000000):bAt xs i<1000000000:=by
 unfold bAt;split;decide;exact zbl _ (by decide) xs hx _
def zpn {f:FuncId}{args:Array Value}{w:World}{a n:Nat}{v:Value}
  (h:Calls prog f args (w.drewN (a+n)) fun e w'=>e=.returned v/\∃ k,w'=(w.drewN (a+n)).drewN k) :
  Calls prog f args (w.drewN (a+n)) fun e w'=>e=.returned v/\∃ m,w'=w.drewN (a+m):=by
 refine h.mono ?_;rintro e w' ⟨rfl,k,rfl⟩;exact⟨rfl,n+k,by rw[World.drewN_drewN,Nat.add_assoc]⟩
def zlZ (n:Nat)(e:Int)(h:e=(n:Int))(hn:n<18446744073709551616):IntKind.u64.wrap e=(n:Int):=zfY n e h hn
def zyW (w:World)(g off capx gy offy capy m lx ly:Nat)(xs ys:List Nat)(hlx:lx=m+2)(hly:ly=m+1)(hxl:xs.length=m+2)(hyl:ys.length=m+1)
  (hx:∀ x∈xs,x<1000000000) (hy:∀ y∈ys,y<1000000000) (hyt:zcZ ys) (hlt:vl 1000000000 xs<1000000000*vl 1000000000 ys) (hm:m<=100000)
  (hcx:∀ k,k<xs.length->w.cell? ⟨g,off+k,none⟩=some (.int .u64 (xs.getD k 0:Nat))) (hcy:∀ k,k<ys.length->w.cell? ⟨gy,offy+k,none⟩=some (.int .u64 (ys.getD k 0:Nat))) :
  Calls prog 203 #[.slice (some ⟨g,off,none⟩) lx capx,.slice (some ⟨gy,offy,none⟩) ly capy] w fun e w' =>
   e=.returned (.int .u64 (((1000000000*(1000000000*xs.getD (m+1) 0+xs.getD m 0)+bAt xs ((m:Int)-1))/(1000000000*ys.getD m 0+bAt ys ((m:Int)-1)):Nat):Int))/\∃ n,w'=w.drewN n:=by
 have hG:=zsL xs ys m hyl hxl hx hy hyt hlt;have kc1:=hcx (m+1) (by omega);have kc2:=hcx m (by omega);have kc3:=hcy m (by omega);have sx:∀ n,zgO (w.drewN n) (.slice (some ⟨g,off,none⟩) lx capx) xs:=fun n=>.inr ⟨g,off,capx,by rw[hxl,hlx],hcx⟩;have sy:∀ n,zgO (w.drewN n) (.slice (some ⟨gy,offy,none⟩) ly capy) ys:=fun n=>.inr ⟨gy,offy,capy,by rw[hyl,hly],hcy⟩;have bx:=fun n=>zfq (w.drewN n) _ xs ((lx:Int)-1-2) (sx n) (by omega) (by omega) (by omega);have by_:=fun n=>zfq (w.drewN n) _ ys ((ly:Int)-2) (sy n) (by omega) (by omega) (by omega);have ex:zcK xs ((lx:Int)-1-2)=bAt xs ((m:Int)-1):=by rw[show(lx:Int)-1-2=(m:Int)-1 by omega];rfl
 have ey:zcK ys ((ly:Int)-2)=bAt ys ((m:Int)-1):=by rw[show(ly:Int)-2=(m:Int)-1 by omega];rfl
 simp only[ex] at bx;simp only[ey] at by_;have b1:xs.getD (m+1) 0<1000000000:=zbl _ (by decide) xs hx _;have b2:xs.getD m 0<1000000000:=zbl _ (by decide) xs hx _;have b3:ys.getD m 0<1000000000:=zbl _ (by decide) ys hy _;have b4:=zyV xs ((m:Int)-1) hx;have b5:=zyV ys ((m:Int)-1) hy;have hGle:=hG.le;have hGlt:=hG.lt;have hGge:=hG.ge;clear hG sx sy hcx hcy hx hy hyt hlt ex ey;generalize xs.getD (m+1) 0=x1 at *;generalize xs.getD m 0=x2 at *;generalize bAt xs ((m:Int)-1)=x3 at *;generalize ys.getD m 0=y1 at *;generalize bAt ys ((m:Int)-1)=y2 at *;obtain⟨P,hP⟩:∃ P,P=1000000000*x1+x2:=⟨_,rfl⟩;obtain⟨Y2,hY2⟩:∃ Y2,Y2=1000000000*y1+y2:=⟨_,rfl⟩;rw[<- hP,<- hY2] at hGle hGlt ⊢;rw[<- hY2] at hGge;have e1:IntKind.u64.wrap ((x1:Int)*1000000000)=((1000000000*x1:Nat):Int):=zlZ _ _ (by rw[Int.mul_comm];exact(Int.natCast_mul 1000000000 _).symm) (by omega);have e2:IntKind.u64.wrap (((1000000000*x1:Nat):Int)+(x2:Int))=(P:Int):=zlZ _ _ (by rw[hP];exact(Int.natCast_add _ _).symm) (by omega);have e3:IntKind.u64.wrap ((y1:Int)*1000000000)=((1000000000*y1:Nat):Int):=zlZ _ _ (by rw[Int.mul_comm];exact(Int.natCast_mul 1000000000 _).symm) (by omega);have e4:IntKind.u64.wrap (((1000000000*y1:Nat):Int)+(y2:Int))=(Y2:Int):=zlZ _ _ (by rw[hY2];exact(Int.natCast_add _ _).symm) (by omega);have hPl:P<18446744073709551616:=by omega
 have hmul:=fun w=>Tryz.bits_Mul64 P 1000000000 hPl (by decide) w;have hmul2:∀ w,Calls prog 215 #[.int .u64 P,.int .u64 1000000000] w fun e w'=>e=.returned (.tuple #[.int .u64 ((P*1000000000/18446744073709551616:Nat):Int),.int .u64 ((P*1000000000%18446744073709551616:Nat):Int)])/\w'=w:=hmul
 have hN:18446744073709551616*(P*1000000000/18446744073709551616)+P*1000000000%18446744073709551616=1000000000*P:=by
  rw[zqbc P];exact zqbt _ _
 have hl0:P*1000000000%18446744073709551616<18446744073709551616:=Nat.mod_lt _ (by decide);clear hmul;generalize P*1000000000/18446744073709551616=h0 at *;generalize P*1000000000%18446744073709551616=l0 at *;have hadd:=fun w=>Tryz.bits_Add64 l0 x3 w;have hN2:18446744073709551616*((l0+x3)/18446744073709551616)+(l0+x3)%18446744073709551616=l0+x3:=zqbt _ _;have hl1:(l0+x3)%18446744073709551616<18446744073709551616:=Nat.mod_lt _ (by decide);generalize (l0+x3)/18446744073709551616=c1 at *;generalize (l0+x3)%18446744073709551616=l1 at *;have hN3:18446744073709551616*(h0+c1)+l1=1000000000*P+x3:=by omega
 obtain⟨h1,hh1⟩:∃ h1,h0+c1=h1:=⟨_,rfl⟩;rw[hh1] at hN3;have hh2:h1<Y2:=by omega
 have e5:IntKind.u64.wrap ((h0:Int)+(c1:Int))=(h1:Int):=zlZ _ _ (by rw[<- hh1];exact(Int.natCast_add _ _).symm) (by omega);obtain⟨r,hdiv⟩:=zwE h1 l1 Y2 hh2 (by omega) hl1;rw[hN3] at hdiv;generalize (1000000000*P+x3)/Y2=q at *;have HD:=zHd hdiv;have HBX:=zHd bx;have HBY:=zHd by_;have HM:=zHd hmul2;have HA:=zHd hadd;clear hN hN2 hN3 hl0 hl1 hh1 hh2 hdiv bx by_ hmul2 hPl hP hY2 hGle hGlt hGge b1 b2 b3 b4 b5;generalize ((1000000000*x1:Nat):Int)=A1 at *;generalize ((1000000000*y1:Nat):Int)=A2 at *;have i1:(0:Int)<=(lx:Int)-1:=by omega
 have i2:(0:Int)<=(lx:Int)-1-1:=by omega
 have i3:(lx:Int)-1<(lx:Int):=by omega
 have i5:(0:Int)<=(ly:Int)-1:=by omega
 have i6:(ly:Int)-1<(ly:Int):=by omega
 have k1:w.cell? ⟨g,off+(lx-1),none⟩=some (.int .u64 x1):=by rw[show lx-1=m+1 by omega];exact kc1
 have k2:w.cell? ⟨g,off+(lx-1-1),none⟩=some (.int .u64 x2):=by rw[show lx-1-1=m by omega];exact kc2
 have k3:w.cell? ⟨gy,offy+(ly-1),none⟩=some (.int .u64 y1):=by rw[show ly-1=m by omega];exact kc3
 have HLX:=zHd hlx;have HLY:=zHd hly;have l1:2<=lx:=by omega
 have l2:lx<=100002:=by omega
 have l3:1<=ly:=by omega
 have l4:ly<=100001:=by omega
 clear kc1 kc2 kc3 hlx hly hm;have j1:IntKind.i64.wrap ((lx:Int)-1)=(lx:Int)-1:=IntWalk.i64_in _ (by omega);have j2:IntKind.i64.wrap ((lx:Int)-1-1)=(lx:Int)-1-1:=IntWalk.i64_in _ (by omega);have j3:IntKind.i64.wrap ((ly:Int)-1)=(ly:Int)-1:=IntWalk.i64_in _ (by omega);have j4:IntKind.i64.wrap ((ly:Int)-2)=(ly:Int)-2:=IntWalk.i64_in _ (by omega);go_enter func203,ntmps203;go_wp2
 go_quiet ((go_at_call 215;exact Calls.quiet_of_same (HM.out _)))
 go_wp2_with (go_at_call 208;refine(HBX.out _).mono ?_;rintro e w' ⟨rfl,rfl⟩)
 go_quiet (first
  | (go_at_call 208;exact zpn ((HBY.out _).mono (fun e w' h=>⟨h.1,0,h.2.symm⟩)))
  | (go_at_call 217;exact zpn (HD.out _)))
 go_wp2;go_ret;exact⟨rfl,_,World.drewN_drewN _ _ _⟩
open Go.RowKit
structure zpo (B gx gy:Nat)(xs ys:List Nat)(w w':World)(qv:Value)(qs:List Nat)(gr cr:Nat)(rs:List Nat):Prop where
 qb:zaO 0 w' qv qs
 qlt:∀ z∈qs,z<1000000000
 qv:vl 1000000000 qs=vl 1000000000 xs/vl 1000000000 ys
 qn:qs.length<=xs.length+1
 rb:zaO B w' (.slice (some ⟨gr,0,none⟩) rs.length cr) rs
 rne:gr≠gy
 rlt:∀ z∈rs,z<1000000000
 rv:vl 1000000000 rs=vl 1000000000 xs%vl 1000000000 ys
 rt:zcZ rs
 rn:rs.length<=xs.length+1
 gr:w.grownBy w' (some gx)
def zqG (B gx gy:Nat)(xs ys:List Nat)(w:World)(e:Ending)(w':World):Prop :=
 ∃ qv qs gr cr rs,e=.returned (.tuple #[qv,.slice (some ⟨gr,0,none⟩) rs.length cr])/\zpo B gx gy xs ys w w' qv qs gr cr rs
def zma {a b c:World}{g h:Nat}(k:a.grownBy b (some g))(m:b.grownBy c (some h))(e:h=g∨a.heap.size<=h):a.grownBy c (some g):=by
 rcases e with rfl|e;exact zaa k m;exact zae k m e
def zCi (xs ys:List Nat)(hx:∀ x∈xs,x<1000000000)(hyt:zcZ ys)(h:xs.length<ys.length):vl 1000000000 xs<vl 1000000000 ys:=by
 have h1:=zlU 1000000000 ys (by intro e;rw[e] at h;simp at h) hyt;have h2:=zcv 1000000000 xs hx;have h4:(1000000000:Nat) ^ xs.length<=1000000000 ^ (ys.length-1):=zqay (by decide) (by omega);omega
def zsU (B gx cx gy cy:Nat)(xs ys:List Nat)(w:World)(hxb:zaO B w (.slice (some ⟨gx,0,none⟩) xs.length cx) xs)(hne:gx≠gy)
  (hx:∀ x∈xs,x<1000000000) (hxt:zcZ xs) (hyt:zcZ ys) (h:xs.length<ys.length) :
  Calls prog 189 #[.slice (some ⟨gx,0,none⟩) xs.length cx,.slice (some ⟨gy,0,none⟩) ys.length cy] w (zqG B gx gy xs ys w):=by
 have hlt:=zCi xs ys hx hyt h;have HP:Hid (zpo B gx gy xs ys w w (.slice none 0 0) [] gx cx xs):=⟨World.ownsRow_nil _ _ _ _,by simp,by rw[Nat.div_eq_of_lt hlt];rfl,by simp,hxb,hne,hx,(Nat.mod_eq_of_lt hlt).symm,hxt,by omega,zai _ _⟩;clear hlt hxb hx hxt hyt;have h':(xs.length:Int)<(ys.length:Int):=by omega
 go_enter func189,ntmps189;go_wp2;go_ret2;exact⟨_,_,_,_,_,rfl,HP.out⟩
def zwF (zs:List Nat)(k n:Nat):uv zs=uv (zs.take k)++uv ((zs.drop k).take n)++uv (zs.drop (k+n)):=by
 exact zQcb
def zyX (zs:List Nat)(k n t:Nat)(ht:t<n):((zs.drop k).take n).getD t 0=zs.getD (k+t) 0:=by
 rw[zqaa,List.getElem?_take,if_pos ht,List.getElem?_drop,<- zqaa]
def zuW (B gx cx gy cy m:Nat)(xs ys:List Nat)(w:World)(hxb:zaO B w (.slice (some ⟨gx,0,none⟩) xs.length cx) xs)(hyb:zaO B w (.slice (some ⟨gy,0,none⟩) ys.length cy) ys)(hne:gx≠gy)
  (hx:∀ x∈xs,x<1000000000) (hy:∀ y∈ys,y<1000000000) (hyt:zcZ ys) (hym:ys.length=m+1) (hle:ys.length<=xs.length) (hn:xs.length<=10000) (hBw:B<=w.heap.size) :
  Calls prog 189 #[.slice (some ⟨gx,0,none⟩) xs.length cx,.slice (some ⟨gy,0,none⟩) ys.length cy] w (zqG B gx gy xs ys w):=by
 obtain⟨i0,hi,hz0,hz1,hz2⟩:=info_parts zjw;have h0:ys≠[]:=by intro e;rw[e] at hym;simp at hym
 have hst:=zfV.start hx hyt h0 hle
 have hv:0<vl 1000000000 ys:=by
  have:=zlU 1000000000 ys h0 hyt;have:0<(1000000000:Nat) ^ (ys.length-1):=Nat.pow_pos (by decide);omega
 obtain⟨n,hnn⟩:∃ n,xs.length-ys.length+1=n:=⟨_,rfl⟩;rw[hnn] at hst;have en:(xs.length:Int)-(ys.length:Int)+1=(n:Int):=by omega
 have hn1:n<=10001:=by omega
 have hgx:=hxb.lt gx rfl;have hgy:=hyb.lt gy rfl;have HST:=zHd hst;have HX:=zHd hx;have HY:=zHd hy;have HXB:=zHd hxb;have HYB:=zHd hyb;have HNN:=zHd hnn;have HYM:=zHd hym;have HYT:=zHd hyt;clear hst hx hy hxb hyb hnn hym hyt h0;have hge:¬ (xs.length:Int)<(ys.length:Int):=by omega
 go_enter func189,ntmps189;go_wp2_with (at_make;refine wpList_make_full _ rfl _ _ 169 rfl w.heap.size 173 i0 (.int .u64 0) 1 underlying169 hi hz0 hz1 _ _ _ _ n rfl rfl ?c0 ?c1 ?c2 (by unfold maxLen;omega) (zqab _) ?_)
 case c0=>omega
 case c1=>omega
 case c2=>first|omega|(rw[hz2];omega)
 intro w1 zO hgr;rw[zfX] at zO;have hcq:=(zaS.of_full zO).1;have hs1:=hcq.lt;have hxb1:zaO B (w1.alloc (.cells #[.int .u64 0] 173)) (.slice (some ⟨gx,0,none⟩) xs.length cx) xs:=(HXB.out.grown hgr (by simp)).grown (zGA _ _ none) (by simp);have hcq1:zaS (w1.alloc (.cells #[.int .u64 0] 173)) w.heap.size (uv (List.replicate n 0)):=hcq.grown (zGA _ _ none) (by simp);have hg1:w.grownBy (w1.alloc (.cells #[.int .u64 0] 173)) none:=zaa hgr (zGA _ _ none)
 have hnew:∀ j u,[Value.int .u64 0][j]?=some u->(w1.alloc (.cells #[.int .u64 0] 173)).cell? ((⟨w1.heap.size,0,none⟩:Addr).add j)=some u:=by
  intro j u hu
  match j,hu with
  | 0,hu =>
   simp at hu;subst hu;rw[add_plain,World.cell?_alloc_at _ _ _ _ rfl];rfl
 have HG1:=zHd hg1;have HCQ:=zHd hcq1;have HXB1:=zHd hxb1;have HNEW:=zHd hnew;have hsz1:w.heap.size<w1.heap.size:=hs1;clear zO hgr hcq hxb1 hcq1 hg1 hnew hs1;go_wp2_with (at_builtin;refine wpList_append_lies _ rfl _ _ _ rfl B 173 i0 (.int .u64 0) 1 8 underlying169 hi hz0 hz1 hz2 rfl (by omega) _ xs.length (uv xs) rfl HXB1.out ⟨w1.heap.size,0,none⟩ 1 1 [Value.int .u64 0] rfl rfl HNEW.out ?h1 ?h2 ?h3 ?h4 ?h5 (w1.heap.size+1) ?h6 ?_)
 case h1=>intro u hu;simp at hu;subst hu;rfl
 case h2=>decide
 case h3=>unfold maxLen;omega
 case h4=>omega
 case h5=>simp;omega
 case h6=>simp
 intro gz cap w2 hown2 hg2 hat hlt2
 have hgz:gz=gx∨gz=w1.heap.size+1:=by
  rcases hat with hat|hat;simp[Value.ownBlock] at hat;exact .inl hat.symm;exact .inr hat
 have hgz2:gz≠gy:=by rcases hgz with h|h <;> omega
 have hgz3:gz≠w.heap.size:=by rcases hgz with h|h <;> omega
 have hgz4:gz=gx∨w.heap.size<=gz:=by rcases hgz with h|h <;> omega
 have hgzB:B<=gz:=by rcases hgz with h|h <;> omega
 have hb2:zaO B w2 (.slice (some ⟨gz,0,none⟩) (xs++[0]).length cap) (xs++[0]):=by
  have e:(xs++[0]).length=xs.length+1:=by simp
  unfold zaO;rw[e,zcF];exact hown2
 obtain⟨_,_,hcap1,hcap2,spare,hcz,hspl⟩:=hb2.cells;have hcq2:zaS w2 w.heap.size (uv (List.replicate n 0)):=HCQ.out.grown hg2 (by simp[Value.ownBlock];omega);have hg02:w.grownBy w2 (some gx):=zaa (grown_none HG1.out) hg2;have hcap3:xs.length+1<=cap:=by simpa using hcap1
 unfold maxLen at hcap2;have hspl2:spare.length=cap-(xs.length+1):=by simpa using hspl
 have HCZ:=zHd hcz;have HCQ2:=zHd hcq2;have HG02:=zHd hg02;have HSPL:=zHd hspl2;clear hown2 hg2 hat hlt2 hgz hb2 hcap1 hspl hcz hcq2 hg02 hspl2 HCQ HXB1 HNEW HG1;go_wp2
 go_loopw [28] (fun i wr=>∃ (j k:Nat) (zs qs:List Nat),i=.int .i64 j/\j+k=n/\zfV xs ys k zs qs/\zaS wr gz (uv zs++spare)/\zaS wr w.heap.size (uv qs)/\w.grownBy wr (some gx)) (fun i _=>n-(intOf i).toNat)
 case atStart=>exact⟨0,n,_,_,rfl,by omega,HST.out,HCZ.out,HCQ2.out,HG02.out⟩
 case round =>
  obtain⟨j,k,zs,qs,rfl,hjk,zI,hcz,hcq,hgr⟩:=hrel;have hzl:=zI.zlen;have hql:=zI.qlen;cases k with
  | succ k =>
   have hk1:k+1<=xs.length-ys.length+1:=by have:=HNN.out;omega
   obtain⟨a1,a2,a3,a4,a5⟩:=zI.part hk1 hle HY.out;have hyr:zaO B wr (.slice (some ⟨gy,0,none⟩) ys.length cy) ys:=HYB.out.grown hgr (by simp[Value.ownBlock];omega);have hpr:(uv (zs.take k)).length=k:=by rw[zaN,zqan];have:=HNN.out;omega
   have hcz2:=hcz;rw[zwF zs k (ys.length+1),zqbj] at hcz2;obtain⟨part,hpart⟩:∃ part,(zs.drop k).take (ys.length+1)=part:=⟨_,rfl⟩
   have hpc:∀ t,t<part.length->wr.cell? ⟨gz,k+t,none⟩=some (.int .u64 (part.getD t 0:Nat)):=by
    intro t ht;have ht':t<ys.length+1:=(by rw[<- hpart,a2] at ht;exact ht);have hkt:k+t<zs.length:=(by have:=HNN.out;omega);rw[hcz.cell,zqal (by rw[zaN];exact hkt),zju _ _ hkt,<- hpart,zyX _ _ _ _ ht']
   have hyc:∀ t,t<ys.length->wr.cell? ⟨gy,0+t,none⟩=some (.int .u64 (ys.getD t 0:Nat)):=by
    intro t ht;obtain⟨_,_,_,_,py,hcy,_⟩:=hyr.cells;rw[hcy.cell,zqat,zqal (by rw[zaN];exact ht),zju _ _ ht]
   rw[hpart] at a2 a3 a4 a5 hcz2;have hgu:=zyW wr gz k (cap-k) gy 0 cy m (ys.length+1) ys.length part ys (by rw[HYM.out]) HYM.out (by rw[a2,HYM.out]) HYM.out a3 HY.out HYT.out a4 (by have:=HYM.out;omega) hpc hyc;have hgok:=zsL part ys m HYM.out (by rw[a2,HYM.out]) a3 HY.out HYT.out a4;have hg1:=hgok.lo;have hg2:=hgok.hi;have hg3:=hgok.le;clear hgok hpc hyc;generalize (1000000000*(1000000000*part.getD (m+1) 0+part.getD m 0)+bAt part ((m:Int)-1))/(1000000000*ys.getD m 0+bAt ys ((m:Int)-1))=qh at *;have hro:=zBU part ys qh a3 HY.out a2 hv hg1 hg2 hg3;obtain⟨q1,hq1⟩:∃ q1,zaL (zbg qh) part ys 0 (ys.length+1)=q1:=⟨_,rfl⟩;obtain⟨q2,hq2⟩:∃ q2,zaL (zbC 1) q1.1 ys 0 (ys.length+1)=q2:=⟨_,rfl⟩;have hl1:q1.1.length=ys.length+1:=by rw[<- hq1,zbR]
   have hl2:q2.1.length=ys.length+1:=by rw[<- hq2,zbR]
   rw[hq1,hq2] at hro;obtain⟨hp1,hp2,hro1,hro2⟩:=hro;have hcap:cap-k<=maxLen:=by unfold maxLen;omega
   have hsub:∀ n',Calls prog 186 #[.slice (some ⟨gz,k,none⟩) (ys.length+1) (cap-k),.slice (some ⟨gy,0,none⟩) ys.length cy,.int .u64 (qh:Nat)] ((wr.setCell ⟨w.heap.size,k,none⟩ (.int .u64 (qh:Nat))).drewN n')
     (zjV q1 (uv (zs.take k)) (uv (zs.drop (k+(ys.length+1)))++spare) gz ((wr.setCell ⟨w.heap.size,k,none⟩ (.int .u64 (qh:Nat))).drewN n')):=by
    intro n';have hg':wr.grownBy ((wr.setCell ⟨w.heap.size,k,none⟩ (.int .u64 (qh:Nat))).drewN n') (some w.heap.size):=zaa (zad _ _ _) (zce _ _ _)
    have h:=zlX qh gz (cap-k) (uv (zs.take k)) (uv (zs.drop (k+(ys.length+1)))++spare) part ys (.slice (some ⟨gy,0,none⟩) ys.length cy) ((wr.setCell ⟨w.heap.size,k,none⟩ (.int .u64 (qh:Nat))).drewN n') hg3 a3 HY.out (by omega) (by omega) (by omega) hcap
     (hcz2.grown hg' (by simp;omega)) ((hyr.base (zqaw _)).grown hg' (by simp[Value.ownBlock];omega)) (by simp[Value.ownBlock];omega)
    rw[a2,hpr,hq1] at h;exact h
   have hcqs:∀ n' x,zaS ((wr.setCell ⟨w.heap.size,k,none⟩ (.int .u64 (x:Nat))).drewN n') w.heap.size (uv (qs.set k x)):=fun n' x=>by
    have:=hcq.set k (.int .u64 (x:Nat));rw[zpl] at this;exact this
   have hgq:∀ n',w.grownBy ((wr.setCell ⟨w.heap.size,k,none⟩ (.int .u64 (qh:Nat))).drewN n') (some gx):=fun n'=>zae (g:=w.heap.size) hgr (zaa (zad _ _ _) (zce _ _ _)) (zqab _);have hkq:k<qs.length:=by omega
   have hqcell:∃ old:Nat,wr.cell? ⟨w.heap.size,k,none⟩=some (.int .u64 old):=⟨_,by rw[hcq.cell,zju _ _ hkq]⟩;obtain⟨old,hqcell⟩:=hqcell;have hqfree:=hcq.free k;have HGU:=zHd hgu;have HSUB:=zHd hsub;have HCQS:=zHd hcqs;have HGQ:=zHd hgq;have HINV:=zHd zI;have HP1:=zHd hp1;have HP2:=zHd hp2;have HR1:=zHd hro1;have HR2:=zHd hro2;have HQ2:=zHd hq2;have HL1:=zHd hl1;have HL2:=zHd hl2;have HPR:=zHd hpr;have HYR:=zHd hyr;have HKQ:=zHd hkq;have HPART:=zHd hpart;have HK1:=zHd hk1;have HJK:=zHd hjk;have hjn:j<n:=by omega
   have hkc:k+ys.length+1<=cap:=by have:=HNN.out;omega
   have eat:(n:Int)-1-(j:Int)=(k:Int):=by omega
   have el:k+ys.length+1-k=ys.length+1:=by omega
   have i6:¬ cap=k:=by omega
   have i5:decide (cap=k)=false:=by simp;omega
   have hkn:k<n:=by omega
   clear hgu hsub hcqs hgq zI hp1 hp2 hro1 hro2 hq1 hq2 hl1 hl2 hpr hyr hkq hpart hk1 hjk a1 a2 a3 a4 a5 hcz hcq hgr hcz2 hzl hql hg1 hg2 hcap;clear HST HCZ HCQ2 HG02;go_wp2_with fail;refine HGU.out.mono ?_;rintro e wg ⟨rfl,nn,rfl⟩;go_wp2_with fail;refine(HSUB.out nn).mono ?_;rintro e w3 ⟨rfl,hc3,hg3'⟩;have hcq3:zaS w3 w.heap.size (uv (qs.set k qh)):=(HCQS.out nn qh).grown hg3' (by simp;omega);have hgr3:w.grownBy w3 (some gx):=zma (HGQ.out nn) hg3' hgz4
   by_cases hc:q1.2=0
   ·have hst:=HINV.out.step HK1.out hle HY.out hv q1.1 qh HL1.out HP1.out (by rw[HPART.out];exact(HR1.out hc).1) (by rw[HPART.out];exact(HR1.out hc).2)
    have hcz3:zaS w3 gz (uv (zs.take k++q1.1++zs.drop (k+(ys.length+1)))++spare):=by
     rw[zcF,zcF,zqbj (uv (zs.take k)++uv q1.1)];exact hc3
    have HST:=zHd hst;have HCZ:=zHd hcz3;have HCQ:=zHd hcq3;have HGR:=zHd hgr3;clear hst hcz3 hcq3 hgr3 hc3 hg3';rw[hc];go_wp2
    go_roundw
    case rel=>exact⟨j+1,k,_,_,by go_num,by have:=HJK.out;omega,HST.out,HCZ.out,HCQ.out,HGR.out⟩
    case measure=>simp[intOf];omega
   have hc':(0:Int)<(q1.2:Int):=by omega
   obtain⟨hr1,hr2⟩:=HR2.out (by omega);have hq1p:1<=qh:=(by rw[hr1];exact Nat.succ_le_succ (zqaw _));have eq1:(qh:Int)-1=((qh-1:Nat):Int):=(by omega);have hst:=HINV.out.step HK1.out hle HY.out hv q2.1 (qh-1) HL2.out HP2.out (by rw[HPART.out,hr1];simp) (by rw[HPART.out];exact hr2);have hkl:k<(qs.set k qh).length:=by rw[List.length_set];exact HKQ.out
   have hcell3:w3.cell? ⟨w.heap.size,k,none⟩=some (.int .u64 (qh:Nat)):=by
    rw[hcq3.cell,zju _ _ hkl,zfU _ _ _ _ HKQ.out,if_pos rfl]
   have hfree3:=hcq3.free k
   have hcq4:zaS (w3.setCell ⟨w.heap.size,k,none⟩ (.int .u64 ((qh-1:Nat):Int))) w.heap.size (uv (qs.set k (qh-1))):=by
    have:=hcq3.set k (.int .u64 ((qh-1:Nat):Int));rw[zpl,List.set_set] at this;exact this
   have hgr4:w.grownBy (w3.setCell ⟨w.heap.size,k,none⟩ (.int .u64 ((qh-1:Nat):Int))) (some gx):=zae (g:=w.heap.size) hgr3 (zad _ _ _) (zqab _);have hg34:w3.grownBy (w3.setCell ⟨w.heap.size,k,none⟩ (.int .u64 ((qh-1:Nat):Int))) (some w.heap.size):=zad _ _ _
   have hyr4:zaO 0 (w3.setCell ⟨w.heap.size,k,none⟩ (.int .u64 ((qh-1:Nat):Int))) (.slice (some ⟨gy,0,none⟩) ys.length cy) ys :=
    ((((HYB.out.base (zqaw _)).grown hgr4 (by simp[Value.ownBlock];omega))))
   have hadd:=zjv 1 gz (cap-k) (uv (zs.take k)) (uv (zs.drop (k+(ys.length+1)))++spare) q1.1 ys (.slice (some ⟨gy,0,none⟩) ys.length cy) (w3.setCell ⟨w.heap.size,k,none⟩ (.int .u64 ((qh-1:Nat):Int))) (by decide) HP1.out HY.out (by rw[HL1.out];omega) (by rw[HPR.out];omega) (by omega) (by unfold maxLen;omega)
    (hc3.grown hg34 (by simp;omega)) hyr4 (by simp[Value.ownBlock];omega)
   rw[HL1.out,HPR.out,HQ2.out] at hadd;have HADD:=zHd hadd;have HST:=zHd hst;have HCQ4:=zHd hcq4;have HGR4:=zHd hgr4;clear hadd hst hcq4 hgr4 hg34 hyr4 hcq3 hgr3 hc3 hg3' hr1 hr2 hkl;generalize ((qh-1:Nat):Int)=qm at *;go_wp2_with fail;refine HADD.out.mono ?_;rintro e w4 ⟨rfl,hc4,hg4⟩
   have hcz4:zaS w4 gz (uv (zs.take k++q2.1++zs.drop (k+(ys.length+1)))++spare):=by
    rw[zcF,zcF,zqbj (uv (zs.take k)++uv q2.1)];exact hc4
   have hcq5:zaS w4 w.heap.size (uv (qs.set k (qh-1))):=HCQ4.out.grown hg4 (by simp;omega);have hgr5:w.grownBy w4 (some gx):=zma HGR4.out hg4 hgz4;have HCZ:=zHd hcz4;have HCQ:=zHd hcq5;have HGR:=zHd hgr5;clear hcz4 hcq5 hgr5 hc4 hg4 hcell3 hfree3;go_wp2
   go_roundw
   case rel=>exact⟨j+1,k,_,_,by go_num,by have:=HJK.out;omega,HST.out,HCZ.out,HCQ.out,HGR.out⟩
   case measure=>simp[intOf];omega
  | zero =>
   obtain⟨hf1,hf2⟩:=zI.fin;have hzb:zaO B wr (.slice (some ⟨gz,0,none⟩) zs.length cap) zs:=zaO.of_cells hcz hgzB (by rw[zqag,zaN];have:=HSPL.out;omega) (by unfold maxLen;omega) (by rw[List.take_append_of_le_length (by rw[zaN];exact zqab _),zqaf (by rw[zaN];exact zqab _)]) (by omega);have htr:=zkR B gz cap zs wr hzb (by omega);rw[hzl] at htr;have hqb:zaO 0 wr (.slice (some ⟨w.heap.size,0,none⟩) qs.length n) qs:=zaO.of_cells hcq (zqaw _) (by rw[zaN,hql];exact HNN.out) (by unfold maxLen;omega) (by rw[zqaf (by rw[zaN];exact zqab _)]) (by have:=HNN.out;omega);have HT:=zHd htr;have HF1:=zHd hf1;have HF2:=zHd hf2;have HZB:=zHd hzb;have HQB:=zHd hqb;have HGR:=zHd hgr;have HINV:=zHd zI;have HZL:=zHd hzl;have HCZ:=zHd hcz;have hjn:¬ ((j:Int)<(n:Int)):=by omega
   have hqln:qs.length=n:=by rw[hql];exact HNN.out
   have HQL:=zHd hqln;clear hf1 hf2 hzb htr hqb hgr zI hcz hcq hzl hql hqln hjk;go_wp2_with fail;refine HT.out.mono ?_;rintro e w3 ⟨t,ht,rfl,rfl,hv',ht'⟩;have htl:(zs.take t).length=t:=by rw[zqan];omega
   have HOK:Hid (zpo B gx gy xs ys w wr (.slice (some ⟨w.heap.size,0,none⟩) n n) qs gz cap (zs.take t)):=by
    have hzl:=HZL.out;refine⟨by have:=HQB.out;rw[HQL.out] at this;exact this,HINV.out.qlt,HF1.out,by rw[HQL.out];have:=HNN.out;omega,?_,hgz2,fun z hz=>HINV.out.zlt z (zqau hz),by rw[hv'];exact HF2.out,ht',by rw[htl];omega,HGR.out⟩;refine zaO.of_cells HCZ.out hgzB (by rw[zqag,zaN];have:=HSPL.out;omega) (by unfold maxLen;omega) ?_ (by rw[htl];omega);rw[htl,List.take_append_of_le_length (by rw[zaN];exact ht),zns]
   have HTL:=zHd htl;clear hv' ht' htl;go_wp2;go_ret2;exact⟨_,qs,gz,cap,zs.take t,by rw[HTL.out];rfl,HOK.out⟩
def sgL (sw:Bool):Int:=if sw then 1 else -1
def zhS (sw:Bool):sgL (!sw) = -sgL sw:=by cases sw <;> rfl
def zyY (sw:Bool):sgL sw*sgL sw=1:=by cases sw <;> rfl
structure ziJ (hx hy x y a b c d e f:Nat)(sw:Bool):Prop where
 vx:(x:Int)=sgL sw*(b*hx-d*hy)
 vy:(y:Int)=sgL sw*(f*hy-e*hx)
 det:(b:Int)*f-d*e=sgL sw
 ef:e<=f
 bd:b+e<=d+f
 f1:1<=f
 fh:f<=1000000000000000000
 al:a<1000000000
 bl:b<1000000000
 cl:c<1000000000
 dl:d<1000000000
 det2:c=0∨(b:Int)*c-a*d=sgL sw
 first:(b=1/\d=0/\e=0/\f=1/\sw=true)∨∀ P X Y:Nat,0<P->X/P=hx->Y/P=hy->sgL sw*(b*X-d*Y)<=(Y:Int)
 good:c=0∨∀ P X Y:Nat,0<P->X/P=hx->Y/P=hy->0<sgL sw*(b*X-d*Y)/\sgL sw*(b*X-d*Y) < -sgL sw*(a*X-c*Y) /\ -sgL sw*(a*X-c*Y)<=(Y:Int)
def zwG (hx hy:Nat):ziJ hx hy hx hy 0 1 0 0 0 1 true where
 vx:=by simp[sgL]
 vy:=by simp[sgL]
 det:=by simp[sgL]
 ef:=by omega
 bd:=by omega
 f1:=by omega
 fh:=by omega
 al:=by omega
 bl:=by omega
 cl:=by omega
 dl:=by omega
 det2:=.inl rfl
 first:=.inl ⟨rfl,rfl,rfl,rfl,rfl⟩
 good:=.inl rfl
section
variable {hx hy x y a b c d e f:Nat} {sw:Bool}
def ziJ.whole (h:ziJ hx hy x y a b c d e f sw):f*x+d*y=hx:=by
 have hz:((f:Int)*x+d*y)=hx:=by
  rw[h.vx,h.vy];have hd:=h.det;have hs:=zyY sw;generalize sgL sw=s at *;have:(f:Int)*(s*(b*hx-d*hy))+d*(s*(f*hy-e*hx))=s*((b:Int)*f-d*e)*hx:=by grind
  rw[this,hd,hs];simp
 exact_mod_cast hz
def zrF {P X Y hx hy:Nat}(hP:0<P)(h1:X/P=hx)(h2:Y/P=hy)(s:Int)(hs:s=1∨s = -1)(u v n:Nat)(m:Int)(huv:u<=n)(hvn:v<=n)(hm:m=s*(u*hx-v*hy))(hn:(n:Int)<=m)(h0:0<n) :
  0<s*(u*X-v*Y):=by
 have e1:X=P*hx+X%P:=by rw[<- h1];exact(zqbt X P).symm
 have e2:Y=P*hy+Y%P:=by rw[<- h2];exact(zqbt Y P).symm
 have l1:=Nat.mod_lt X hP;have l2:=Nat.mod_lt Y hP;generalize X%P=X' at *;generalize Y%P=Y' at *;subst e1;subst e2;have k1:u*X'<=n*(P-1):=Nat.mul_le_mul huv (by omega);have k2:v*Y'<=n*(P-1):=Nat.mul_le_mul hvn (by omega);have k3:(n:Int)*P<=m*P:=Int.mul_le_mul_of_nonneg_right hn (by omega)
 have k4:n*(P-1)+n=n*P:=by
  obtain⟨p,rfl⟩:∃ p,P=p+1:=⟨P-1,by omega⟩;simp[zqbh]
 have e3:s*((u:Int)*((P*hx+X':Nat):Int)-v*((P*hy+Y':Nat):Int))=m*P+s*((u*X':Nat)-(v*Y':Nat):Int):=by
  rw[hm];push_cast;grind
 rw[e3];have k5:(n:Int)*P=((n*P:Nat):Int):=by push_cast;rfl
 rw[k5] at k3;generalize u*X'=p1 at *;generalize v*Y'=p2 at *;generalize n*(P-1)=p3 at *;generalize n*P=p4 at *;generalize m*(P:Int)=p5 at *;rcases hs with rfl|rfl <;> omega
def zyZ (sw:Bool):sgL sw=1∨sgL sw = -1:=by cases sw <;> simp[sgL]
def ziJ.step (h:ziJ hx hy x y a b c d e f sw)(hx18:hx<1000000000000000000)(h1:f<=y)(h2:y+d+f<=x) :
  ziJ hx hy y (x%y) b e d f (b+x/y*e) (d+x/y*f) (!sw)/\x%y<y/\f<1000000000:=by
 have hf1:=h.f1;have hq:1<=x/y:=(Nat.one_le_div_iff (by omega)).2 (by omega);have hdm:y*(x/y)+x%y=x:=zqbt x y;have hml:x%y<y:=Nat.mod_lt _ (by omega);have hw:=h.whole
 have hff:f*f<1000000000000000000:=by
  have:f*f<=f*x:=zqbd _ (by omega);omega
 have hfb:f<1000000000:=by
  rcases Nat.lt_or_ge f 1000000000 with g|g;exact g;have:=Nat.mul_le_mul g g;omega
 generalize hqq:x/y=q at *;generalize hrr:x%y=r at *
 have hgood:∀ P X Y:Nat,0<P->X/P=hx->Y/P=hy->0<sgL sw*(f*Y-e*X)/\sgL sw*(f*Y-e*X)<sgL sw*(b*X-d*Y):=by
  intro P X Y hP e1 e2;constructor
  ·have:=zrF (u:=e) (v:=f) (n:=f) hP e1 e2 (-sgL sw) (by rcases zyZ sw with g|g <;> simp[g]) (y:Int) h.ef (zqab _) (by rw[h.vy];grind) (by omega) (by omega)
   have e3 : -sgL sw*((e:Int)*X-f*Y)=sgL sw*(f*Y-e*X):=by grind
   rwa [e3] at this
  have:=zrF (u:=b+e) (v:=d+f) (n:=d+f) hP e1 e2 (sgL sw) (zyZ sw) ((x:Int)-y) h.bd (zqab _) (by rw[h.vx,h.vy];push_cast;grind) (by omega) (by omega);have e3:sgL sw*(((b+e:Nat):Int)*X-((d+f:Nat):Int)*Y)=sgL sw*(b*X-d*Y)-sgL sw*(f*Y-e*X):=by push_cast;grind
  rw[e3] at this;omega
 have hel:e<1000000000:=Nat.lt_of_le_of_lt h.ef hfb;have hnext:ziJ hx hy y r b e d f (b+q*e) (d+q*f) (!sw)->ziJ hx hy y r b e d f (b+q*e) (d+q*f) (!sw)/\r<y/\f<1000000000:=fun g=>⟨g,hml,hfb⟩;apply hnext;have vy':(y:Int)=sgL (!sw)*(e*hx-f*hy):=by rw[zhS,h.vy];grind
 have vr':(r:Int)=sgL (!sw)*((d+q*f:Nat)*hy-(b+q*e:Nat)*hx):=by
  have e1:(r:Int)=x-y*q:=by have:=zqbz (Nat.cast (R:=Int)) hdm;push_cast at this;omega
  rw[e1,zhS,h.vx,h.vy];push_cast;grind
 have det':(e:Int)*(d+q*f:Nat)-f*(b+q*e:Nat)=sgL (!sw):=by
  rw[zhS,<- h.det];push_cast;grind
 have hqe:q*e<=q*f:=zqbd _ h.ef;have hqe1:(q-1)*e<=(q-1)*f:=zqbd _ h.ef
 have hq1:∀ z:Nat,q*z=(q-1)*z+z:=fun z=>by
  obtain⟨p,rfl⟩:∃ p,q=p+1:=⟨q-1,by omega⟩;simp[Nat.add_mul]
 have ef':b+q*e<=d+q*f:=by rw[hq1 e,hq1 f];have:=h.bd;omega
 have fh':d+q*f<=1000000000000000000:=by
  have e1:((d+q*f:Nat):Int)*y+f*r=hx:=by
   have e2:(r:Int)=x-y*q:=by have:=zqbz (Nat.cast (R:=Int)) hdm;push_cast at this;omega
   have e3:(f:Int)*x+d*y=hx:=by exact_mod_cast hw
   rw[e2,<- e3];push_cast;grind
  have e4:(d+q*f)*y+f*r=hx:=by exact_mod_cast e1
  have e5:(d+q*f)*1<=(d+q*f)*y:=zqbd _ (by omega);omega
 exact {
  vx:=vy',vy:=vr',det:=det',ef:=ef',bd:=by have:=h.ef;omega,f1:=by have:=Nat.mul_le_mul hq hf1;omega,fh:=fh'
  al:=h.bl,bl:=hel,cl:=h.dl,dl:=hfb
  det2:=.inr (by rw[zhS,<- h.det];grind)
  first:=.inr (fun P X Y hP e1 e2=>by
   have g:=hgood P X Y hP e1 e2;have e3:sgL (!sw)*((e:Int)*X-f*Y)=sgL sw*(f*Y-e*X):=by rw[zhS];grind
   rw[e3];rcases h.first with⟨rfl,rfl,rfl,rfl,rfl⟩|k
   simp[sgL];have:=k P X Y hP e1 e2;omega)
  good:=by
   rcases h.first with⟨rfl,rfl,rfl,rfl,rfl⟩|k;exact .inl rfl;refine .inr (fun P X Y hP e1 e2=>?_);have g:=hgood P X Y hP e1 e2;have g2:=k P X Y hP e1 e2;have e3:sgL (!sw)*((e:Int)*X-f*Y)=sgL sw*(f*Y-e*X):=(by rw[zhS];grind);have e4 : -sgL (!sw)*((b:Int)*X-d*Y)=sgL sw*(b*X-d*Y):=(by rw[zhS];grind);rw[e3,e4];exact⟨g.1,g.2,g2⟩ }
structure Later (a b c d:Nat)(sw:Bool)(X Y A B:Nat):Prop where
 t1:sw=true->A+a*X=c*Y/\B+d*Y=b*X
 t2:sw=false->A+c*Y=a*X/\B+b*X=d*Y
 pos:0<B
 lt:B<A
 le:A<=Y
 g:Nat.gcd A B=Nat.gcd X Y
def ziJ.out (h:ziJ hx hy x y a b c d e f sw)(h0:c≠0){P X Y:Nat}(hP:0<P)(h1:X/P=hx)(h2:Y/P=hy):∃ A B,Later a b c d sw X Y A B:=by
 obtain⟨g1,g2,g3⟩:=h.good.resolve_left h0 P X Y hP h1 h2;have hd:=h.det2.resolve_left h0;have hs:=zyY sw;obtain⟨A,hA⟩:∃ A:Nat,(A:Int) = -sgL sw*(a*X-c*Y):=⟨(-sgL sw*(a*X-c*Y)).toNat,Int.toNat_of_nonneg (by omega)⟩;obtain⟨B,hB⟩:∃ B:Nat,(B:Int)=sgL sw*(b*X-d*Y):=⟨(sgL sw*(b*X-d*Y)).toNat,Int.toNat_of_nonneg (by omega)⟩;rw[<- hA,<- hB] at g2;rw[<- hA] at g3;rw[<- hB] at g1;refine⟨A,B,⟨?_,?_,by omega,by omega,by omega,?_⟩⟩
 ·rintro rfl
  simp only[sgL,if_true] at hA hB;constructor
  ·have:((A+a*X:Nat):Int)=((c*Y:Nat):Int):=by push_cast;rw[hA];grind
   exact_mod_cast this
  have:((B+d*Y:Nat):Int)=((b*X:Nat):Int):=by push_cast;rw[hB];grind
  exact_mod_cast this
 ·rintro rfl
  simp only[sgL] at hA hB;constructor
  ·have:((A+c*Y:Nat):Int)=((a*X:Nat):Int):=by push_cast;rw[hA];simp <;> grind
   exact_mod_cast this
  have:((B+b*X:Nat):Int)=((d*Y:Nat):Int):=by push_cast;rw[hB];simp <;> grind
  exact_mod_cast this
 have eX:d*A+c*B=X:=by
  have:((d:Int)*A+c*B)=X:=by
   rw[hA,hB];generalize sgL sw=s at *;have e:(d:Int)*(-s*(a*X-c*Y))+c*(s*(b*X-d*Y))=s*((b:Int)*c-a*d)*X:=(by grind);rw[e,hd,hs];simp
  exact_mod_cast this
 have eY:b*A+a*B=Y:=by
  have:((b:Int)*A+a*B)=Y:=by
   rw[hA,hB];generalize sgL sw=s at *;have e:(b:Int)*(-s*(a*X-c*Y))+a*(s*(b*X-d*Y))=s*((b:Int)*c-a*d)*Y:=(by grind);rw[e,hd,hs];simp
  exact_mod_cast this
 refine Nat.dvd_antisymm (Nat.dvd_gcd ?_ ?_) (Nat.dvd_gcd ?_ ?_);rw[<- eX];exact Nat.dvd_add (Nat.dvd_mul_left_of_dvd (Nat.gcd_dvd_left A B) _) (Nat.dvd_mul_left_of_dvd (Nat.gcd_dvd_right A B) _);rw[<- eY];exact Nat.dvd_add (Nat.dvd_mul_left_of_dvd (Nat.gcd_dvd_left A B) _) (Nat.dvd_mul_left_of_dvd (Nat.gcd_dvd_right A B) _)
 ·have hx':((Nat.gcd X Y:Nat):Int) ∣ X:=Int.natCast_dvd_natCast.2 (Nat.gcd_dvd_left X Y)
  have hy':((Nat.gcd X Y:Nat):Int) ∣ Y:=Int.natCast_dvd_natCast.2 (Nat.gcd_dvd_right X Y);apply Int.natCast_dvd_natCast.1;rw[hA];exact zQbK
 have hx':((Nat.gcd X Y:Nat):Int) ∣ X:=Int.natCast_dvd_natCast.2 (Nat.gcd_dvd_left X Y);have hy':((Nat.gcd X Y:Nat):Int) ∣ Y:=Int.natCast_dvd_natCast.2 (Nat.gcd_dvd_right X Y);apply Int.natCast_dvd_natCast.1;rw[hB];exact zQbK
end
def zez (f g:Nat)(xs ys:List Nat)(i:Nat)(c:Int):Int:=c+(((f*xs.getD i 0:Nat):Int)-((g*ys.getD i 0:Nat):Int))
def dif (f g:Nat)(xs ys:List Nat):Nat->List Nat×Int
 | 0=>([],0)
 | k+1=>((dif f g xs ys k).1++[(zez f g xs ys k (dif f g xs ys k).2%1000000000).toNat],zez f g xs ys k (dif f g xs ys k).2/1000000000)
structure zHM (f g:Nat)(xs ys:List Nat)(k:Nat)(zs:List Nat)(c:Int):Prop where
 len:zs.length=k
 lt:∀ z∈zs,z<1000000000
 lo : -1000000000<=c
 hi:c<=1000000000
 val:((vl 1000000000 zs:Nat):Int)+((1000000000 ^ k:Nat):Int)*c=f*(vl 1000000000 (xs.take k):Nat)-g*(vl 1000000000 (ys.take k):Nat)
def zpp {f g:Nat}{xs ys:List Nat}(hf:f<=1000000000)(hg:g<=1000000000)(hx:∀ x∈xs,x<1000000000)(hy:∀ y∈ys,y<1000000000)(i:Nat){c:Int}(h1 : -1000000000<=c)(h2:c<=1000000000) :
  f*xs.getD i 0<=999999999000000000/\g*ys.getD i 0<=999999999000000000 /\ -1000000000000000000<=zez f g xs ys i c/\zez f g xs ys i c<=1000000000000000000:=by
 have a1:=zbl 1000000000 (by decide) xs hx i;have a2:=zbl 1000000000 (by decide) ys hy i;have b1:=znl f _ hf a1;have b2:=znl g _ hg a2;unfold zez;omega
def zsV {f g:Nat}{xs ys:List Nat}(hf:f<=1000000000)(hg:g<=1000000000)(hx:∀ x∈xs,x<1000000000)(hy:∀ y∈ys,y<1000000000):∀ k,zHM f g xs ys k (dif f g xs ys k).1 (dif f g xs ys k).2
 | 0=>⟨rfl,by simp[dif],by simp[dif],by simp[dif],by simp[dif,vl]⟩
 | k+1=>by
  have ih:=zsV hf hg hx hy k;obtain⟨r1,r2,r3,r4⟩:=zpp hf hg hx hy k ih.lo ih.hi;have hdm:=Int.mul_ediv_add_emod (zez f g xs ys k (dif f g xs ys k).2) 1000000000;have hm0:=Int.emod_nonneg (zez f g xs ys k (dif f g xs ys k).2) (show(1000000000:Int)≠0 by decide);have hm1:=Int.emod_lt_of_pos (zez f g xs ys k (dif f g xs ys k).2) (show(0:Int)<1000000000 by decide);have hS:zez f g xs ys k (dif f g xs ys k).2=(dif f g xs ys k).2+(((f*xs.getD k 0:Nat):Int)-((g*ys.getD k 0:Nat):Int)):=rfl;have hv:=ih.val;have hl:=ih.len;refine⟨?_,?_,?_,?_,?_⟩;simp[dif,hl]
  ·intro z hz
   simp only[dif,zqbo,zqbk] at hz;rcases hz with hz|rfl
   exact ih.lt z hz;omega
  ·show -1000000000<=zez f g xs ys k (dif f g xs ys k).2/1000000000
   omega
  ·show zez f g xs ys k (dif f g xs ys k).2/1000000000<=1000000000
   omega
  show((vl 1000000000 ((dif f g xs ys k).1++[(zez f g xs ys k (dif f g xs ys k).2%1000000000).toNat]):Nat):Int)+((1000000000 ^ (k+1):Nat):Int)*(zez f g xs ys k (dif f g xs ys k).2/1000000000)=_;rw[zgk,hl,zaU,zaU];generalize zez f g xs ys k (dif f g xs ys k).2/1000000000=q at *;generalize hr:zez f g xs ys k (dif f g xs ys k).2%1000000000=r at *;have hr2:((r.toNat:Nat):Int)=r:=Int.toNat_of_nonneg hm0;have e1:(r:Int)=(dif f g xs ys k).2+(((f*xs.getD k 0:Nat):Int)-((g*ys.getD k 0:Nat):Int))-1000000000*q:=by omega
  generalize (dif f g xs ys k).2=c at *;generalize vl 1000000000 (dif f g xs ys k).1=z at *;rw[zqbp];generalize (1000000000:Nat) ^ k=P at *;simp only[Int.natCast_add,Int.natCast_mul] at hv e1 ⊢;rw[hr2,e1];have e9:((1000000000:Nat):Int)=1000000000:=rfl;rw[e9];grind
def zFs {f g:Nat}{xs ys:List Nat}(hf:f<=1000000000)(hg:g<=1000000000)(hx:∀ x∈xs,x<1000000000)(hy:∀ y∈ys,y<1000000000){n R:Nat}(hxn:xs.length<=n)(hyn:ys.length<=n)
  (hR:R+g*vl 1000000000 ys=f*vl 1000000000 xs) (hlt:R<1000000000 ^ n):vl 1000000000 (dif f g xs ys n).1=R:=by
 have h:=zsV hf hg hx hy n;have hv:=h.val;rw[zqaf hxn,zqaf hyn] at hv;have hz:=zcv 1000000000 _ h.lt;rw[h.len] at hz;have hR2:(R:Int)+g*(vl 1000000000 ys:Nat)=f*(vl 1000000000 xs:Nat):=by exact_mod_cast hR
 have hv2:((vl 1000000000 (dif f g xs ys n).1:Nat):Int)+((1000000000 ^ n:Nat):Int)*(dif f g xs ys n).2=R:=by omega
 generalize vl 1000000000 (dif f g xs ys n).1=z at *;generalize (dif f g xs ys n).2=c at *;generalize (1000000000:Nat) ^ n=P at *
 have hc:c=0:=by
  rcases Int.lt_trichotomy c 0 with k|k|k
  ·have:(P:Int)*c<=(P:Int)*(-1):=Int.mul_le_mul_of_nonneg_left (by omega) (by omega)
   omega
  exact k;have:(P:Int)*1<=(P:Int)*c:=Int.mul_le_mul_of_nonneg_left (by omega) (by omega);omega
 subst hc;omega
def zza (c:Int):(Int.tmod c 1000000000<0/\c%1000000000=Int.tmod c 1000000000+1000000000/\c/1000000000=Int.tdiv c 1000000000-1) ∨
  (0<=Int.tmod c 1000000000/\c%1000000000=Int.tmod c 1000000000/\c/1000000000=Int.tdiv c 1000000000):=by
 have h1:=Int.mul_tdiv_add_tmod c 1000000000;have h2:=Int.tmod_lt_of_pos c (show(0:Int)<1000000000 by decide);have h3:=Int.tmod_lt_of_pos (-c) (show(0:Int)<1000000000 by decide);rw[Int.neg_tmod] at h3;generalize Int.tmod c 1000000000=t at *;generalize Int.tdiv c 1000000000=q at *
 by_cases h:t<0
 left;omega;right;omega
open Go.RowKit
def ziK (xs:List Nat)(i:Int):Nat:=zcK xs (i-1)*1000000000+zcK xs (i-2)
def zkU {xs:List Nat}(hx:∀ x∈xs,x<1000000000)(i:Int):zcK xs i<1000000000:=by
 unfold zcK;split;decide;exact zbl 1000000000 (by decide) xs hx _
def znv {xs:List Nat}(hx:∀ x∈xs,x<1000000000)(i:Int):ziK xs i<1000000000000000000:=by
 unfold ziK;have h1:=zkU hx (i-1);have h2:=zkU hx (i-2);omega
def znw (w:World)(v:Value)(xs:List Nat)(i:Int)(h:zgO w v xs)(hx:∀ x∈xs,x<1000000000)(hn:xs.length<=10000)(hi:0<=i)(hi2:i<=10000) :
  Calls prog 202 #[v,.int .i64 i] w fun e w'=>e=.returned (.int .u64 (ziK xs i:Nat))/\w=w':=by
 have b1:=zfq w v xs (i-1) h (by omega) (by omega) (by omega);have b2:=zfq w v xs (i-2) h (by omega) (by omega) (by omega);have l1:=zkU hx (i-1);have l2:=zkU hx (i-2);have hT:ziK xs i=zcK xs (i-1)*1000000000+zcK xs (i-2):=rfl;generalize zcK xs (i-1)=p at *;generalize zcK xs (i-2)=q at *;have n1:IntKind.i64.wrap (i-1)=i-1:=by rw[zqah];omega
 have n2:IntKind.i64.wrap (i-2)=i-2:=by rw[zqah];omega
 obtain⟨t,ht⟩:∃ t,p*1000000000=t:=⟨_,rfl⟩;obtain⟨T,hTT⟩:∃ T,ziK xs i=T:=⟨_,rfl⟩;rw[hTT];have n3:IntKind.u64.wrap ((p:Int)*1000000000)=(t:Int):=by rw[IntKind.wrap_u64];omega
 have n4:IntKind.u64.wrap ((t:Int)+(q:Int))=(T:Int):=by rw[IntKind.wrap_u64];omega
 clear hTT ht l1 l2;have B1:=zHd b1;have B2:=zHd b2;clear b1 b2 h hT;go_enter func202,ntmps202;go_wp2_with fail;refine B1.out.mono ?_;rintro e w' ⟨rfl,rfl⟩;go_wp2_with fail;refine B2.out.mono ?_;rintro e w' ⟨rfl,rfl⟩;exact zQaJ
def stV (a b c d:Nat)(sw:Bool):Array Value:=#[.int .u64 (a:Int),.int .u64 (b:Int),.int .u64 (c:Int),.int .u64 (d:Int),.bool sw]
def zca (w:World)(g a b c d:Nat)(sw:Bool):Prop:=w.heap[g]?=some (.cells (stV a b c d sw) 194 (0,0))
structure zzb (w:World)(g a b c d:Nat)(sw:Bool):Prop where
 c0:w.cell? ⟨g,0,none⟩=some (.int .u64 (a:Int))
 c1:w.cell? ⟨g,1,none⟩=some (.int .u64 (b:Int))
 c2:w.cell? ⟨g,2,none⟩=some (.int .u64 (c:Int))
 c3:w.cell? ⟨g,3,none⟩=some (.int .u64 (d:Int))
 c4:w.cell? ⟨g,4,none⟩=some (.bool sw)
 f0:w.frozen? ⟨g,0,none⟩=false
 f1:w.frozen? ⟨g,1,none⟩=false
 f2:w.frozen? ⟨g,2,none⟩=false
 f3:w.frozen? ⟨g,3,none⟩=false
 f4:w.frozen? ⟨g,4,none⟩=false
def zca.cells {w:World}{g a b c d:Nat}{sw:Bool}(h:zca w g a b c d sw):zzb w g a b c d sw :=
 ⟨by rw[zqbw w g 0 _ _ (0,0) h];rfl,by rw[zqbw w g 1 _ _ (0,0) h];rfl,by rw[zqbw w g 2 _ _ (0,0) h];rfl,by rw[zqbw w g 3 _ _ (0,0) h];rfl,by rw[zqbw w g 4 _ _ (0,0) h];rfl,
  zqbx w g 0 _ _ h,zqbx w g 1 _ _ h,zqbx w g 2 _ _ h,zqbx w g 3 _ _ h,zqbx w g 4 _ _ h⟩
def zca.drewN {w:World}{g a b c d:Nat}{sw:Bool}(h:zca w g a b c d sw)(n:Nat):zca (w.drewN n) g a b c d sw:=h
def zca.set0 {w:World}{g a b c d:Nat}{sw:Bool}(h:zca w g a b c d sw)(n:Nat):zca (w.setCell ⟨g,0,none⟩ (.int .u64 (n:Int))) g n b c d sw:=heap_setCell_same w g 0 _ _ _ h
def zca.set1 {w:World}{g a b c d:Nat}{sw:Bool}(h:zca w g a b c d sw)(n:Nat):zca (w.setCell ⟨g,1,none⟩ (.int .u64 (n:Int))) g a n c d sw:=heap_setCell_same w g 1 _ _ _ h
def zca.set2 {w:World}{g a b c d:Nat}{sw:Bool}(h:zca w g a b c d sw)(n:Nat):zca (w.setCell ⟨g,2,none⟩ (.int .u64 (n:Int))) g a b n d sw:=heap_setCell_same w g 2 _ _ _ h
def zca.set3 {w:World}{g a b c d:Nat}{sw:Bool}(h:zca w g a b c d sw)(n:Nat):zca (w.setCell ⟨g,3,none⟩ (.int .u64 (n:Int))) g a b c n sw:=heap_setCell_same w g 3 _ _ _ h
def zca.set4 {w:World}{g a b c d:Nat}{sw:Bool}(h:zca w g a b c d sw)(n:Bool):zca (w.setCell ⟨g,4,none⟩ (.bool n)) g a b c d n:=heap_setCell_same w g 4 _ _ _ h
def zfg {w wr w':World}{u0 u1 u2 u3 u4:Value}(h:w.grownBy wr none)(k:wr.grownBy w' none) :
  w.grownBy (((((w'.setCell ⟨w.heap.size,0,none⟩ u0).setCell ⟨w.heap.size,1,none⟩ u1).setCell ⟨w.heap.size,2,none⟩ u2).setCell ⟨w.heap.size,3,none⟩ u3).setCell ⟨w.heap.size,4,none⟩ u4) none :=
 zae (zae (zae (zae (zae (zaa h k) (zad _ _ _) (zqab _)) (zad _ _ _) (zqab _)) (zad _ _ _) (zqab _)) (zad _ _ _) (zqab _)) (zad _ _ _) (zqab _)
def zCj (hx hy:Nat)(w:World)(e:Ending)(w':World):Prop :=
 ∃ x y a b c d ee f sw,e=.returned (.agg (stV a b c d sw))/\ziJ hx hy x y a b c d ee f sw/\w.grownBy w' none
def zuX (hx hy:Nat)(w:World)(h1:hx<1000000000000000000)(h2:hy<1000000000000000000) :
  Calls prog 213 #[.int .u64 (hx:Int),.int .u64 (hy:Int)] w (zCj hx hy w):=by
 have h1':=zHd (zAI h1 h2);have H18:=h1;clear h1 h2;go_enter func213,ntmps213;go_wp2;go_wp2;go_wp2
 go_loopw [0,1,5,6] (fun xv yv ev fv wr=>∃ (x y a b c d ee f:Nat) (sw:Bool),xv=.int .u64 (x:Int)/\yv=.int .u64 (y:Int)/\ev=.int .u64 (ee:Int)/\fv=.int .u64 (f:Int)/\ziJ hx hy x y a b c d ee f sw/\zca wr w.heap.size a b c d sw/\w.grownBy wr none/\y<1000000000000000000) (fun _ yv _ _ _=>(intOf yv).toNat)
 case atStart =>
  refine⟨hx,hy,0,1,0,0,0,1,true,rfl,rfl,rfl,rfl,zwG hx hy,?_,?_,h1'.out.2⟩
  ·show(w.heap.push _)[w.heap.size]?=_
   rw[zqaz];rfl
  exact zGA _ _ _
 case round =>
  obtain⟨x,y,a,b,c,d,ee,f,sw,rfl,rfl,rfl,rfl,hf,hst,hg,hyx⟩:=hrel;obtain⟨k0,k1,k2,k3,k4,z0,z1,z2,z3,z4⟩:=hst.cells;have hfh:=hf.fh;have hdl:=hf.dl
  by_cases t1:f<=y
  ·have hy0:¬ (y:Int)=0:=by have:=hf.f1;omega
   obtain⟨s1,hs1⟩:∃ s1,y+d=s1:=⟨_,rfl⟩;obtain⟨s2,hs2⟩:∃ s2,s1+f=s2:=⟨_,rfl⟩;have n1:IntKind.u64.wrap ((y:Int)+(d:Int))=(s1:Int):=by rw[IntKind.wrap_u64];omega
   have n2:IntKind.u64.wrap ((s1:Int)+(f:Int))=(s2:Int):=by rw[IntKind.wrap_u64];omega
   have b1:decide ((f:Int)<=(y:Int))=true:=by simpa using t1
   have b1n:decide (f<=y)=true:=by simpa using t1
   have HF:=zHd hf;have HST:=zHd hst;have HG:=zHd hg;have HS:=zHd (zAI hs1 hs2);have HR:=zHd (zAI hfh (zAI hdl (zAI hyx t1)));clear hf hst hg hs1 hs2 hfh hdl hyx t1
   by_cases t2:s2<=x
   ·have b2:decide (s2<=x)=true:=by simpa using t2
    have b3:decide ((s2:Int)<=(x:Int))=true:=(by simpa using t2);obtain⟨hs1,hs2⟩:=HS.out;obtain⟨hfh,hdl,hyx,t1⟩:=HR.out;obtain⟨zS',hlt,hfb⟩:=HF.out.step H18 t1 (by omega);have hq1:=zS'.fh;have hef:=zS'.ef;obtain⟨q,hq⟩:∃ q,x/y=q:=⟨_,rfl⟩;obtain⟨r,hr⟩:∃ r,x%y=r:=⟨_,rfl⟩;rw[hq,hr] at zS';rw[hq] at hq1 hef;rw[hr] at hlt;have hxx:=HF.out.whole
    have m0:IntKind.u64.wrap ((x:Int)/(y:Int))=(q:Int):=by
     have hqx:q<=x:=by rw[<- hq];exact Nat.div_le_self x y
     have hx18:x<=hx:=by
      have h1:=Nat.mul_le_mul_right x HF.out.f1;omega
     rw[<- Int.natCast_ediv,hq,IntKind.wrap_u64];omega
    have m1:IntKind.u64.wrap ((x:Int)%(y:Int))=(r:Int):=by
     rw[<- Int.natCast_emod,hr,IntKind.wrap_u64];omega
    obtain⟨p1,hp1⟩:∃ p1,q*ee=p1:=⟨_,rfl⟩;obtain⟨p2,hp2⟩:∃ p2,b+p1=p2:=⟨_,rfl⟩;obtain⟨p3,hp3⟩:∃ p3,q*f=p3:=⟨_,rfl⟩;obtain⟨p4,hp4⟩:∃ p4,d+p3=p4:=⟨_,rfl⟩;rw[hp3,hp4] at hq1;rw[hp1,hp2,hp3,hp4] at hef zS';have m2:IntKind.u64.wrap ((q:Int)*(ee:Int))=(p1:Int):=(by rw[<- Int.natCast_mul,hp1,IntKind.wrap_u64];omega);have m3:IntKind.u64.wrap ((b:Int)+(p1:Int))=(p2:Int):=(by rw[IntKind.wrap_u64];omega);have m4:IntKind.u64.wrap ((q:Int)*(f:Int))=(p3:Int):=(by rw[<- Int.natCast_mul,hp3,IntKind.wrap_u64];omega);have m5:IntKind.u64.wrap ((d:Int)+(p3:Int))=(p4:Int):=(by rw[IntKind.wrap_u64];omega);have HSt:=zHd (zAI zS' hlt);have HQ:=zHd (zAI hq hr);clear t2 hs1 hs2 hfh hdl hyx t1 zS' hlt hfb hq1 hef hq hr hxx hp1 hp2 hp3 hp4;go_wp2
    go_quiet (fail)
    go_wp2;have e1:((x:Int)%(y:Int))=(r:Int):=(by rw[<- Int.natCast_emod,HQ.out.2]);obtain⟨hst2,hlt2⟩:=HSt.out;have hr18:r<1000000000000000000:=(by have:=HR.out.2.2.1;omega);refine⟨⟨y,r,b,ee,d,f,p2,p4,!sw,rfl,by rw[e1],rfl,rfl,hst2,?_,?_,hr18⟩,by rw[e1];simpa [intOf] using hlt2⟩;exact(((((zca.drewN HST.out _).set0 b).set1 ee).set2 d).set3 f).set4 (!sw);exact zfg HG.out (zce wr none _)
   have b2:decide (s2<=x)=false:=by simpa using t2
   have b3:decide ((s2:Int)<=(x:Int))=false:=(by simpa using t2);clear t2;go_wp2;refine zqby (v:=.agg (stV a b c d sw)) ?_ rfl ⟨x,y,a,b,c,d,ee,f,sw,rfl,HF.out,?_⟩
   ·simp[results,results213,go_sem,k0,k1,k2,k3,k4,stV]
   exact zfg HG.out (zai wr none)
  have b1:decide ((f:Int)<=(y:Int))=false:=by simpa using t1
  have b1n:decide (f<=y)=false:=by simpa using t1
  have HF:=zHd hf;have HST:=zHd hst;have HG:=zHd hg;clear hf hst hg hfh hdl hyx t1;go_wp2;refine zqby (v:=.agg (stV a b c d sw)) ?_ rfl ⟨x,y,a,b,c,d,ee,f,sw,rfl,HF.out,?_⟩
  ·simp[results,results213,go_sem,k0,k1,k2,k3,k4,stV]
  exact zfg HG.out (zai wr none)
open Go.RowKit
def zFt (R n:Nat)(w:World)(e:Ending)(w':World):Prop :=
 ∃ g zs,e=.returned (.slice (some ⟨g,0,none⟩) zs.length n)/\zaO w.heap.size w' (.slice (some ⟨g,0,none⟩) zs.length n) zs /\
  (∀ z∈zs,z<1000000000)/\vl 1000000000 zs=R/\zcZ zs/\zs.length<=n/\w.grownBy w' none
structure zpq (f g:Nat)(xs ys:List Nat)(n k:Nat)(w wr:World):Prop where
 row:zaS wr w.heap.size (uv ((dif f g xs ys k).1++List.replicate (n-k) 0))
 gr:w.grownBy wr none
def zpq.put {f g:Nat}{xs ys:List Nat}{n k:Nat}{w wr:World}(h:zpq f g xs ys n k w wr)(hk:k<n)(hl:(dif f g xs ys k).1.length=k){z:Nat}(hz:(dif f g xs ys (k+1)).1=(dif f g xs ys k).1++[z]) :
  zpq f g xs ys n (k+1) w (wr.setCell ⟨w.heap.size,k,none⟩ (.int .u64 (z:Int))):=by
 refine⟨?_,zae h.gr (zad _ _ _) (zqab _)⟩;have h1:=h.row.set k (.int .u64 (z:Int));rw[zpl] at h1
 have e:((dif f g xs ys k).1++List.replicate (n-k) 0).set k z=(dif f g xs ys (k+1)).1++List.replicate (n-(k+1)) 0:=by
  rw[hz,List.set_append_right _ _ (by omega),hl,zqbr,show n-k=(n-(k+1))+1 by omega,List.replicate_succ,List.set_cons_zero,zqbj];rfl
 rw[e] at h1;exact h1
def zqH (f g n R:Nat)(A1 A2:Option Addr)(c1 c2:Nat)(xs ys:List Nat)(w:World)(hsx:∀ w1,w.grownBy w1 none->zgO w1 (.slice A1 xs.length c1) xs)(hsy:∀ w1,w.grownBy w1 none->zgO w1 (.slice A2 ys.length c2) ys)
  (hf:f<=1000000000) (hg:g<=1000000000) (hx:∀ x∈xs,x<1000000000) (hy:∀ y∈ys,y<1000000000) (hm:max xs.length ys.length=n) (hn:n<=10000)
  (hR:R+g*vl 1000000000 ys=f*vl 1000000000 xs) (hlt:R<1000000000 ^ n) :
  Calls prog 214 #[.slice A1 xs.length c1,.int .u64 (f:Int),.slice A2 ys.length c2,.int .u64 (g:Int)] w (zFt R n w):=by
 obtain⟨i0,hi,hz0,hz1,hz2⟩:=info_parts zjw;have hend:=zFs (n:=n) hf hg hx hy (by omega) (by omega) hR hlt;have hb1:=fun(w1:World) (k:Nat) (hk:k<n) (h:w.grownBy w1 none)=>zfq w1 _ xs (k:Int) (hsx w1 h) (by omega) (by omega) (by omega);have hb2:=fun(w1:World) (k:Nat) (hk:k<n) (h:w.grownBy w1 none)=>zfq w1 _ ys (k:Int) (hsy w1 h) (by omega) (by omega) (by omega);have hd:=zsV hf hg hx hy;have hrange:=fun k=>zpp hf hg hx hy k (hd k).lo (hd k).hi;have HE:=zHd hend;have HB1:=zHd hb1;have HB2:=zHd hb2;have HD:=zHd hd;have HR:=zHd hrange;have HM:=zHd hm;have HN:=zHd hn;have HF:=zHd (zAI hf hg);clear hend hb1 hb2 hd hrange hsx hsy hx hy hR hlt hm hn hf hg;rcases Nat.lt_or_ge xs.length ys.length with hxy|hxy
 all_goals
  go_enter func214,ntmps214;go_wp2_with (at_make;refine wpList_make_full _ rfl _ _ 169 rfl w.heap.size 173 i0 (.int .u64 0) 1 underlying169 hi hz0 hz1 _ _ _ _ n rfl rfl ?c0 ?c1 ?c2 (by have:=HN.out;unfold maxLen;omega) (zqab _) ?_)
  case c0=>have:=HM.out;omega
  case c1=>have:=HM.out;omega
  case c2=>have:=HN.out;first|omega|(rw[hz2];omega)
  intro w1 zO hgr;rw[zfX] at zO;have hc0:=(zaS.of_full zO).1;have HG:=zHd hgr;have HC0:=zHd hc0;clear zO hgr hc0;go_wp2
  go_loopw [10,21] (fun cv iv wr=>∃ k:Nat,cv=.int .i64 (dif f g xs ys k).2/\iv=.int .i64 (k:Int)/\k<=n/\zpq f g xs ys n k w wr) (fun _ iv _=>n-(intOf iv).toNat)
  case atStart=>exact⟨0,rfl,rfl,zqaw _,⟨by simpa [dif] using HC0.out,HG.out⟩⟩
  case round =>
   obtain⟨k,rfl,rfl,hk,zW⟩:=hrel
   by_cases hkn:k<n
   ·have t1:decide (k<n)=true:=by simpa using hkn
    have t1':decide ((k:Int)<(n:Int))=true:=(by simpa using hkn);obtain⟨r1,r2,r3,r4⟩:=HR.out k;have hb1:=HB1.out wr k hkn zW.gr;have hb2:=HB2.out wr k hkn zW.gr;have ea:zcK xs (k:Int)=xs.getD k 0:=(by unfold zcK;rw[if_neg (by omega)];rfl);have eb:zcK ys (k:Int)=ys.getD k 0:=(by unfold zcK;rw[if_neg (by omega)];rfl);rw[ea] at hb1;rw[eb] at hb2;have hS:zez f g xs ys k (dif f g xs ys k).2=(dif f g xs ys k).2+(((f*xs.getD k 0:Nat):Int)-((g*ys.getD k 0:Nat):Int)):=rfl;have hnext:(dif f g xs ys (k+1)).1=(dif f g xs ys k).1++[(zez f g xs ys k (dif f g xs ys k).2%1000000000).toNat]:=rfl;have hnext2:(dif f g xs ys (k+1)).2=zez f g xs ys k (dif f g xs ys k).2/1000000000:=rfl;have hlow:=zza (zez f g xs ys k (dif f g xs ys k).2);have zN:=(HD.out k).len;have hlo:=(HD.out k).lo;have hhi:=(HD.out k).hi;have hm0:=Int.emod_nonneg (zez f g xs ys k (dif f g xs ys k).2) (show(1000000000:Int)≠0 by decide);have hm1:=Int.emod_lt_of_pos (zez f g xs ys k (dif f g xs ys k).2) (show(0:Int)<1000000000 by decide);generalize zez f g xs ys k (dif f g xs ys k).2=S at *;obtain⟨c,hc⟩:∃ c,(dif f g xs ys k).2=c:=⟨_,rfl⟩;rw[hc] at hS hlo hhi ⊢;generalize xs.getD k 0=x at *;generalize ys.getD k 0=y at *;obtain⟨p,hp⟩:∃ p,f*x=p:=⟨_,rfl⟩;obtain⟨q,hq⟩:∃ q,g*y=q:=⟨_,rfl⟩;rw[hp] at r1 hS;rw[hq] at r2 hS;have n1:IntKind.u64.wrap ((f:Int)*(x:Int))=(p:Int):=(by rw[<- Int.natCast_mul,hp,IntKind.wrap_u64];omega);have n2:IntKind.u64.wrap ((g:Int)*(y:Int))=(q:Int):=(by rw[<- Int.natCast_mul,hq,IntKind.wrap_u64];omega);have n3:IntKind.i64.wrap (p:Int)=(p:Int):=(by rw[zqah];omega);have n4:IntKind.i64.wrap (q:Int)=(q:Int):=(by rw[zqah];omega);obtain⟨u,hu⟩:∃ u:Int,(p:Int)-(q:Int)=u:=⟨_,rfl⟩;have n5:IntKind.i64.wrap ((p:Int)-(q:Int))=u:=(by rw[zqah];omega);have n6:IntKind.i64.wrap (c+u)=S:=(by rw[zqah];omega);have n7:IntKind.i64.wrap ((k:Int)+1)=((k+1:Nat):Int):=(by have:=HN.out;rw[zqah];omega);have hik:(k:Int)<(n:Int):=(by omega);have hfree:=zW.row.free k
    have zE:wr.cell? ⟨w.heap.size,k,none⟩=some (.int .u64 0):=by
     rw[zW.row.cell,zcF,zqaq (by rw[zaN];omega),zaN,zN,zqbr,show n-k=(n-(k+1))+1 by omega];rfl
    have HROW:=zHd zW;have HX:=zHd (zAI hlow (zAI zN (zAI hm0 hm1)));have HNX:=zHd (zAI hnext hnext2);have HS:=zHd (zAI r3 (zAI r4 (zAI hkn hk)));clear zW hnext hnext2 zN hm0 hm1 r1 r2 r3 r4 hS hlo hhi hp hq hu ea eb hkn hk hc;rcases hlow with⟨l1,l2,l3⟩|⟨l1,l2,l3⟩
    ·obtain⟨L,hL⟩:∃ L,Int.tmod S 1000000000=L:=⟨_,rfl⟩
     obtain⟨Q,hQ⟩:∃ Q,Int.tdiv S 1000000000=Q:=⟨_,rfl⟩;obtain⟨r3,r4,hkn,hk⟩:=HS.out;obtain⟨_,zN,hm0,hm1⟩:=HX.out;rw[hL] at l1 l2;rw[hQ] at l3;obtain⟨z,hz⟩:∃ z:Nat,S%1000000000=(z:Int):=⟨(S%1000000000).toNat,(Int.toNat_of_nonneg hm0).symm⟩;have m1:IntKind.i64.wrap (Int.tmod S 1000000000)=L:=(by rw[hL,zqah];omega);have m2:IntKind.i64.wrap (Int.tdiv S 1000000000)=Q:=(by rw[hQ,zqah];omega);have m3:IntKind.i64.wrap (L+1000000000)=(z:Int):=(by rw[zqah];omega);have m4:IntKind.i64.wrap (Q-1)=S/1000000000:=(by rw[zqah];omega);have m5:IntKind.u64.wrap (z:Int)=(z:Int):=(by rw[IntKind.wrap_u64];omega);have t2:decide (L<0)=true:=(by simpa using l1);have t2':decide (S.tmod 1000000000<0)=true:=(by rw[hL];exact t2);have HZ:=zHd hz;clear r3 r4 hkn hk zN hm0 hm1 l1 l2 l3 hL hQ hz;go_wp2_with fail;refine hb1.mono ?_;rintro e w' ⟨rfl,rfl⟩;go_wp2_with fail;refine hb2.mono ?_;rintro e w' ⟨rfl,rfl⟩;clear hb1 hb2;go_wp2;have ez:S.tmod 1000000000+1000000000=(z:Int):=(by have:=HX.out.1;have:=HZ.out;have:=of_decide_eq_true t2';omega);obtain⟨_,_,hkn,hk⟩:=HS.out;refine⟨⟨k+1,by rw[HNX.out.2],rfl,hkn,?_⟩,by simp[intOf];omega⟩;rw[ez];exact HROW.out.put hkn (HX.out.2.1) (by rw[HNX.out.1,HZ.out];rfl)
    obtain⟨L,hL⟩:∃ L,Int.tmod S 1000000000=L:=⟨_,rfl⟩;obtain⟨Q,hQ⟩:∃ Q,Int.tdiv S 1000000000=Q:=⟨_,rfl⟩;obtain⟨r3,r4,hkn,hk⟩:=HS.out;obtain⟨_,zN,hm0,hm1⟩:=HX.out;rw[hL] at l1 l2;rw[hQ] at l3;obtain⟨z,hz⟩:∃ z:Nat,S%1000000000=(z:Int):=⟨(S%1000000000).toNat,(Int.toNat_of_nonneg hm0).symm⟩;have m1:IntKind.i64.wrap (Int.tmod S 1000000000)=L:=(by rw[hL,zqah];omega);have m2:IntKind.i64.wrap (Int.tdiv S 1000000000)=Q:=(by rw[hQ,zqah];omega);have m5:IntKind.u64.wrap L=L:=(by rw[IntKind.wrap_u64];omega);have t2:decide (L<0)=false:=(by simpa using l1);have t2':decide (S.tmod 1000000000<0)=false:=(by rw[hL];exact t2);have eQ:Q=S/1000000000:=l3.symm;have eL:L=(z:Int):=(by omega);have HZ:=zHd (zAI hz (zAI eQ (zAI eL (zAI hL hQ))));clear r3 r4 hkn hk zN hm0 hm1 l1 l2 l3 hL hQ hz eQ eL;go_wp2_with fail;refine hb1.mono ?_;rintro e w' ⟨rfl,rfl⟩;go_wp2_with fail;refine hb2.mono ?_;rintro e w' ⟨rfl,rfl⟩;clear hb1 hb2;go_wp2;obtain⟨hz,eQ,eL,hL,hQ⟩:=HZ.out;have ez:S.tmod 1000000000=(z:Int):=(by rw[hL,eL]);have ez2:IntKind.u64.wrap (S.tmod 1000000000)=(z:Int):=(by rw[hL,m5,eL]);obtain⟨_,_,hkn,hk⟩:=HS.out;refine⟨⟨k+1,by rw[HNX.out.2,eQ],rfl,hkn,?_⟩,by simp[intOf];omega⟩
    first|rw[ez2]|rw[ez]
    exact HROW.out.put hkn (HX.out.2.1) (by rw[HNX.out.1,hz];rfl)
   obtain rfl:k=n:=by omega
   have t1:decide (k<k)=false:=(by simp);have t1':decide ((k:Int)<(k:Int))=false:=(by simp);have hc:=zW.row;rw[zqbr,List.replicate_zero,List.append_nil] at hc;have zN:=(HD.out k).len
   have hblk:zaO w.heap.size wr (.slice (some ⟨w.heap.size,0,none⟩) (dif f g xs ys k).1.length k) (dif f g xs ys k).1 :=
    zaO.of_cells hc (zqab _) (by rw[zaN,zN]) (by have:=HN.out;unfold maxLen;omega) (by rw[zqaf (by rw[zaN];exact zqab _)]) (by omega)
   have htr:=zkR w.heap.size w.heap.size k (dif f g xs ys k).1 wr hblk (by have:=HN.out;omega);rw[zN] at htr;have HROW:=zHd zW;have HBLK:=zHd hblk;have HL:=zHd zN;have HTR:=zHd htr;clear zW hblk zN hc hk hkn htr;go_wp2_with fail;refine HTR.out.mono ?_;rintro e w' ⟨m,hm,rfl,rfl,hv,ht⟩;have HP:=zHd (zAI hm (zAI hv ht));clear hm hv ht;go_wp2;go_ret;obtain⟨hm,hv,ht⟩:=HP.out;have zN:=HL.out;have hl2:((dif f g xs ys k).1.take m).length=m:=(by rw[zqan];omega);refine⟨w.heap.size,(dif f g xs ys k).1.take m,by rw[hl2];rfl,?_,fun z hz=>(HD.out k).lt z (zqau hz),by rw[hv];exact HE.out,ht,by rw[hl2,<- zN];exact hm,HROW.out.gr⟩;have hc:=HROW.out.row;rw[zqbr,List.replicate_zero,List.append_nil] at hc;exact zaO.of_cells hc (zqab _) (by rw[zaN,zN]) (by have:=HN.out;unfold maxLen;omega) (by rw[zns,hl2]) (by rw[hl2,<- zN];exact hm)
end Go.Proofs.YtadgpgofcjpnjaaGreatDoor
