/- Part. -/
import Derived.Test.YtadgpgofcjpnjaaGreatDoorZK12
set_option linter.unusedVariables false
set_option linter.defProp false
set_option linter.unusedSimpArgs false
set_option maxRecDepth 100000
set_option maxHeartbeats 16000000
namespace Go.Proofs.YtadgpgofcjpnjaaGreatDoor
open Go.Proofs.Tryz
open Go.RowKit
def zsx {w:World}{B B' n k:Nat}{e:TypeId}{v:Value}{xs:List Value}(h:w.ownsRow B e k v n xs)(hb:B'<=B):w.ownsRow B' e k v n xs:=by
 refine⟨h.1,?_⟩;rcases h.2 with h|⟨g,cap,cur,h1,h2,h3⟩
 exact .inl h;exact .inr ⟨g,cap,cur,h1,by omega,h3⟩
def zko {α:Type}(l:List α)(a b:α){q:Nat}(hq:l.length=q):(l++[a]).set q b=l++[b]:=by
 subst hq;rw[List.set_append_right _ _ (zqab _),zqbr];rfl
def zmZ {α:Type}(l:List α)(a:α){q:Nat}(hq:l.length=q):(l++[a])[q]?=some a:=by
 subst hq;rw[zqaq (zqab _),zqbr];rfl
def zBo (E:Nat->Prop)(bb:Nat)(k:Int)(one:ByteArray)(ss:List zac)(m:zah)(nxt:Option Nat)(w:World)(e:Ending)(w':World):Prop :=
 e=.returned (.int .i64 ((ss.length:Int)+m.start))/\zbU E w w'/\∃ v' us',zbL E w' bb k one v' (ss++m.states.map (zbi ss.length nxt)) us'
def zyo {E:Nat->Prop}{w0:World}(bb:Nat)(k:Int)(one:ByteArray)(v:Value)(ss:List zac)(us:List Value)(ca cm:Nat)(m:zah)(A:Option Addr)(cap:Nat)(xs:List Value)(nxt:Option Nat)(nv:Int)(w:World)
  (h:zbL E w bb k one v ss us) (hc:zfF w ca cm bb m (.slice A m.states.length cap)) (hE:∀ b,b<w0.heap.size->E b) (hca:E ca) (hcm:E cm) (hst:zeA w0 A xs m.states) (hb0:Below w0.heap.size w0 w)
  (hnv:(nxt=none/\nv = -1)∨∃ z:Nat,nxt=some z/\nv=(z:Int)/\z<=1000000)
  (hn:ss.length+m.states.length<=900000) (ha:∀ s∈m.states,s.arcs.length<=900000/\∀ a∈s.arcs,0<=a.t/\a.t<=1000000) (hs0:0<=m.start/\m.start<=1000000) :
  Calls prog 78 #[.int .i64 nv,.pointer (some ⟨ca,0,none⟩),.pointer (some ⟨cm,0,none⟩)] w (zBo E bb k one ss m nxt w):=by
 obtain⟨A1,c1,rfl,_⟩:=zew h.at_.own;have x0:=hc.c0;have x1:=h.at_.c0;obtain⟨y0,y1,y2,y3⟩:=hc.m.cells;have HH:=zHd h;have HC:=zHd hc;have HST:=zHd hst;have HB0:=zHd hb0;have HNV:=zHd hnv;have HN:=zHd hn;have HA:=zHd ha;have HS0:=zHd hs0;have HEE:=zHd (zAI hE (zAI hca hcm));clear h hc hst hb0 hnv hn ha hs0 hE hca hcm;go_enter func78,ntmps78;go_wp2;clear x0 x1 y0 y1 y2 y3
 go_loopw [18] (fun iv wr=>∃ (i:Nat) (v':Value) (us':List Value),i<=m.states.length/\iv=.int .i64 (i:Int)/\zbU E w wr/\zbL E wr bb k one v' (ss++(m.states.take i).map (zbi ss.length nxt)) us') (fun iv _=>m.states.length-(intOf iv).toNat)
 case atStart=>exact⟨0,_,_,zqaw _,rfl,zbU.refl _ _,by simpa using HH.out⟩
 case round =>
  obtain⟨i,v',us',hi',rfl,hk,hr⟩:=hrel
  by_cases hin:i<m.states.length
  ·obtain⟨ad,s,B,cb,rfl,hs,hu,zE,hra⟩:=((HST.out.below (HB0.out.trans (hk.below HEE.out.1))).at_ hin)
   obtain⟨y0,y1⟩:=zE;have n1:(i:Int)<(m.states.length:Int):=by omega
   have n2:IntKind.i64.wrap ((i:Int)+1)=(i:Int)+1:=by have:=HN.out;rw[zqah];omega
   have zN:(ss++(m.states.take i).map (zbi ss.length nxt)).length=ss.length+i:=by rw[zqag,zqbn,zqan];omega
   have hnext:ss++(m.states.take (i+1)).map (zbi ss.length nxt)=(ss++(m.states.take i).map (zbi ss.length nxt))++[zbi ss.length nxt s]:=by rw[zeu hs,List.map_append,zqbj];rfl
   generalize ss++(m.states.take i).map (zbi ss.length nxt)=L at zN hnext hr;obtain⟨q,hq⟩:∃ q,L.length=q:=⟨_,rfl⟩;rw[hq] at zN;have hga:=zGA wr (.cells #[.string s.fin,.slice B s.arcs.length cb] 76) none;have hsn:=ztT wr s.fin (.slice B s.arcs.length cb);obtain⟨z0,z1⟩:=hsn;have hr1:=hr.grown (F:=fun b=>E b∨b=wr.heap.size) hga (fun b hb=>hb.elim .inl (fun e=>.inr ⟨by omega,by rw[e];simp⟩));have hx1:=(HC.out.keep hk HEE.out.2.1 HEE.out.2.2).grown hga;have hra1:Reads (wr.alloc (.cells #[.string s.fin,.slice B s.arcs.length cb] 76)) (wr.alloc (.cells #[.string s.fin,.slice B s.arcs.length cb] 76)).heap.size 4 B s.arcs.length (s.arcs.flatMap zdw):=(hra.below (zct hga)).more hga.size;have hsb:wr.heap.size<(wr.alloc (.cells #[.string s.fin,.slice B s.arcs.length cb] 76)).heap.size:=by simp
   have x0:=hx1.c0;have hks:zbU E w (wr.alloc (.cells #[.string s.fin,.slice B s.arcs.length cb] 76)):=hk.trans (zaF hga (fun b e=>by cases e) hr.lt);have HADD:=zHd (zgj bb k one v' L us' noB _ hr1 (by have:=HN.out;omega));unfold noB at HADD;have HI:=zHd (zAI hin (zAI zN (zAI hnext hq)));have HX:=zHd (zAI hx1 hks);have HSU:=zHd (zAI hs hu);have HSS:=zHd (zqak hs);have HSB:=zHd hsb;clear hr hr1 hx1 hks hga hi' hin zN hnext hs hu hra hra1 hk hsb;go_wp2_with fail;refine HADD.out.mono ?_;rintro e w2 ⟨rfl,hk2,v2,hp2⟩;rw[HI.out.2.2.2];generalize hw1:wr.alloc (.cells #[.string s.fin,.slice B s.arcs.length cb] 76)=w1 at *;clear x0 y0 y1 hw1;have hx2:=HX.out.1.keep hk2 (.inl HEE.out.2.1) (.inl HEE.out.2.2);have z2:=hk2.cell (p:=⟨wr.heap.size,0,none⟩) (.inr rfl) z0;have z3:=hk2.cell (p:=⟨wr.heap.size,1,none⟩) (.inr rfl) z1;have hkw2:zbU E w w2:=HX.out.2.trans (hk2.mono (fun b hb=>.inl hb));have hra:zco w2.drew (.slice B s.arcs.length cb) s.arcs:=⟨B,cb,rfl,((HST.out.below (HB0.out.trans (hkw2.below HEE.out.1))).grown (zag w2 none)).arcs_at HSU.out.1 HSU.out.2⟩
   obtain⟨g,n2',c2,rfl⟩:∃ g n cap,v2=.slice (some ⟨g,0,none⟩) n cap:=by
    rcases hp2.at_.own.2 with⟨e,e2⟩|⟨g',cap',cur,e,_⟩;simp at e2;exact⟨g',_,cap',e⟩
   have hgl:(L++[⟨⟨#[]⟩,[]⟩])[q]?=some (⟨⟨#[]⟩,[]⟩:zac):=zmZ _ _ HI.out.2.2.2;obtain⟨u2,hu2⟩:∃ u,(us'++[.slice none 0 0])[q]?=some u:=⟨_,zqac (by rw[hp2.at_.len,zqag,HI.out.2.2.2];simp)⟩;have hn1:=(hp2.at_.st_cells hgl hu2).1;have hn2:n2'=q+1:=by rw[hn1,zqag,HI.out.2.2.2];rfl
   have b1:(q:Int)<(n2':Int):=by omega
   have b1n:q<n2':=by omega
   have b4:¬ (q:Int)<0:=by omega
   have HN2:=zHd hn2;have b3:(0:Int)<=(q:Int):=by omega
   have ne1:¬ ca=g:=fun e=>hp2.nv g rfl (.inl (e▸HEE.out.2.1));have ne2:¬ bb=g:=fun e=>by have:=(hp2.at_.own.lt g rfl).1;omega
   have ne3:¬ wr.heap.size=g:=fun e=>hp2.nv g rfl (.inr e.symm);have d0:w2.drew.cell? ⟨ca,0,none⟩=some (.pointer (some ⟨bb,0,none⟩)):=hx2.c0;have d1:w2.drew.cell? ⟨bb,0,none⟩=some (.slice (some ⟨g,0,none⟩) n2' c2):=hp2.at_.c0;have d2:w2.drew.cell? ⟨wr.heap.size,1,none⟩=some (.slice B s.arcs.length cb):=z3;have HMV:=zHd (zxY ss.length hra (by have:=(HA.out s HSS.out).1;omega) (by have:=HN.out;omega) (HA.out s HSS.out).2);have HP2:=zHd (hp2.same (zag w2 none));have HX2:=zHd hx2; have HK2:=zHd (hkw2.trans (zaF (zag w2 none) (fun b e=>by cases e) (fun b hb=>hp2.lt b (.inl hb))));have HZ2:=zHd z2;have HG2:=zHd (zAI hgl hu2);clear hx2 z0 z1 z2 z3 hkw2 hra hgl hu2 hp2 hk2 HADD hn1 hn2 hq;go_upto_region 6 with(fail)
   go_region_held2 (fun W':World=>W'.cell? ⟨ca,0,none⟩=some (.pointer (some ⟨bb,0,none⟩))/\W'.cell? ⟨bb,0,none⟩=some (.slice (some ⟨g,0,none⟩) n2' c2)/\W'.cell? ⟨wr.heap.size,1,none⟩=some (.slice B s.arcs.length cb)) (first|exact⟨d0,d1,d2⟩|exact s3|exact s4|go_keep)
    (first|(go_at_call 79;refine(HMV.out).mono ?_;rintro e w3 ⟨v3,rfl,hown3,hg3⟩;obtain⟨A3,c3,rfl,_⟩:=zew hown3;have s3:w3.cell? ⟨ca,0,none⟩=some (.pointer (some ⟨bb,0,none⟩))/\w3.cell? ⟨bb,0,none⟩=some (.slice (some ⟨g,0,none⟩) n2' c2)/\w3.cell? ⟨wr.heap.size,1,none⟩=some (.slice B s.arcs.length cb):=⟨hg3.cell d0 (by simp),hg3.cell d1 (by simp),hg3.cell d2 (by simp)⟩;have HO3:=zHd hown3;have HG3:=zHd hg3;have y3:w3.frozen? ⟨g,q*2+1,none⟩=false:=((HP2.out.same hg3).at_.st_cells HG2.out.1 HG2.out.2).2.2.2 _;have x3:w3.cell? ⟨g,q*2+1,none⟩=some u2:=((HP2.out.same hg3).at_.st_cells HG2.out.1 HG2.out.2).2.2.1;have gs:=zad w3 ⟨g,q*2+1,none⟩ (.slice A3 s.arcs.length c3);have s4:=zAI (gs.cell s3.1 (by simpa using ne1)) (zAI (gs.cell s3.2.1 (by simpa using ne2)) (gs.cell s3.2.2 (by simpa using ne3)));clear gs hown3 hg3))
   have hlm:(s.arcs.map (zbW ss.length)).length=s.arcs.length:=zqbn _;have zO:=HO3.out;rw[hlm] at zO
   have hP:=HP2.out.put (s':=⟨⟨#[]⟩,s.arcs.map (zbW ss.length)⟩) HG2.out.1 HG2.out.2 rfl HG3.out (.inl rfl) (x:=.slice A3 s.arcs.length c3) (by
    show World.ownsRow _ _ _ _ _ (s.arcs.map (zbW ss.length)).length _;rw[hlm];exact zsx zO (by have:=HP2.out.at_.lt;omega)) (fun c hc=>.inr (zO.lt c hc).1)
   rw[zko _ _ _ HI.out.2.2.2] at hP;obtain⟨hp4,hk4⟩:=hP;have hx4:=HX2.out.grown (zag w2 none) |>.keep hk4 (.inl HEE.out.2.1) (.inl HEE.out.2.2);have z4:=hk4.cell (p:=⟨wr.heap.size,0,none⟩) (.inr rfl) (show w2.drew.cell? ⟨wr.heap.size,0,none⟩=some (.string s.fin) from HZ2.out);have hgl4:(L++[⟨⟨#[]⟩,s.arcs.map (zbW ss.length)⟩])[q]?=some (⟨⟨#[]⟩,s.arcs.map (zbW ss.length)⟩:zac):=zmZ _ _ HI.out.2.2.2;have HK4:=zHd (HK2.out.trans (hk4.mono (fun b hb=>.inl hb)));have HP4:=zHd hp4;have HX4:=zHd hx4;have HZ4:=zHd z4;have HGL4:=zHd hgl4;clear d0 d1 d2 s3 s4 y3 x3 hlm zO hp4 hk4 hx4 z4 hgl4;generalize w3.setCell ⟨g,q*2+1,none⟩ (.slice A3 s.arcs.length c3)=w4 at *;rcases HNV.out with⟨rfl,rfl⟩|⟨z,rfl,rfl,hz⟩
   ·have d0:w4.drew.cell? ⟨ca,0,none⟩=some (.pointer (some ⟨bb,0,none⟩)):=HX4.out.c0
    have d1:w4.drew.cell? ⟨bb,0,none⟩=some (.slice (some ⟨g,0,none⟩) n2' c2):=HP4.out.at_.c0;have d2:w4.drew.cell? ⟨wr.heap.size,0,none⟩=some (.string s.fin):=HZ4.out;obtain⟨u5,hu5⟩:∃ u,((us'++[Value.slice none 0 0]).set q (Value.slice A3 s.arcs.length c3))[q]?=some u:=⟨_,zqac (by rw[HP4.out.at_.len,zqag,HI.out.2.2.2];simp)⟩;have hq5:=HP4.out.at_.st_cells HGL4.out hu5;have x0:w4.drew.cell? ⟨g,q*2,none⟩=some (.string ⟨#[]⟩):=hq5.2.1;have x1:w4.drew.frozen? ⟨g,q*2,none⟩=false:=hq5.2.2.2 _;have hP:=HP4.out.putF (s':=⟨s.fin,s.arcs.map (zbW ss.length)⟩) HGL4.out rfl;rw[zko _ _ _ HI.out.2.2.2] at hP;have HP5:=zHd (hP.1.same (zag _ none));have HK5:=zHd (HK4.out.trans ((hP.2.mono (fun b hb=>.inl hb)).trans (zaF (zag _ none) (fun b e=>by cases e) (fun b hb=>hP.1.lt b (.inl hb)))));have gs:=zad w4 ⟨g,q*2,none⟩ (.string s.fin);have s4:(w4.setCell ⟨g,q*2,none⟩ (.string s.fin)).drew.cell? ⟨ca,0,none⟩=some (.pointer (some ⟨bb,0,none⟩))/\(w4.setCell ⟨g,q*2,none⟩ (.string s.fin)).drew.cell? ⟨bb,0,none⟩=some (.slice (some ⟨g,0,none⟩) n2' c2)/\(w4.setCell ⟨g,q*2,none⟩ (.string s.fin)).drew.cell? ⟨wr.heap.size,0,none⟩=some (.string s.fin):=zAI (gs.cell d0 (by simpa using ne1)) (zAI (gs.cell d1 (by simpa using ne2)) (gs.cell d2 (by simpa using ne3)));clear gs hP hq5 hu5;go_upto_region 8 with(fail)
    go_region_held2 (fun W':World=>W'.cell? ⟨ca,0,none⟩=some (.pointer (some ⟨bb,0,none⟩))/\W'.cell? ⟨bb,0,none⟩=some (.slice (some ⟨g,0,none⟩) n2' c2)/\W'.cell? ⟨wr.heap.size,0,none⟩=some (.string s.fin)) (first|exact⟨d0,d1,d2⟩|exact s4|go_keep) (fail)
    clear d0 d1 d2 s4 x0 x1;generalize (w4.setCell ⟨g,q*2,none⟩ (.string s.fin)).drew=w5 at *;go_wp2;exact⟨⟨i+1,_,_,HI.out.1,by simp,HK5.out,by rw[HI.out.2.2.1];exact HP5.out.mono (fun b hb=>.inl hb)⟩,by have:=HI.out.1;simp[intOf];omega⟩
   have t1:¬ (z:Int) = -1:=by omega
   have t2:((z:Int) == -1)=false:=(by simp);have z4:=HZ4.out;have HZZ:=zHd hz;clear hz
   by_cases hf:s.fin=noB
   ·have t3:(s.fin.toList==[])=true:=(zmS hf).1
    have t4:(s.fin.toList != [])=false:=(zmS hf).2
    have HF:Hid (zbi ss.length (some z) s=⟨⟨#[]⟩,s.arcs.map (zbW ss.length)⟩):=zHd (by
     show(⟨noB,s.arcs.map (zbW ss.length)++if s.fin=noB then [] else [zbu s.fin z]⟩:zac)=_;rw[if_pos hf,List.append_nil];rfl)
    clear hf;go_wp2;exact⟨⟨i+1,_,_,HI.out.1,by simp,HK4.out,by rw[HI.out.2.2.1,HF.out];exact HP4.out.mono (fun b hb=>.inl hb)⟩,by have:=HI.out.1;simp[intOf];omega⟩
   obtain⟨t3,t4⟩:=zuv s.fin hf
   have HF:Hid (zbi ss.length (some z) s=⟨⟨#[]⟩,s.arcs.map (zbW ss.length)++[zbu s.fin z]⟩):=zHd (by
    show(⟨noB,s.arcs.map (zbW ss.length)++if s.fin=noB then [] else [zbu s.fin z]⟩:zac)=_;rw[if_neg hf];rfl)
   have HPA:=zHd (zhK bb k one _ _ _ q z _ s.fin w4.drew (HP4.out.same (zag w4 none)) HGL4.out (by rw[zqag,HI.out.2.2.2];have:=HN.out;have:=HI.out.1;have:=HI.out.2.1;simp;omega) (by rw[zqbn];have:=(HA.out s HSS.out).1;omega));have d0:w4.drew.cell? ⟨ca,0,none⟩=some (.pointer (some ⟨bb,0,none⟩)):=HX4.out.c0;have d2:w4.drew.cell? ⟨wr.heap.size,0,none⟩=some (.string s.fin):=HZ4.out;have HXD:=zHd (HX4.out.grown (zag w4 none));have HKD:=zHd (HK4.out.trans (zaF (zag w4 none) (fun b e=>by cases e) (fun b hb=>HP4.out.lt b (.inl hb))));clear hf;go_upto_region 10 with(fail)
   go_region_held2 (fun W':World=>W'.cell? ⟨ca,0,none⟩=some (.pointer (some ⟨bb,0,none⟩))/\W'.cell? ⟨wr.heap.size,0,none⟩=some (.string s.fin)) (first|exact⟨d0,d2⟩|exact s5|go_keep)
    (first|(go_at_call 56;refine(HPA.out).mono ?_;rintro e w5 ⟨rfl,hk5,us5,hp5⟩;have s5:w5.cell? ⟨ca,0,none⟩=some (.pointer (some ⟨bb,0,none⟩))/\w5.cell? ⟨wr.heap.size,0,none⟩=some (.string s.fin):=⟨(HXD.out.keep hk5 (.inl HEE.out.2.1) (.inl HEE.out.2.2)).c0,hk5.cell (p:=⟨wr.heap.size,0,none⟩) (.inr rfl) d2⟩;have H5:=zHd (zAI (HKD.out.trans (hk5.mono (fun b hb=>.inl hb))) hp5);clear hk5 hp5))
   clear d0 d2 s5 z4;have hp5:=H5.out.2;rw[zko _ _ _ HI.out.2.2.2] at hp5;have HP5:=zHd hp5;clear hp5;go_wp2;exact⟨⟨i+1,_,_,HI.out.1,by simp,H5.out.1,by rw[HI.out.2.2.1,HF.out];exact HP5.out.mono (fun b hb=>.inl hb)⟩,by have:=HI.out.1;simp[intOf];omega⟩
  obtain rfl:i=m.states.length:=by omega
  have v1:¬ (m.states.length:Int)<(m.states.length:Int):=by omega
  rw[List.take_length] at hr;obtain⟨y0,y1,y2,y3⟩:=((HC.out.keep hk HEE.out.2.1 HEE.out.2.2).m).cells;have u5:IntKind.i64.wrap ((ss.length:Int)+m.start)=(ss.length:Int)+m.start:=by have:=HN.out;have:=HS0.out;rw[zqah];omega
  have HR:=zHd (zAI hk hr);clear hr hk hin hi';go_wp2;go_ret;refine⟨?_,HR.out.1,_,_,HR.out.2⟩
  first|rfl|(have e:wrap64 ((ss.length:Int)+m.start)=(ss.length:Int)+m.start:=by have:=HN.out;have:=HS0.out;unfold wrap64;omega
             show Ending.returned (Value.int .i64 (wrap64 ((ss.length:Int)+m.start)))=_;rw[e])
open Go.RowKit
def zna {k:Int}{a:ByteArray}(ha:a.size<=maxLen):VB 42 k a (wgtB k a):=by
 rcases ztt k a with⟨v,h⟩|h;rw[zgc h];exact zod h
 have hB:wgtB k a=false:=by
  cases hb:wgtB k a;rfl;obtain⟨v,hv⟩:=zcO hb;have:=h v hv.1;rw[hv.2] at this;cases this
 rw[hB];exact zpW h ha
def zhl {E:Nat->Prop}{w0:World}(bb:Nat)(k:Int)(one:ByteArray)(v:Value)(ss:List zac)(us:List Value)(ca cm:Nat)(m:zah)(u:Value)(nxt:Option Nat)(nv:Int)(z:Nat)(w:World)
  (h:zbL E w bb k one v ss us) (hc:zfF w ca cm bb m u) (hE:∀ b,b<w0.heap.size->E b) (hca:E ca) (hcm:E cm) (hst:zgE w0 u m.states) (hb0:Below w0.heap.size w0 w)
  (hnv:(nxt=none/\nv = -1)∨∃ z:Nat,nxt=some z/\nv=(z:Int)/\z<=1000000)
  (hn:ss.length+m.states.length<=900000) (hv:validB m=true) (hz:ss.length+m.start.toNat=z) :
  Calls prog 78 #[.int .i64 nv,.pointer (some ⟨ca,0,none⟩),.pointer (some ⟨cm,0,none⟩)] w
   (fun e w'=>e=.returned (.int .i64 (z:Int))/\zbU E w w'/\∃ v' us',zbL E w' bb k one v' (ss++m.states.map (zbi ss.length nxt)) us'):=by
 obtain⟨A,cap,xs,rfl,hS⟩:=zeA.of hst;have hs:=zcX hv;have hl:=zhh hv;refine(zyo bb k one v ss us ca cm m A cap xs nxt nv w h hc hE hca hcm hS hb0 hnv hn (fun s hm=>⟨by have:=zhi hv hm;omega,fun a ha=>?_⟩) ⟨hs.1,by omega⟩).mono ?_
 ·have:=zel ((zeS hv hm).2 a ha)
  omega
 rintro e w' ⟨rfl,h2,h3⟩;refine⟨?_,h2,h3⟩;rw[<- hz,Int.natCast_add,Int.toNat_of_nonneg hs.1]
def zdX {E:Nat->Prop}{W W':World}{g:Nat}{m:zah}{u:Value}(h:zaf W g m u)(hk:zbU E W W')(hE:E g):zaf W' g m u:=(hk.2 g hE).trans h
def zfG {w0 W W':World}{E:Nat->Prop}(h:w0.grownBy W none)(hk:zbU E W W')(hl:∀ b,b<w0.heap.size->E b):w0.grownBy W' none :=
 ⟨hk.1.os.trans h.os,hk.1.tape.trans h.tape,hk.1.output.trans h.output,zqam h.size hk.size,fun b hb hr=>(hk.2 b (hl b hb)).trans (h.block b hb hr)⟩
noncomputable def starV (a:zah):zah×Int:=if validB a=true then (zbt (zak a.kind) a,0) else (zao,1)
def ziD {a:zah}{va:Value}{w:World}(ha:zan w va a)(fa:zaZ a)(hl:1+a.states.length<=3000)(hn:1+zaj a.states+a.states.length<=30000):Calls prog 34 #[va] w (zbb (starV a) w):=by
 have HVA:=zHd (fun w' (h:w.grownBy w' none)=>zhF (ha.grown h) fa);have HSZ:=zHd (fun w' (h:w.grownBy w' none)=>zfN (ha.grown h) (by omega) (by omega));have HMV:=zHd ha;obtain⟨ua,rfl,hst0⟩:=ha;have HST:=zHd hst0;have HL:=zHd (zAI hl hn);have g1:=zGA w (.cells #[.int .i64 a.kind,.int .i64 a.start,.string a.lead,ua] 29) none;have b1:=zaf.new w a ua;have g2:=zGA (w.alloc (.cells #[.int .i64 a.kind,.int .i64 a.start,.string a.lead,ua] 29)) (.cells #[.int .i64 zao.kind,.int .i64 zao.start,.string zao.lead,.slice none 0 0] 29) none;have b2:=zaf.new (w.alloc (.cells #[.int .i64 a.kind,.int .i64 a.start,.string a.lead,ua] 29)) zao (.slice none 0 0);have e1:(w.alloc (.cells #[.int .i64 a.kind,.int .i64 a.start,.string a.lead,ua] 29)).heap.size=w.heap.size+1:=by simp
 rw[e1] at b2
 replace b1:=b1.grown g2
 have hg:=zaa g1 g2;have hsz:w.heap.size+2<=((w.alloc (.cells #[.int .i64 a.kind,.int .i64 a.start,.string a.lead,ua] 29)).alloc (.cells #[.int .i64 zao.kind,.int .i64 zao.start,.string zao.lead,.slice none 0 0] 29)).heap.size:=by simp
 have HB:=zHd (zAI b1 b2);have HG:=zHd hg;have HSZ2:=zHd hsz;obtain⟨x0,x1,x2,x3⟩:=b1.cells;clear g1 g2 b1 b2 e1 hg hst0 hl hn hsz;go_enter func34,ntmps34;go_wp2_with fail;refine(HVA.out _ HG.out).mono ?_;rintro e w1 ⟨rfl,hg1⟩;generalize (w.alloc (.cells #[.int .i64 a.kind,.int .i64 a.start,.string a.lead,ua] 29)).alloc (.cells #[.int .i64 zao.kind,.int .i64 zao.start,.string zao.lead,.slice none 0 0] 29)=W at *;clear x0 x1 x2 x3;have HG1:=zHd (zaa HG.out hg1);have HB1:=zHd (zAI (HB.out.1.grown hg1) (HB.out.2.grown hg1));have HSZ3:Hid (w.heap.size+2<=w1.heap.size):=zHd (zqam HSZ2.out hg1.size);obtain⟨x0,x1,x2,x3⟩:=HB1.out.1.cells;clear hg1;cases hV:validB a
 ·have HE:Hid (starV a=(zao,1)):=zHd (by unfold starV;rw[hV];rfl)
  clear hV;obtain⟨v0,v1,v2,v3⟩:=zaf.cells (HB1.out.2);simp only[zao] at v0 v1 v2;have f0:=zaf.free (HB1.out.2) 0;have f1:=zaf.free (HB1.out.2) 1;have f2:=zaf.free (HB1.out.2) 2;have f3:=zaf.free (HB1.out.2) 3;obtain⟨hbf,hgf⟩:=zby (n:=zao) (v:=.slice none 0 0) (HB1.out.2);have T:=zHd (zae (HG1.out) hgf (by omega));obtain⟨c0,c1,c2,c3⟩:=hbf.cells;clear hbf hgf;simp only[zao] at T c0 c1 c2 c3;go_wp2_with fail;generalize ((((w1).setCell ⟨w.heap.size+1,0,none⟩ (.int .i64 0)).setCell ⟨w.heap.size+1,1,none⟩ (.int .i64 0)).setCell ⟨w.heap.size+1,2,none⟩ (.string ByteArray.empty)).setCell ⟨w.heap.size+1,3,none⟩ (.slice none 0 0)=WW at *;exact zqby (v:=.tuple #[.agg #[.int .i64 0,.int .i64 0,.string ByteArray.empty,.slice none 0 0],.int .i64 1]) (by simp[results,results34,go_sem,c0,c1,c2,c3]) rfl (by rw[HE.out];exact⟨_,rfl,⟨_,rfl,StN.nil _ _⟩,T.out⟩)
 have HV:=zHd hV;have HE:Hid (starV a=(zbt (zak a.kind) a,0)):=zHd (by unfold starV;rw[hV];rfl);clear hV;go_wp2_with fail;refine(HSZ.out _ HG1.out).mono ?_;rintro e w2 ⟨rfl,hg2⟩;have hga:=zGA w2 (.cells #[.int .i64 (a.states.length:Int),.int .i64 (zaj a.states:Int),.int .i64 (zau a.states:Int)] 84) none;have hC:=zay.new w2 (a.states.length:Int) (zaj a.states:Int) (zau a.states:Int);have hnf:=zlD a.states;have HF:=zHd (zkn ((a.states.length:Int)+1) ((zaj a.states:Int)+(zau a.states:Int)+1) (by have:=HL.out;omega) (by have:=HL.out;omega) (w2.alloc (.cells #[.int .i64 (a.states.length:Int),.int .i64 (zaj a.states:Int),.int .i64 (zau a.states:Int)] 84)));have n1:IntKind.i64.wrap ((a.states.length:Int)+1)=(a.states.length:Int)+1:=by have:=HL.out;rw[zqah];omega
 have n2:IntKind.i64.wrap ((zaj a.states:Int)+(zau a.states:Int))=(zaj a.states:Int)+(zau a.states:Int):=by have:=HL.out;rw[zqah];omega
 have n3:IntKind.i64.wrap ((zaj a.states:Int)+(zau a.states:Int)+1)=(zaj a.states:Int)+(zau a.states:Int)+1:=by have:=HL.out;rw[zqah];omega
 obtain⟨y0,y1,y2⟩:_/\_/\_:=⟨hC.c0,hC.c1,hC.c2⟩;have HG2:=zHd (zaa hg2 hga);clear hg2 hga hC hnf x0 x1 x2 x3;go_wp2_with fail;refine HF.out.mono ?_;rintro e w3 ⟨rfl,hg3⟩;generalize w2.alloc (.cells #[.int .i64 (a.states.length:Int),.int .i64 (zaj a.states:Int),.int .i64 (zau a.states:Int)] 84)=W2 at *;have HG3:=zHd (zaa HG2.out hg3);have hA3:=HB1.out.1.grown HG3.out;have hR3:=HB1.out.2.grown HG3.out;obtain⟨x0,x1,x2,x3⟩:=hA3.cells;have HASM:=zHd (zdT a.kind w3);have HGW3:=zHd (zaa HG1.out HG3.out);have HB3:=zHd (zAI hA3 hR3);have HSZ4:Hid (w.heap.size+2<=w3.heap.size):=zHd (zqam HSZ3.out HG3.out.size);clear hg3 y0 y1 y2 hA3 hR3 n1 n2 n3;go_wp2_with fail;refine HASM.out.mono ?_;rintro e w4 ⟨bb,rfl,hbb,has,hg4⟩;have hM:zbL (fun b=>b<w3.heap.size) w4 bb a.kind (zak a.kind) (.slice none 0 0) [] []:=⟨has,fun e=>by omega,fun b e=>(by cases e),fun i u b hu=>(by simp at hu),fun b hb=>zqba hb hg4.size⟩;have HBET:=zHd (zjN bb a.kind (zak a.kind) _ [] [] true w4 hM (by simp));have HM:=zHd (zAI hM hg4);have HBB:=zHd hbb;clear x0 x1 x2 x3 hM has hg4 hbb;go_wp2_with fail;refine HBET.out.mono ?_;rintro e w5 ⟨rfl,hk5,v5,hp5⟩
 replace hp5:zbL (fun b=>b<w3.heap.size) w5 bb a.kind (zak a.kind) v5 [⟨zak a.kind,[]⟩] [.slice none 0 0]:=hp5
 have HGE:Hid (w.heap.size<w3.heap.size):=zHd (by have:=HSZ4.out;omega);have HGE2:Hid (w.heap.size+1<w3.heap.size):=zHd (by have:=HSZ4.out;omega);have HK5:=zHd ((zaF HM.out.2 (fun b e=>by cases e) (fun b hb=>hb)).trans hk5);have HA5:=zHd (zdX HB3.out.1 HK5.out HGE.out);have HP5:=zHd hp5;have HGW5:=zHd (zfG HGW3.out HK5.out (fun b hb=>by have:=HSZ4.out;omega));have HLW:Hid ((∀ b,b<w.heap.size->b<w3.heap.size)/\Below w.heap.size w w5):=zHd ⟨fun b hb=>by have:=HSZ4.out;omega,zct HGW5.out⟩;clear hk5 hp5;obtain⟨z,hz⟩:∃ z,1+a.start.toNat=z:=⟨_,rfl⟩;have HZ:Hid (([⟨zak a.kind,[]⟩]:List zac).length+a.start.toNat=z):=zHd hz;clear hz;have hA5:=zaf.grown HA5.out (zag w5 none);obtain⟨d0,d1,d2,d3⟩:=hA5.cells;have HAD:=zHd hA5;have HPD:=zHd (HP5.out.same (zag w5 none));have HKD:=zHd (zaF (zag w5 none) (fun b e=>by cases e) HP5.out.lt);clear hA5;go_upto_region 8 with(fail)
 go_region_held2 (fun W':World=>W'.cell? ⟨w.heap.size,0,none⟩=some (.int .i64 a.kind)/\W'.cell? ⟨w.heap.size,1,none⟩=some (.int .i64 a.start)/\W'.cell? ⟨w.heap.size,2,none⟩=some (.string a.lead)/\W'.cell? ⟨w.heap.size,3,none⟩=some (ua)) (first|exact⟨d0,d1,d2,d3⟩|exact s6|exact s7|exact s8|go_keep)
  (first
   | (go_at_call 57;refine(zfM bb a ua _).mono ?_;rintro e w6 ⟨ca,cm,rfl,l1,l2,l3,l4,hcp,hg6⟩;have hA6:=zaf.grown HAD.out hg6;obtain⟨p0,p1,p2,p3⟩:=hA6.cells;have s6:=zAI p0 (zAI p1 (zAI p2 p3));have H6:=zHd (HPD.out.grown (F:=fun b=>(fun b=>b<w3.heap.size) b∨b=ca∨b=cm) hg6 (fun b hb=>hb.elim .inl (fun h=>.inr (by rcases h with h|h <;> omega))));have HA6:=zHd hA6;have HC6:=zHd hcp;have HK6:=zHd (HKD.out.trans (zaF hg6 (fun b e=>by cases e) HPD.out.lt));clear p0 p1 p2 p3 l1 l2 l3 l4 hcp hg6 hA6)
   | (go_at_call 78;refine(zhl (w0:=w) bb _ (zak a.kind) v5 [⟨zak a.kind,[]⟩] [.slice none 0 0] ca cm a ua (some 0) 0 z w6 H6.out HC6.out (fun b hb=>.inl (HLW.out.1 b hb)) (.inr (.inl rfl)) (.inr (.inr rfl)) HST.out (HLW.out.2.trans (HK6.out.below HLW.out.1)) (.inr ⟨0,rfl,rfl,by omega⟩) (by have:=HL.out;simp;omega) HV.out HZ.out).mono ?_;rintro e w7 ⟨rfl,hk7,v7,us7,hp7⟩;have hA7:=zdX HA6.out hk7 (.inl HGE.out);obtain⟨p0,p1,p2,p3⟩:=hA7.cells;have s7:=zAI p0 (zAI p1 (zAI p2 p3));have H7:=zHd hp7;have HA7:=zHd hA7;have HK7:=zHd (HK6.out.trans (hk7.mono (fun b hb=>.inl hb)));clear p0 p1 p2 p3 hp7 hk7 hA7)
   | (go_at_call 56;refine(zhK bb _ (zak a.kind) v7 _ us7 0 z ⟨zak a.kind,[]⟩ a.lead w7 H7.out (by rfl) (by have:=HL.out;simp;omega) (by simp)).mono ?_;rintro e w8 ⟨rfl,hk8,us8,hp8⟩;have hA8:=zdX HA7.out hk8 (.inl HGE.out);obtain⟨p0,p1,p2,p3⟩:=hA8.cells;have s8:=zAI p0 (zAI p1 (zAI p2 p3));have H8:=zHd hp8;have HA8:=zHd hA8;have HK8:=zHd (HK7.out.trans (hk8.mono (fun b hb=>.inl hb)));clear p0 p1 p2 p3 hp8 hk8 hA8))
 clear d0 d1 d2 d3 s6 s7 s8;have hp8:zbL (fun b=>b<w3.heap.size∨b=ca∨b=cm) w8 bb a.kind (zak a.kind) v7 ((⟨zak a.kind,[zbu a.lead z]⟩:zac)::a.states.map (zbi 1 (some 0))) us8:=H8.out;have HEQ:Hid (((⟨zak a.kind,[zbu a.lead z]⟩:zac)::a.states.map (zbi 1 (some 0)))=(zbt (zak a.kind) a).states):=zHd (by rw[<- HZ.out];rfl);generalize ((⟨zak a.kind,[zbu a.lead z]⟩:zac)::a.states.map (zbi 1 (some 0)))=ss9 at hp8 HEQ;have x2:=hp8.at_.c2;have HMM:=zHd (zfn bb a.kind (zak a.kind) _ ss9 us8 0 (zak a.kind) w8 hp8.at_);have HR8:=zHd (zdX (zdX HB3.out.2 HK5.out HGE2.out) HK8.out HGE2.out);have HG8:=zHd (zfG HGW5.out HK8.out HLW.out.1);clear hp8;go_wp2_with fail;refine HMM.out.mono ?_;rintro e w9 ⟨A9,c9,rfl,hsn,hg9⟩;have hb9:=zaf.grown HR8.out hg9;have hgw:=zaa HG8.out hg9;have hbb:=HBB.out;have hs4:=HSZ4.out;clear x2 hg9;simp only[] at hsn;obtain⟨v0,v1,v2,v3⟩:=hb9.cells;simp only[zao] at v0 v1 v2;have f0:=hb9.free 0;have f1:=hb9.free 1;have f2:=hb9.free 2;have f3:=hb9.free 3;obtain⟨hbf,hgf⟩:=zby (n:=⟨a.kind,0,(zak a.kind),ss9⟩) (v:=.slice A9 ss9.length c9) hb9;have T:=zHd (zae hgw hgf (by omega));have T2:=zHd ((hsn.kept (zfv hgf (by omega))).mono (C:=w.heap.size) (by have:=hgw.size;omega));obtain⟨c0,c1,c2,c3⟩:=hbf.cells;simp only[] at c0 c1 c2 c3;clear hbf hgf hb9 hsn hgw;go_wp2_with fail;generalize ((((w9).setCell ⟨w.heap.size+1,0,none⟩ (.int .i64 a.kind)).setCell ⟨w.heap.size+1,1,none⟩ (.int .i64 0)).setCell ⟨w.heap.size+1,2,none⟩ (.string (zak a.kind))).setCell ⟨w.heap.size+1,3,none⟩ (.slice A9 ss9.length c9)=WW at *;have T3:∀ L,ss9=L->StN WW w.heap.size (.slice A9 ss9.length c9) L:=fun L h=>by rw[<- h];exact T2.out
 exact zqby (v:=.tuple #[.agg #[.int .i64 a.kind,.int .i64 0,.string (zak a.kind),.slice A9 ss9.length c9],.int .i64 0]) (by simp[results,results34,go_sem,c0,c1,c2,c3]) rfl (by rw[HE.out];exact⟨_,rfl,⟨_,rfl,T3 _ HEQ.out⟩,T.out⟩)
open Go.RowKit
def zsi {c:Nat}:∀ {l:List zac},(∀ s∈l,s.arcs.length<=c)->zaj l<=l.length*c
 | [],_=>by simp[zaj]
 | s::l,h=>by
  have h1:=zsi (l:=l) (fun t ht=>h t (zqao _ ht));have h2:=h s (zqbm ..);have h3:zaj (s::l)=s.arcs.length+zaj l:=by simp[zaj]
  rw[h3,zqbu,Nat.succ_mul];omega
def zhm (a:zaz):Bool:=decide (a.w.size<=40)
def zeH (s:zac):Bool:=decide (s.fin.size<=40)&&s.arcs.all zhm
def zaC (m:zah):Bool:=decide (m.states.length<=8/\zaj m.states<=40/\m.lead.size<=40)&&m.states.all zeH
structure zeT (m:zah):Prop where
 n:m.states.length<=8
 arcs:zaj m.states<=40
 lead:m.lead.size<=40
 fin:∀ s∈m.states,s.fin.size<=40
 w:∀ s∈m.states,∀ a∈s.arcs,a.w.size<=40
def zbw {m:zah}(h:zaC m=true):zeT m:=by
 unfold zaC at h;simp only[zqbb,zqca,List.all_eq_true] at h;refine⟨h.1.1,h.1.2.1,h.1.2.2,fun s hs=>?_,fun s hs a ha=>?_⟩
 ·have:=h.2 s hs
  unfold zeH at this;simp only[zqbb,zqca] at this;exact this.1
 have:=h.2 s hs;unfold zeH at this;simp only[zqbb,zqca,List.all_eq_true] at this;have:=this.2 a ha;unfold zhm at this;simpa using this
def zqs {m:zah}{k:Nat}{s:zac}(hs:m.states[k]?=some s)(h:zeH s=false):zaC m=false:=by
 unfold zaC;rw[show m.states.all zeH=false from ?_,Bool.and_false];cases hx:m.states.all zeH;rfl;rw[List.all_eq_true.1 hx s (zqak hs)] at h;cases h
def zry {s:zac}{j:Nat}{a:zaz}(ha:s.arcs[j]?=some a)(h:zhm a=false):zeH s=false:=by
 unfold zeH;rw[show s.arcs.all zhm=false from ?_,Bool.and_false];cases hx:s.arcs.all zhm;rfl;rw[List.all_eq_true.1 hx a (zqak ha)] at h;cases h
structure znL (m:zah)(k:Nat):Prop where
 hk:k<=m.states.length
 hs:∀ (j:Nat) (s:zac),j<k->m.states[j]?=some s->zeH s=true
def znL.next {m:zah}{k:Nat}{s:zac}(h:znL m k)(hs:m.states[k]?=some s)(hP:zeH s=true):znL m (k+1) :=
 ⟨by have:=(zqae.1 hs).1;omega,fun j t hj ht=>by
  by_cases e:j=k
  subst e;rw[hs] at ht;cases ht;exact hP;exact h.hs j t (by omega) ht⟩
def znL.all {m:zah}{k:Nat}(h:znL m k)(hk:¬ k<m.states.length)(h1:m.states.length<=8)(h2:zaj m.states<=40)(h3:m.lead.size<=40):zaC m=true:=by
 unfold zaC;rw[decide_eq_true ⟨h1,h2,h3⟩,Bool.true_and,List.all_eq_true];exact zQbk
def zbf {w:World}{v:Value}{m:zah}(hv:zan w v m)(hf:zaZ m) :
  Calls prog 25 #[v] w (zab (.bool (!zaC m)) w):=by
 have harc:=fun w' (h:w.grownBy w' none) (h1:m.states.length<=8)=>zAN (hv.grown h) (by unfold maxLen;omega) (by
  have:=zsi (l:=m.states) hf.arcs;have h2:m.states.length*140737488355328<=8*140737488355328:=Nat.mul_le_mul_right _ h1;unfold maxLen;omega)
 obtain⟨u,rfl,hst0⟩:=hv;have HST:=zHd hst0;have hg:w.grownBy (w.alloc (.cells #[.int .i64 m.kind,.int .i64 m.start,.string m.lead,u] 29)) none:=zGA _ _ _;have hbx:=zaf.new w m u;obtain⟨A,cap,us,rfl,hul,hr,ha⟩:=hst0;have HARC:=zHd (harc _ hg);have HBX:=zHd hbx;have HG:=zHd hg;have HF:=zHd hf;obtain⟨x0,x1,x2,x3⟩:=hbx.cells;have hln:=hf.n;clear harc hbx hg hr ha hul hf;go_enter func25,ntmps25
 by_cases c1:8<m.states.length
 ·have hx:zaC m=false:=by unfold zaC;rw[zqcb (by omega)];rfl
  have HX:=zHd hx;clear hx;go_wp2;go_ret;exact⟨by rw[HX.out];rfl,HG.out⟩
 go_wp2_with fail;refine(HARC.out (by omega)).mono ?_;rintro e w1 ⟨rfl,hg1⟩;generalize hW:w.alloc (.cells #[.int .i64 m.kind,.int .i64 m.start,.string m.lead,.slice A m.states.length cap] 29)=W at *;clear hW HARC x0 x1 x2 x3;have HG1:=zHd (zaa HG.out hg1);have hbx1:=HBX.out.grown hg1;have HB1:=zHd hbx1;obtain⟨x0,x1,x2,x3⟩:=hbx1.cells;clear hg1 hbx1
 by_cases c2:40<zaj m.states
 ·have hx:zaC m=false:=by unfold zaC;rw[zqcb (by omega)];rfl
  exact zQck
 by_cases c3:40<m.lead.size
 ·have hx:zaC m=false:=by unfold zaC;rw[zqcb (by omega)];rfl
  exact zQck
 go_wp2;clear x0 x1 x2 x3
 go_loopw [3] (fun i wr=>∃ k:Nat,i=.int .i64 k/\znL m k/\w1.grownBy wr none) (fun i _=>m.states.length-(intOf i).toNat)
 case atStart=>exact⟨0,rfl,⟨by omega,fun j s hj=>by omega⟩,zai _ _⟩
 case round =>
  obtain⟨k,rfl,ho,hgr⟩:=hrel;have HO:=zHd ho;have hk:=ho.hk;have hgr0:=zaa HG1.out hgr;have HGR:=zHd hgr;have HGR0:=zHd hgr0;have hbr:=HB1.out.grown hgr;have HBR:=zHd hbr;obtain⟨x0,x1,x2,x3⟩:=hbr.cells;clear ho hgr hbr
  by_cases hlt:k<m.states.length
  ·obtain⟨A',cap',us',hA',hul,hr,ha⟩:=HST.out.grown hgr0
   injection hA' with h1 h2 h3
   subst h1;obtain⟨ad,s,us1,hA,hadb,hs,hu,hc⟩:=zfu hr hul hlt;subst hA;obtain⟨B,cb,hB,hra⟩:=ha k s us1 hs hu;subst hB;obtain⟨y0,y1⟩:=hc;have hal:s.arcs.length<=40:=zqam (zki (zqak hs)) (by omega);have hfin:=HF.out.fin s (zqak hs);have n1:(k:Int)<(m.states.length:Int):=(by omega);have n2:IntKind.i64.wrap ((k:Int)+1)=(k:Int)+1:=(by rw[zqah];omega);have HS:=zHd hs;have HRA:=zHd hra;clear hs hu hr ha h2 h3 hra hul hgr0
   by_cases hf9:40<s.fin.size
   ·have hx:=zqs HS.out (by unfold zeH;rw[zqcb (by omega)];rfl)
    exact zQcj
   go_wp2;have hst1:zdS wr (ad.add (k*2)) s.fin (.slice B s.arcs.length cb):=⟨y0,y1⟩;have HST1:=zHd hst1;have HAD:=zHd hadb;clear hst1 x0 x1 x2 x3 y0 y1;generalize wr=w2 at *
   go_loop [4] (fun i=>∃ j:Nat,i=.int .i64 j/\j<=s.arcs.length/\∀ (i:Nat) (a:zaz),i<j->s.arcs[i]?=some a->zhm a=true) (fun i=>s.arcs.length-(intOf i).toNat)
   case atStart=>exact⟨0,rfl,by omega,fun i a hi=>by omega⟩
   case round =>
    obtain⟨j,rfl,hj,hi⟩:=hrel;have HI:=zHd hi;obtain⟨x0,x1,x2,x3⟩:=HBR.out.cells;obtain⟨y0,y1⟩:=HST1.out;clear hi
    by_cases hjl:j<s.arcs.length
    ·obtain⟨ad2,a,hB,hab,haj,hat⟩:=zhf HRA.out hjl
     subst hB;obtain⟨z0,z1,z2,z3⟩:=hat;have haw:=HF.out.w s (zqak HS.out) a (zqak haj);have n3:(j:Int)<(s.arcs.length:Int):=(by omega);have n4:IntKind.i64.wrap ((j:Int)+1)=(j:Int)+1:=(by rw[zqah];omega);have HAJ:=zHd haj;clear haj
     by_cases hio:40<a.w.size
     ·have hx:=zqs HS.out (zry HAJ.out (by unfold zhm;rw[zqcb (by omega)]))
      exact zQcj
     go_wp2;go_round
     case rel=>exact⟨j+1,by go_num,by omega,fun i b hi hb=>by
      by_cases e:i=j
      subst e;rw[HAJ.out] at hb;cases hb;unfold zhm;exact decide_eq_true (by omega);exact HI.out i b (by omega) hb⟩
     case measure=>simp[intOf];omega
    have n3:¬ (j:Int)<(s.arcs.length:Int):=by omega
    have hx:=HO.out.next HS.out (by
     unfold zeH;rw[decide_eq_true (by omega),Bool.true_and,List.all_eq_true];intro a ha;obtain⟨i,hi⟩:=List.mem_iff_getElem?.1 ha;exact HI.out i a (by have:=(zqae.1 hi).1;omega) hi)
    have HX:=zHd hx;clear hx;go_wp2
    go_roundw
    case rel=>exact⟨k+1,by go_num,HX.out,HGR.out⟩
    case measure=>simp[intOf];omega
  have n1:¬ (k:Int)<(m.states.length:Int):=by omega
  have hy:=HO.out.all hlt (by omega) (by omega) (by omega);exact zQbg
def zdH (zx zy:List Int)(xv yv:Value)(w:World)(hx:zax w xv zx)(hy:zax w yv zy)(bx:zx.length<=140737488355328)(by':zy.length<=140737488355328):Calls prog 12 #[xv,yv] w (zab (.bool (decide (zx.length+zy.length<=6)&&(zat zx&&zat zy))) w):=by
 have HX:=zHd (zeR zx xv w hx);have HY:=zHd (fun w' (h:w.grownBy w' none)=>zeR zy yv w' (hy.grown h));obtain⟨Ax,cx,rfl,_,_,h1⟩:=hx;obtain⟨Ay,cy,rfl,_,_,h2⟩:=hy;obtain⟨lx,hlx⟩:∃ lx,zx.length=lx:=⟨_,rfl⟩;obtain⟨ly,hly⟩:∃ ly,zy.length=ly:=⟨_,rfl⟩;rw[hlx] at HX;rw[hly] at HY;rw[hlx,hly];rw[hlx] at bx;rw[hly] at by'
 by_cases h6:lx+ly<=6
 ·have n1:IntKind.i64.wrap ((lx:Int)+(ly:Int))=(lx:Int)+(ly:Int):=by rw[zqah];omega
  have t1:(lx:Int)+(ly:Int)<=6:=by omega
  have HD:Hid (decide (lx+ly<=6)=true):=zHd (decide_eq_true h6);clear bx by' h6 h1 h2 hlx hly;go_enter func12,ntmps12;go_wp2_with fail;refine HX.out.mono ?_;rintro e w1 ⟨rfl,hg1⟩;have HG1:=zHd hg1;clear hg1;cases hx:zat zx
  ·have HW:=zHd hx
   go_wp2;go_ret;exact⟨by rw[HD.out,HW.out];rfl,HG1.out⟩
  have HW:=zHd hx;go_wp2_with fail;refine(HY.out _ HG1.out).mono ?_;rintro e w2 ⟨rfl,hg2⟩;have HG2:=zHd (zaa HG1.out hg2);clear hg2;go_wp2;go_ret;exact⟨by rw[HD.out,HW.out];rfl,HG2.out⟩
 have HD:Hid (decide (lx+ly<=6)=false):=zHd (zqcb h6);have n1:IntKind.i64.wrap ((lx:Int)+(ly:Int))=(lx:Int)+(ly:Int):=by rw[zqah];omega
 have t1:¬ (lx:Int)+(ly:Int)<=6:=by omega
 clear bx by' h6 h1 h2 hlx hly;go_enter func12,ntmps12;go_wp2;go_ret;exact⟨by rw[HD.out];rfl,zai _ _⟩
open Go.RowKit
section
variable {k:Int} (hk:zam k) (l:List zac)
def zjR (f:Nat->El k):Prop:=zbM l l.length 0->zaR (srE k hk) zav (restL (srE k hk) l.length f (stM (srE k hk) (wm9 hk l).E l.length) l.length 0)
def znb (n:Nat)(f:Nat->El k)(w:World)(e:Ending)(w':World):Prop :=
 w.grownBy w' none/\((zjR hk l f/\∃ b,e=.returned (.tuple #[.slice (some ⟨b,0,none⟩) n n,.int .i64 0])/\zbe w' b n (fun q=>tx (zaW (srE k hk) (wm9 hk l) f q))/\∀ q,q<n->zav (zaW (srE k hk) (wm9 hk l) f q)) ∨
  (¬ zjR hk l f/\e=.returned (.tuple #[.slice none 0 0,.int .i64 2])))
def zuD (st:Int)(ld:ByteArray)(As:Option Addr)(n cs:Nat)(sv:Value)(w4:World):Prop :=
 ∀ (w':World) (b:Nat) (f:Nat->El k),w4.grownBy w' none->zbe w' b n (fun q=>tx (f q))->(∀ q,q<n->zav (f q)) ->
  Calls prog 72 #[.agg #[.int .i64 k,.int .i64 st,.string ld,.slice As n cs],.slice (some ⟨b,0,none⟩) n n,sv] w' (znb hk l n f w')
def zBp (st:Int)(ld:ByteArray)(As:Option Addr)(n cs:Nat)(w4:World)(hln:l.length=n)(h:¬ zbM l l.length 0):zuD hk l st ld As n cs (.slice none 0 0) w4:=fun w' b f _ hb hf=>by
 have hr:∀ q,q<n->zaW (srE k hk) (wm9 hk l) f q=f q:=fun q hq=>zAW (zHB hk l h) f (show q<l.length by rw[hln];exact hq);refine(zym (k:=k) (.slice none 0 0) (.slice (some ⟨b,0,none⟩) n n) st ld As n cs w').mono ?_;rintro e w5 ⟨rfl,hg⟩;exact⟨hg,.inl ⟨fun ha=>absurd ha h,b,rfl,(hb.grown hg).congr (fun q hq=>by rw[hr q hq]),fun q hq=>by rw[hr q hq];exact hf q hq⟩⟩
def zBq (st:Int)(ld:ByteArray)(As:Option Addr)(n cs:Nat)(sv:Value)(w4:World)(hln:l.length=n)(hn:n<=3000)(h0:0<n)(ha:zbM l l.length 0)
  (hm:zfb w4 sv l.length (fun _=>l.length) (fun i j=>tx (stM (srE k hk) (silE hk l) l.length i j))) (hM:∀ i j,i<l.length->j<l.length->zav (stM (srE k hk) (silE hk l) l.length i j)):zuD hk l st ld As n cs sv w4:=fun w' b f hg hb hf=>by
 have hE:silE hk l=(wm9 hk l).E:=by funext i j;exact zuC hk l i j
 rw[hE] at hm hM;rw[hln] at hm hM;have hc:=zyn hk (.slice (some ⟨b,0,none⟩) n n) sv st ld As n cs f (stM (srE k hk) (wm9 hk l).E n) w' hn h0 (hb.rowR (by unfold maxLen;omega)) hf (hm.grown hg) hM;refine hc.mono ?_;rintro e w5 ⟨hg5,h⟩
 have e1:zjR hk l f↔zgF hk (restI hk n f (stM (srE k hk) (wm9 hk l).E n) n 0):=by
  unfold zjR zgF restI;rw[hln];exact⟨fun h=>h (by rw[<- hln];exact ha),fun h _=>h⟩
 have e2:∀ q,q<n->csE hk (restI hk n f (stM (srE k hk) (wm9 hk l).E n) n 0) q=zaW (srE k hk) (wm9 hk l) f q:=fun q hq=>by
  unfold csE restI;rw[zDX _ _ _ hq];have hN:(wm9 hk l).n=n:=hln;unfold zaW;rw[hN]
 refine⟨hg5,?_⟩;rcases h with⟨hp,g,rfl,_,hr⟩|⟨hp,rfl⟩
 exact .inl ⟨e1.2 hp,g,rfl,hr.congr (fun q hq=>by rw[e2 q hq]),fun q hq=>by rw[<- e2 q hq];exact zaR.all hp (zbp hk) q⟩;exact .inr ⟨fun h=>hp (e1.1 h),rfl⟩
def zoU (f:Nat->El k)(a b:Nat):Prop:=zaR (srE k hk) zav (stepL (srE k hk) (vE hk) l f a b l.length 0)
def znc (n:Nat)(f:Nat->El k)(a b:Nat)(w:World)(e:Ending)(w':World):Prop :=
 w.grownBy w' none/\((zoU hk l f a b/\∃ g,e=.returned (.tuple #[.slice (some ⟨g,0,none⟩) n n,.int .i64 0])/\zbe w' g n (fun q=>tx (stp (srE k hk) (wm9 hk l) f a b q))/\∀ q,q<n->zav (stp (srE k hk) (wm9 hk l) f a b q)) ∨
  (¬ zoU hk l f a b/\e=.returned (.tuple #[.slice none 0 0,.int .i64 2])))
def zlE (us:List Value)(As:Option Addr)(n cs:Nat)(st:Int)(ld:ByteArray)(vb:Nat)(f:Nat->El k)(a b:Nat)(hab:¬ (a=0/\b=0))(w:World)(hln:l.length=n)(hn:n<=3000)(hok:zmR k l)(hst:zmI w l us As cs)
  (hv:zbe w vb n (fun q=>tx (f q))) (hf:∀ q,q<n->zav (f q)) :
  Calls prog 73 #[.agg #[.int .i64 k,.int .i64 st,.string ld,.slice As n cs],.slice (some ⟨vb,0,none⟩) n n,.int .i64 (a:Int),.int .i64 (b:Int),.bool false] w (znc hk l n f a b w):=by
 refine(zxV hk l us As n cs st ld (.slice (some ⟨vb,0,none⟩) n n) f a b w hln hn hok hst (hv.rowR (by unfold maxLen;omega)) hf).mono ?_;rintro e w5 ⟨hg5,h⟩;have e2:∀ q,csE hk (stepI hk l f a b l.length 0) q=stp (srE k hk) (wm9 hk l) f a b q:=fun q=>zDW (vE hk) (finE hk) l f hab q;refine⟨hg5,?_⟩;rcases h with⟨hp,g,rfl,_,hr⟩|⟨hp,rfl⟩
 exact .inl ⟨hp,g,rfl,hr.congr (fun q hq=>by rw[e2 q]),fun q hq=>by rw[<- e2 q];exact zaR.all hp (zbp hk) q⟩;exact .inr ⟨hp,rfl⟩
variable {hk l}
def znb.two {n:Nat}{f:Nat->El k}{w w':World}{e:Ending}(h:znb hk l n f w e w'):∃ (V:Value) (E:Int),e=.returned (.tuple #[V,.int .i64 E])/\w.grownBy w' none /\
  ((E=0/\∃ b,V=.slice (some ⟨b,0,none⟩) n n/\zbe w' b n (fun q=>tx (zaW (srE k hk) (wm9 hk l) f q))/\∀ q,q<n->zav (zaW (srE k hk) (wm9 hk l) f q))∨(E=2/\V=.slice none 0 0/\¬ zjR hk l f)):=by
 obtain⟨hg,h⟩:=h;rcases h with⟨_,b,rfl,h1,h2⟩|⟨h1,rfl⟩;exact⟨_,0,rfl,hg,.inl ⟨rfl,b,rfl,h1,h2⟩⟩;exact zQbI
def znc.two {n a b:Nat}{f:Nat->El k}{w w':World}{e:Ending}(h:znc hk l n f a b w e w'):∃ (V:Value) (E:Int),e=.returned (.tuple #[V,.int .i64 E])/\w.grownBy w' none /\
  ((E=0/\∃ g,V=.slice (some ⟨g,0,none⟩) n n/\zbe w' g n (fun q=>tx (stp (srE k hk) (wm9 hk l) f a b q))/\∀ q,q<n->zav (stp (srE k hk) (wm9 hk l) f a b q))∨(E=2/\V=.slice none 0 0/\¬ zoU hk l f a b)):=by
 obtain⟨hg,h⟩:=h;rcases h with⟨_,b,rfl,h1,h2⟩|⟨h1,rfl⟩;exact⟨_,0,rfl,hg,.inl ⟨rfl,b,rfl,h1,h2⟩⟩;exact zQbI
def zjL.two {n:Nat}{P:Prop}{F:Nat->El k}{w w':World}{e:Ending}(h:zjL n P F w e w'):∃ (V:Value) (E:Int),e=.returned (.tuple #[V,.int .i64 E])/\w.grownBy w' none /\
  ((E=0/\P/\∃ g,V=.slice (some ⟨g,0,none⟩) n n/\zbe w' g n (fun j=>tx (F j)))∨(E=2/\V=.slice none 0 0/\¬ P)):=by
 obtain⟨hg,h⟩:=h;rcases h with⟨hp,b,rfl,_,h1⟩|⟨h1,rfl⟩;exact⟨_,0,rfl,hg,.inl ⟨rfl,hp,b,rfl,h1⟩⟩;exact zQbI
def zoT.two {P:Prop}{F:El k}{w w':World}{e:Ending}(h:zoT P F w e w'):∃ (V:Value) (E:Int),e=.returned (.tuple #[V,.int .i64 E])/\w.grownBy w' none/\((E=0/\V=.string (tx F)/\P)∨(E=2/\V=.string ⟨#[]⟩/\¬ P)):=by
 obtain⟨hg,h⟩:=h;rcases h with⟨hp,rfl⟩|⟨h1,rfl⟩;exact⟨_,0,rfl,hg,.inl ⟨rfl,rfl,hp⟩⟩;exact zQbI
noncomputable def st9 (hk:zam k)(l:List zac)(x y:List Nat)(V:Nat->Nat->Nat->El k)(i j:Nat):Nat->Nat->Nat->Nat->El k
 | 0=>V
 | 1=>proc1 (srE k hk) (wm9 hk l) V i j
 | 2=>zci (srE k hk) (wm9 hk l) x (proc1 (srE k hk) (wm9 hk l) V i j) i j
 | 3=>zdk (srE k hk) (wm9 hk l) y (zci (srE k hk) (wm9 hk l) x (proc1 (srE k hk) (wm9 hk l) V i j) i j) i j
 | _=>zfQ (srE k hk) (wm9 hk l) x y V i j
def AtC.srow {W0 W:World}{ga X Y n:Nat}{gs:List Nat}{U:Nat->Nat->Nat->El k}(h:AtC W0 ga X Y n gs U W){i g b:Nat}{G:Nat->ByteArray}(hg:gs[i]?=some g)(hb:zbe W b n G)(j:Nat)(v:Value):zbe (W.setCell ⟨g,j,none⟩ v) b n G:=by
 obtain⟨bss,h1,_⟩:=h.ex;refine hb.grownB (zad W ⟨g,j,none⟩ v) (fun e=>?_);have e:b=g:=e;have h3:=(h1.rows i g hg).top;unfold zbe at hb;rw[e,h3] at hb;have:=(Obj.cells.inj (Option.some.inj hb)).2.1
 revert this
 decide
end
open Go.RowKit
def zaH {W:World}{g:Nat}{a b c x y z:Int}(h:zay W g a b c) :
  zay (((W.setCell ⟨g,0,none⟩ (.int .i64 x)).setCell ⟨g,1,none⟩ (.int .i64 y)).setCell ⟨g,2,none⟩ (.int .i64 z)) g x y z/\W.grownBy (((W.setCell ⟨g,0,none⟩ (.int .i64 x)).setCell ⟨g,1,none⟩ (.int .i64 y)).setCell ⟨g,2,none⟩ (.int .i64 z)) (some g) :=
 ⟨((h.set0 x).set1 y).set2 z,World.grownBy.trans (zad W ⟨g,0,none⟩ (.int .i64 x)) (World.grownBy.trans (zad _ ⟨g,1,none⟩ (.int .i64 y)) (zad _ ⟨g,2,none⟩ (.int .i64 z)))⟩
def zuE {a b:zah}(h:checkV a b=0):validB a=true/\validB b=true/\a.kind=b.kind:=by
 unfold checkV at h;split at h
 ·next h1 =>
  split at h
  ·next h2=>exact⟨h1.1,h1.2,h2⟩
  omega
 omega
noncomputable def unionV (a b:zah):zah×Int:=if checkV a b=0 then (zbA (zak a.kind) a b,0) else (zao,checkV a b)
set_option maxHeartbeats 32000000 in
def zhL {a b:zah}{va vb:Value}{w:World}(ha:zan w va a)(hb:zan w vb b)(fa:zaZ a)(fb:zaZ b)(hl:a.states.length+b.states.length+1<=3000)(hn:zaj a.states+zaj b.states+2<=30000):Calls prog 26 #[va,vb] w (zbb (unionV a b) w):=by
 have HCK:=zHd (fun w' (h:w.grownBy w' none)=>zqq (ha.grown h) (hb.grown h) fa fb);have HSA:=zHd (fun w' (h:w.grownBy w' none)=>zfN (ha.grown h) (by omega) (by omega));have HSB:=zHd (fun w' (h:w.grownBy w' none)=>zfN (hb.grown h) (by omega) (by omega));obtain⟨ua,rfl,hsta⟩:=ha;obtain⟨ub,rfl,hstb⟩:=hb;have HSTA:=zHd hsta;have HSTB:=zHd hstb;have HL:=zHd (zAI hl hn);have g1:=zGA w (.cells #[.int .i64 a.kind,.int .i64 a.start,.string a.lead,ua] 29) none;have b1:=zaf.new w a ua;generalize hW1:w.alloc (.cells #[.int .i64 a.kind,.int .i64 a.start,.string a.lead,ua] 29)=W1 at g1 b1;have e1:W1.heap.size=w.heap.size+1:=by rw[<- hW1];simp
 have g2:=zGA W1 (.cells #[.int .i64 b.kind,.int .i64 b.start,.string b.lead,ub] 29) none;have b2:=zaf.new W1 b ub;rw[e1] at b2;generalize hW2:W1.alloc (.cells #[.int .i64 b.kind,.int .i64 b.start,.string b.lead,ub] 29)=W2 at g2 b2;have e2:W2.heap.size=w.heap.size+1+1:=by rw[<- hW2];simp[e1]
 have g3:=zGA W2 (.cells #[.int .i64 0,.int .i64 0,.string ⟨#[]⟩,.slice none 0 0] 29) none;have b3:zaf (W2.alloc (.cells #[.int .i64 0,.int .i64 0,.string ⟨#[]⟩,.slice none 0 0] 29)) W2.heap.size zao (.slice none 0 0):=zaf.new W2 zao (.slice none 0 0);rw[e2] at b3;generalize hW3:W2.alloc (.cells #[.int .i64 0,.int .i64 0,.string ⟨#[]⟩,.slice none 0 0] 29)=W3 at g3 b3;have e3:W3.heap.size=w.heap.size+1+1+1:=by rw[<- hW3];simp[e2]
 have hg:=zaa g1 (zaa g2 g3)
 replace b1:=(zaf.grown b1 g2).grown g3
 replace b2:=zaf.grown b2 g3
 have HB:=zHd (zAI b1 (zAI b2 b3));have HG:=zHd hg;have HSZ2:Hid (w.heap.size+3<=W3.heap.size):=zHd (by omega);obtain⟨x0,x1,x2,x3⟩:=b1.cells;obtain⟨y0,y1,y2,y3⟩:=b2.cells;have hW:((w.alloc (.cells #[.int .i64 a.kind,.int .i64 a.start,.string a.lead,ua] 29)).alloc (.cells #[.int .i64 b.kind,.int .i64 b.start,.string b.lead,ub] 29)).alloc (.cells #[.int .i64 0,.int .i64 0,.string ⟨#[]⟩,.slice none 0 0] 29)=W3:=by rw[hW1,hW2,hW3]
 rw[<- hW] at x0 x1 x2 x3 y0 y1 y2 y3;have HW:=zHd hW;clear hW g1 g2 g3 b1 b2 b3 e1 e2 e3 hg hsta hstb hl hn hW1 hW2 hW3;go_enter func26,ntmps26;go_wp2_with fail;rw[HW.out];refine(HCK.out _ HG.out).mono ?_;rintro e w1 ⟨rfl,hg1⟩;clear x0 x1 x2 x3 y0 y1 y2 y3 HW;have HG1:=zHd (zaa HG.out hg1);have HB1:=zHd (zAI (HB.out.1.grown hg1) (zAI (HB.out.2.1.grown hg1) (HB.out.2.2.grown hg1)));have HSZ3:Hid (w.heap.size+3<=w1.heap.size):=zHd (zqam HSZ2.out hg1.size);obtain⟨x0,x1,x2,x3⟩:=HB1.out.1.cells;obtain⟨y0,y1,y2,y3⟩:=HB1.out.2.1.cells;clear hg1
 by_cases hc:checkV a b=0
 ·have HV:Hid (validB a=true/\validB b=true/\a.kind=b.kind):=zHd (zuE hc)
  have HE0:Hid (checkV a b=0):=zHd hc;rw[hc];clear hc;go_upto_region 4 with(fail)
  go_cut [6,7] from 17 to 20 (fun pa pb wx=>∃ (ga gb:Nat),pa=.pointer (some ⟨ga,0,none⟩)/\pb=.pointer (some ⟨gb,0,none⟩)/\zay wx ga (a.states.length:Int) (zaj a.states:Int) (zau a.states:Int)/\zay wx gb (b.states.length:Int) (zaj b.states:Int) (zau b.states:Int)/\w1.grownBy wx none)
  case first =>
   refine wp_region_held_drew (S:=(fun W':World=>W'.cell? ⟨w.heap.size,0,none⟩=some (.int .i64 a.kind)/\W'.cell? ⟨w.heap.size,1,none⟩=some (.int .i64 a.start)/\W'.cell? ⟨w.heap.size,2,none⟩=some (.string a.lead)/\W'.cell? ⟨w.heap.size,3,none⟩=some (ua)/\W'.cell? ⟨w.heap.size+1,0,none⟩=some (.int .i64 b.kind)/\W'.cell? ⟨w.heap.size+1,1,none⟩=some (.int .i64 b.start)/\W'.cell? ⟨w.heap.size+1,2,none⟩=some (.string b.lead)/\W'.cell? ⟨w.heap.size+1,3,none⟩=some (ub))) (by kernel_rfl) ⟨x0,x1,x2,x3,y0,y1,y2,y3⟩ (fun zH=>?_);have GW:=zHd (zag w1 none);have hz0:w1.heap.size<=w1.drew.heap.size:=(zag w1 none).size;obtain⟨s0,s1,s2,s3,s4,s5,s6,s7⟩:=id zH;clear x0 x1 x2 x3 y0 y1 y2 y3;generalize w1.drew=v0 at *;refine zTk 0 (.agg #[.int .i64 a.kind,.int .i64 a.start,.string a.lead,ua]) rfl zH ?_;(try simp only[zS,Act.put]);refine zTk 2 (.agg #[.int .i64 b.kind,.int .i64 b.start,.string b.lead,ub]) rfl zH ?_;(try simp only[zS,Act.put]);refine zqcc (rs:=[1,4,5]) (by kernel_rfl) (by simp) ?_;refine AllReadyH.cons rfl (fun K hK=>?_) ?_
   ·skip
    go_simp;refine(HSA.out _ (zaa HG1.out GW.out)).mono ?_;rintro e v1 ⟨rfl,hgr⟩;have hsz:=hgr.size;refine hK.out _ _ (zC8 hgr s0 s1 s2 s3 s4 s5 s6 s7) (fun zH=>?_);clear hK K;(try simp only[zS,Act.put]);have GW:=zHd (zaa GW.out hgr);obtain⟨s0,s1,s2,s3,s4,s5,s6,s7⟩:=zC8 hgr s0 s1 s2 s3 s4 s5 s6 s7;clear hgr;have hz1:=hsz;clear hsz;refine zqcc (rs:=[3,4,5]) (by kernel_rfl) (by simp) ?_;refine AllReadyH.cons rfl (fun K hK=>?_) ?_
    ·skip
     go_simp;refine(HSB.out _ (zaa HG1.out GW.out)).mono ?_;rintro e v2 ⟨rfl,hgr⟩;have hsz:=hgr.size;refine hK.out _ _ (zC8 hgr s0 s1 s2 s3 s4 s5 s6 s7) (fun zH=>?_);clear hK K;(try simp only[zS,Act.put]);have GW:=zHd (zaa GW.out hgr);obtain⟨s0,s1,s2,s3,s4,s5,s6,s7⟩:=zC8 hgr s0 s1 s2 s3 s4 s5 s6 s7;clear hgr;have hz2:=hsz;clear hsz;refine zqcc (rs:=[4,5]) (by kernel_rfl) (by simp) ?_;refine AllReadyH.cons rfl (fun K hK=>?_) ?_
     ·skip
      go_simp;have hgr:=zGA v2 (.cells #[.int .i64 0,.int .i64 0,.int .i64 0] 84) none;have hbn:=zay.new v2 0 0 0;have hsz:v2.heap.size<(v2.alloc (.cells #[.int .i64 0,.int .i64 0,.int .i64 0] 84)).heap.size:=(by simp);refine hK.out _ _ (zC8 hgr s0 s1 s2 s3 s4 s5 s6 s7) (fun zH=>?_);clear hK K;(try simp only[zS,Act.put]);have BA:Hid (zay (v2.alloc (.cells #[.int .i64 0,.int .i64 0,.int .i64 0] 84)) v2.heap.size 0 0 0):=zHd hbn;clear hbn;have GW:=zHd (zaa GW.out hgr);obtain⟨s0,s1,s2,s3,s4,s5,s6,s7⟩:=zC8 hgr s0 s1 s2 s3 s4 s5 s6 s7;clear hgr;generalize v2.alloc (.cells #[.int .i64 0,.int .i64 0,.int .i64 0] 84)=v3 at *;have hz3:=hsz;clear hsz;refine zqcc (rs:=[5]) (by kernel_rfl) (by simp) ?_;refine AllReadyH.cons rfl (fun K hK=>?_) ?_
      ·skip
       go_simp;have hgr:=zGA v3 (.cells #[.int .i64 0,.int .i64 0,.int .i64 0] 84) none;have hbn:=zay.new v3 0 0 0;have hsz:v3.heap.size<(v3.alloc (.cells #[.int .i64 0,.int .i64 0,.int .i64 0] 84)).heap.size:=(by simp);refine hK.out _ _ (zC8 hgr s0 s1 s2 s3 s4 s5 s6 s7) (fun zH=>?_);clear hK K;(try simp only[zS,Act.put]);have BB:Hid (zay (v3.alloc (.cells #[.int .i64 0,.int .i64 0,.int .i64 0] 84)) v3.heap.size 0 0 0):=zHd hbn;clear hbn;have BA:=zHd (BA.out.grown hgr);have GW:=zHd (zaa GW.out hgr);obtain⟨s0,s1,s2,s3,s4,s5,s6,s7⟩:=zC8 hgr s0 s1 s2 s3 s4 s5 s6 s7;clear hgr;generalize v3.alloc (.cells #[.int .i64 0,.int .i64 0,.int .i64 0] 84)=v4 at *;exact zQaa
      exact AllReadyH.nil
     refine AllReadyH.cons rfl (fun K hK=>?_) ?_
     ·skip
      go_simp;have hgr:=zGA v2 (.cells #[.int .i64 0,.int .i64 0,.int .i64 0] 84) none;have hbn:=zay.new v2 0 0 0;have hsz:v2.heap.size<(v2.alloc (.cells #[.int .i64 0,.int .i64 0,.int .i64 0] 84)).heap.size:=(by simp);refine hK.out _ _ (zC8 hgr s0 s1 s2 s3 s4 s5 s6 s7) (fun zH=>?_);clear hK K;(try simp only[zS,Act.put]);have BB:Hid (zay (v2.alloc (.cells #[.int .i64 0,.int .i64 0,.int .i64 0] 84)) v2.heap.size 0 0 0):=zHd hbn;clear hbn;have GW:=zHd (zaa GW.out hgr);obtain⟨s0,s1,s2,s3,s4,s5,s6,s7⟩:=zC8 hgr s0 s1 s2 s3 s4 s5 s6 s7;clear hgr;generalize v2.alloc (.cells #[.int .i64 0,.int .i64 0,.int .i64 0] 84)=v3 at *;have hz3:=hsz;clear hsz;refine zqcc (rs:=[4]) (by kernel_rfl) (by simp) ?_;refine AllReadyH.cons rfl (fun K hK=>?_) ?_
      ·skip
       go_simp;have hgr:=zGA v3 (.cells #[.int .i64 0,.int .i64 0,.int .i64 0] 84) none;have hbn:=zay.new v3 0 0 0;have hsz:v3.heap.size<(v3.alloc (.cells #[.int .i64 0,.int .i64 0,.int .i64 0] 84)).heap.size:=(by simp);refine hK.out _ _ (zC8 hgr s0 s1 s2 s3 s4 s5 s6 s7) (fun zH=>?_);clear hK K;(try simp only[zS,Act.put]);have BA:Hid (zay (v3.alloc (.cells #[.int .i64 0,.int .i64 0,.int .i64 0] 84)) v3.heap.size 0 0 0):=zHd hbn;clear hbn;have BB:=zHd (BB.out.grown hgr);have GW:=zHd (zaa GW.out hgr);obtain⟨s0,s1,s2,s3,s4,s5,s6,s7⟩:=zC8 hgr s0 s1 s2 s3 s4 s5 s6 s7;clear hgr;generalize v3.alloc (.cells #[.int .i64 0,.int .i64 0,.int .i64 0] 84)=v4 at *;exact zQaa
      exact AllReadyH.nil
     exact AllReadyH.nil
    refine AllReadyH.cons rfl (fun K hK=>?_) ?_
    ·skip
     go_simp;have hgr:=zGA v1 (.cells #[.int .i64 0,.int .i64 0,.int .i64 0] 84) none;have hbn:=zay.new v1 0 0 0;have hsz:v1.heap.size<(v1.alloc (.cells #[.int .i64 0,.int .i64 0,.int .i64 0] 84)).heap.size:=(by simp);refine hK.out _ _ (zC8 hgr s0 s1 s2 s3 s4 s5 s6 s7) (fun zH=>?_);clear hK K;(try simp only[zS,Act.put]);have BA:Hid (zay (v1.alloc (.cells #[.int .i64 0,.int .i64 0,.int .i64 0] 84)) v1.heap.size 0 0 0):=zHd hbn;clear hbn;have GW:=zHd (zaa GW.out hgr);obtain⟨s0,s1,s2,s3,s4,s5,s6,s7⟩:=zC8 hgr s0 s1 s2 s3 s4 s5 s6 s7;clear hgr;generalize v1.alloc (.cells #[.int .i64 0,.int .i64 0,.int .i64 0] 84)=v2 at *;have hz2:=hsz;clear hsz;refine zqcc (rs:=[3,5]) (by kernel_rfl) (by simp) ?_;refine AllReadyH.cons rfl (fun K hK=>?_) ?_
     ·skip
      go_simp;refine(HSB.out _ (zaa HG1.out GW.out)).mono ?_;rintro e v3 ⟨rfl,hgr⟩;have hsz:=hgr.size;refine hK.out _ _ (zC8 hgr s0 s1 s2 s3 s4 s5 s6 s7) (fun zH=>?_);clear hK K;(try simp only[zS,Act.put]);have BA:=zHd (BA.out.grown hgr);have GW:=zHd (zaa GW.out hgr);obtain⟨s0,s1,s2,s3,s4,s5,s6,s7⟩:=zC8 hgr s0 s1 s2 s3 s4 s5 s6 s7;clear hgr;have hz3:=hsz;clear hsz;refine zqcc (rs:=[5]) (by kernel_rfl) (by simp) ?_;refine AllReadyH.cons rfl (fun K hK=>?_) ?_
      ·skip
       go_simp;have hgr:=zGA v3 (.cells #[.int .i64 0,.int .i64 0,.int .i64 0] 84) none;have hbn:=zay.new v3 0 0 0;have hsz:v3.heap.size<(v3.alloc (.cells #[.int .i64 0,.int .i64 0,.int .i64 0] 84)).heap.size:=(by simp);refine hK.out _ _ (zC8 hgr s0 s1 s2 s3 s4 s5 s6 s7) (fun zH=>?_);clear hK K;(try simp only[zS,Act.put]);have BB:Hid (zay (v3.alloc (.cells #[.int .i64 0,.int .i64 0,.int .i64 0] 84)) v3.heap.size 0 0 0):=zHd hbn;clear hbn;have BA:=zHd (BA.out.grown hgr);have GW:=zHd (zaa GW.out hgr);obtain⟨s0,s1,s2,s3,s4,s5,s6,s7⟩:=zC8 hgr s0 s1 s2 s3 s4 s5 s6 s7;clear hgr;generalize v3.alloc (.cells #[.int .i64 0,.int .i64 0,.int .i64 0] 84)=v4 at *;exact zQaa
      exact AllReadyH.nil
     refine AllReadyH.cons rfl (fun K hK=>?_) ?_
     ·skip
      go_simp;have hgr:=zGA v2 (.cells #[.int .i64 0,.int .i64 0,.int .i64 0] 84) none;have hbn:=zay.new v2 0 0 0;have hsz:v2.heap.size<(v2.alloc (.cells #[.int .i64 0,.int .i64 0,.int .i64 0] 84)).heap.size:=(by simp);refine hK.out _ _ (zC8 hgr s0 s1 s2 s3 s4 s5 s6 s7) (fun zH=>?_);clear hK K;(try simp only[zS,Act.put]);have BB:Hid (zay (v2.alloc (.cells #[.int .i64 0,.int .i64 0,.int .i64 0] 84)) v2.heap.size 0 0 0):=zHd hbn;clear hbn;have BA:=zHd (BA.out.grown hgr);have GW:=zHd (zaa GW.out hgr);obtain⟨s0,s1,s2,s3,s4,s5,s6,s7⟩:=zC8 hgr s0 s1 s2 s3 s4 s5 s6 s7;clear hgr;generalize v2.alloc (.cells #[.int .i64 0,.int .i64 0,.int .i64 0] 84)=v3 at *;have hz3:=hsz;clear hsz;refine zqcc (rs:=[3]) (by kernel_rfl) (by simp) ?_;refine AllReadyH.cons rfl (fun K hK=>?_) ?_
      ·skip
       go_simp;refine(HSB.out _ (zaa HG1.out GW.out)).mono ?_;rintro e v4 ⟨rfl,hgr⟩;have hsz:=hgr.size;refine hK.out _ _ (zC8 hgr s0 s1 s2 s3 s4 s5 s6 s7) (fun zH=>?_);clear hK K;(try simp only[zS,Act.put]);have BA:=zHd (BA.out.grown hgr);have BB:=zHd (BB.out.grown hgr);have GW:=zHd (zaa GW.out hgr);obtain⟨s0,s1,s2,s3,s4,s5,s6,s7⟩:=zC8 hgr s0 s1 s2 s3 s4 s5 s6 s7;clear hgr;exact zQaa
      exact AllReadyH.nil
     exact AllReadyH.nil
    refine AllReadyH.cons rfl (fun K hK=>?_) ?_
    ·skip
     go_simp;have hgr:=zGA v1 (.cells #[.int .i64 0,.int .i64 0,.int .i64 0] 84) none;have hbn:=zay.new v1 0 0 0;have hsz:v1.heap.size<(v1.alloc (.cells #[.int .i64 0,.int .i64 0,.int .i64 0] 84)).heap.size:=(by simp);refine hK.out _ _ (zC8 hgr s0 s1 s2 s3 s4 s5 s6 s7) (fun zH=>?_);clear hK K;(try simp only[zS,Act.put]);have BB:Hid (zay (v1.alloc (.cells #[.int .i64 0,.int .i64 0,.int .i64 0] 84)) v1.heap.size 0 0 0):=zHd hbn;clear hbn;have GW:=zHd (zaa GW.out hgr);obtain⟨s0,s1,s2,s3,s4,s5,s6,s7⟩:=zC8 hgr s0 s1 s2 s3 s4 s5 s6 s7;clear hgr;generalize v1.alloc (.cells #[.int .i64 0,.int .i64 0,.int .i64 0] 84)=v2 at *;have hz2:=hsz;clear hsz;refine zqcc (rs:=[3,4]) (by kernel_rfl) (by simp) ?_;refine AllReadyH.cons rfl (fun K hK=>?_) ?_
     ·skip
      go_simp;refine(HSB.out _ (zaa HG1.out GW.out)).mono ?_;rintro e v3 ⟨rfl,hgr⟩;have hsz:=hgr.size;refine hK.out _ _ (zC8 hgr s0 s1 s2 s3 s4 s5 s6 s7) (fun zH=>?_);clear hK K;(try simp only[zS,Act.put]);have BB:=zHd (BB.out.grown hgr);have GW:=zHd (zaa GW.out hgr);obtain⟨s0,s1,s2,s3,s4,s5,s6,s7⟩:=zC8 hgr s0 s1 s2 s3 s4 s5 s6 s7;clear hgr;have hz3:=hsz;clear hsz;refine zqcc (rs:=[4]) (by kernel_rfl) (by simp) ?_;refine AllReadyH.cons rfl (fun K hK=>?_) ?_
      ·skip
       go_simp;have hgr:=zGA v3 (.cells #[.int .i64 0,.int .i64 0,.int .i64 0] 84) none;have hbn:=zay.new v3 0 0 0;have hsz:v3.heap.size<(v3.alloc (.cells #[.int .i64 0,.int .i64 0,.int .i64 0] 84)).heap.size:=(by simp);refine hK.out _ _ (zC8 hgr s0 s1 s2 s3 s4 s5 s6 s7) (fun zH=>?_);clear hK K;(try simp only[zS,Act.put]);have BA:Hid (zay (v3.alloc (.cells #[.int .i64 0,.int .i64 0,.int .i64 0] 84)) v3.heap.size 0 0 0):=zHd hbn;clear hbn;have BB:=zHd (BB.out.grown hgr);have GW:=zHd (zaa GW.out hgr);obtain⟨s0,s1,s2,s3,s4,s5,s6,s7⟩:=zC8 hgr s0 s1 s2 s3 s4 s5 s6 s7;clear hgr;generalize v3.alloc (.cells #[.int .i64 0,.int .i64 0,.int .i64 0] 84)=v4 at *;exact zQaa
      exact AllReadyH.nil
     refine AllReadyH.cons rfl (fun K hK=>?_) ?_
     ·skip
      go_simp;have hgr:=zGA v2 (.cells #[.int .i64 0,.int .i64 0,.int .i64 0] 84) none;have hbn:=zay.new v2 0 0 0;have hsz:v2.heap.size<(v2.alloc (.cells #[.int .i64 0,.int .i64 0,.int .i64 0] 84)).heap.size:=(by simp);refine hK.out _ _ (zC8 hgr s0 s1 s2 s3 s4 s5 s6 s7) (fun zH=>?_);clear hK K;(try simp only[zS,Act.put]);have BA:Hid (zay (v2.alloc (.cells #[.int .i64 0,.int .i64 0,.int .i64 0] 84)) v2.heap.size 0 0 0):=zHd hbn;clear hbn;have BB:=zHd (BB.out.grown hgr);have GW:=zHd (zaa GW.out hgr);obtain⟨s0,s1,s2,s3,s4,s5,s6,s7⟩:=zC8 hgr s0 s1 s2 s3 s4 s5 s6 s7;clear hgr;generalize v2.alloc (.cells #[.int .i64 0,.int .i64 0,.int .i64 0] 84)=v3 at *;have hz3:=hsz;clear hsz;refine zqcc (rs:=[3]) (by kernel_rfl) (by simp) ?_;refine AllReadyH.cons rfl (fun K hK=>?_) ?_
      ·skip
       go_simp;refine(HSB.out _ (zaa HG1.out GW.out)).mono ?_;rintro e v4 ⟨rfl,hgr⟩;have hsz:=hgr.size;refine hK.out _ _ (zC8 hgr s0 s1 s2 s3 s4 s5 s6 s7) (fun zH=>?_);clear hK K;(try simp only[zS,Act.put]);have BA:=zHd (BA.out.grown hgr);have BB:=zHd (BB.out.grown hgr);have GW:=zHd (zaa GW.out hgr);obtain⟨s0,s1,s2,s3,s4,s5,s6,s7⟩:=zC8 hgr s0 s1 s2 s3 s4 s5 s6 s7;clear hgr;exact zQaa
      exact AllReadyH.nil
     exact AllReadyH.nil
    exact AllReadyH.nil
   refine AllReadyH.cons rfl (fun K hK=>?_) ?_
   ·skip
    go_simp;have hgr:=zGA v0 (.cells #[.int .i64 0,.int .i64 0,.int .i64 0] 84) none;have hbn:=zay.new v0 0 0 0;have hsz:v0.heap.size<(v0.alloc (.cells #[.int .i64 0,.int .i64 0,.int .i64 0] 84)).heap.size:=(by simp);refine hK.out _ _ (zC8 hgr s0 s1 s2 s3 s4 s5 s6 s7) (fun zH=>?_);clear hK K;(try simp only[zS,Act.put]);have BA:Hid (zay (v0.alloc (.cells #[.int .i64 0,.int .i64 0,.int .i64 0] 84)) v0.heap.size 0 0 0):=zHd hbn;clear hbn;have GW:=zHd (zaa GW.out hgr);obtain⟨s0,s1,s2,s3,s4,s5,s6,s7⟩:=zC8 hgr s0 s1 s2 s3 s4 s5 s6 s7;clear hgr;generalize v0.alloc (.cells #[.int .i64 0,.int .i64 0,.int .i64 0] 84)=v1 at *;have hz1:=hsz;clear hsz;refine zqcc (rs:=[1,5]) (by kernel_rfl) (by simp) ?_;refine AllReadyH.cons rfl (fun K hK=>?_) ?_
    ·skip
     go_simp;refine(HSA.out _ (zaa HG1.out GW.out)).mono ?_;rintro e v2 ⟨rfl,hgr⟩;have hsz:=hgr.size;refine hK.out _ _ (zC8 hgr s0 s1 s2 s3 s4 s5 s6 s7) (fun zH=>?_);clear hK K;(try simp only[zS,Act.put]);have BA:=zHd (BA.out.grown hgr);have GW:=zHd (zaa GW.out hgr);obtain⟨s0,s1,s2,s3,s4,s5,s6,s7⟩:=zC8 hgr s0 s1 s2 s3 s4 s5 s6 s7;clear hgr;have hz2:=hsz;clear hsz;refine zqcc (rs:=[3,5]) (by kernel_rfl) (by simp) ?_;refine AllReadyH.cons rfl (fun K hK=>?_) ?_
     ·skip
      go_simp;refine(HSB.out _ (zaa HG1.out GW.out)).mono ?_;rintro e v3 ⟨rfl,hgr⟩;have hsz:=hgr.size;refine hK.out _ _ (zC8 hgr s0 s1 s2 s3 s4 s5 s6 s7) (fun zH=>?_);clear hK K;(try simp only[zS,Act.put]);have BA:=zHd (BA.out.grown hgr);have GW:=zHd (zaa GW.out hgr);obtain⟨s0,s1,s2,s3,s4,s5,s6,s7⟩:=zC8 hgr s0 s1 s2 s3 s4 s5 s6 s7;clear hgr;have hz3:=hsz;clear hsz;refine zqcc (rs:=[5]) (by kernel_rfl) (by simp) ?_;refine AllReadyH.cons rfl (fun K hK=>?_) ?_
      ·skip
       go_simp;have hgr:=zGA v3 (.cells #[.int .i64 0,.int .i64 0,.int .i64 0] 84) none;have hbn:=zay.new v3 0 0 0;have hsz:v3.heap.size<(v3.alloc (.cells #[.int .i64 0,.int .i64 0,.int .i64 0] 84)).heap.size:=(by simp);refine hK.out _ _ (zC8 hgr s0 s1 s2 s3 s4 s5 s6 s7) (fun zH=>?_);clear hK K;(try simp only[zS,Act.put]);have BB:Hid (zay (v3.alloc (.cells #[.int .i64 0,.int .i64 0,.int .i64 0] 84)) v3.heap.size 0 0 0):=zHd hbn;clear hbn;have BA:=zHd (BA.out.grown hgr);have GW:=zHd (zaa GW.out hgr);obtain⟨s0,s1,s2,s3,s4,s5,s6,s7⟩:=zC8 hgr s0 s1 s2 s3 s4 s5 s6 s7;clear hgr;generalize v3.alloc (.cells #[.int .i64 0,.int .i64 0,.int .i64 0] 84)=v4 at *;exact zQaa
      exact AllReadyH.nil
     refine AllReadyH.cons rfl (fun K hK=>?_) ?_
     ·skip
      go_simp;have hgr:=zGA v2 (.cells #[.int .i64 0,.int .i64 0,.int .i64 0] 84) none;have hbn:=zay.new v2 0 0 0;have hsz:v2.heap.size<(v2.alloc (.cells #[.int .i64 0,.int .i64 0,.int .i64 0] 84)).heap.size:=(by simp);refine hK.out _ _ (zC8 hgr s0 s1 s2 s3 s4 s5 s6 s7) (fun zH=>?_);clear hK K;(try simp only[zS,Act.put]);have BB:Hid (zay (v2.alloc (.cells #[.int .i64 0,.int .i64 0,.int .i64 0] 84)) v2.heap.size 0 0 0):=zHd hbn;clear hbn;have BA:=zHd (BA.out.grown hgr);have GW:=zHd (zaa GW.out hgr);obtain⟨s0,s1,s2,s3,s4,s5,s6,s7⟩:=zC8 hgr s0 s1 s2 s3 s4 s5 s6 s7;clear hgr;generalize v2.alloc (.cells #[.int .i64 0,.int .i64 0,.int .i64 0] 84)=v3 at *;have hz3:=hsz;clear hsz;refine zqcc (rs:=[3]) (by kernel_rfl) (by simp) ?_;refine AllReadyH.cons rfl (fun K hK=>?_) ?_
      ·skip
       go_simp;refine(HSB.out _ (zaa HG1.out GW.out)).mono ?_;rintro e v4 ⟨rfl,hgr⟩;have hsz:=hgr.size;refine hK.out _ _ (zC8 hgr s0 s1 s2 s3 s4 s5 s6 s7) (fun zH=>?_);clear hK K;(try simp only[zS,Act.put]);have BA:=zHd (BA.out.grown hgr);have BB:=zHd (BB.out.grown hgr);have GW:=zHd (zaa GW.out hgr);obtain⟨s0,s1,s2,s3,s4,s5,s6,s7⟩:=zC8 hgr s0 s1 s2 s3 s4 s5 s6 s7;clear hgr;exact zQaa
      exact AllReadyH.nil
     exact AllReadyH.nil
    refine AllReadyH.cons rfl (fun K hK=>?_) ?_
    ·skip
     go_simp;have hgr:=zGA v1 (.cells #[.int .i64 0,.int .i64 0,.int .i64 0] 84) none;have hbn:=zay.new v1 0 0 0;have hsz:v1.heap.size<(v1.alloc (.cells #[.int .i64 0,.int .i64 0,.int .i64 0] 84)).heap.size:=(by simp);refine hK.out _ _ (zC8 hgr s0 s1 s2 s3 s4 s5 s6 s7) (fun zH=>?_);clear hK K;(try simp only[zS,Act.put]);have BB:Hid (zay (v1.alloc (.cells #[.int .i64 0,.int .i64 0,.int .i64 0] 84)) v1.heap.size 0 0 0):=zHd hbn;clear hbn;have BA:=zHd (BA.out.grown hgr);have GW:=zHd (zaa GW.out hgr);obtain⟨s0,s1,s2,s3,s4,s5,s6,s7⟩:=zC8 hgr s0 s1 s2 s3 s4 s5 s6 s7;clear hgr;generalize v1.alloc (.cells #[.int .i64 0,.int .i64 0,.int .i64 0] 84)=v2 at *;have hz2:=hsz;clear hsz;refine zqcc (rs:=[1]) (by kernel_rfl) (by simp) ?_;refine AllReadyH.cons rfl (fun K hK=>?_) ?_
     ·skip
      go_simp;refine(HSA.out _ (zaa HG1.out GW.out)).mono ?_;rintro e v3 ⟨rfl,hgr⟩;have hsz:=hgr.size;refine hK.out _ _ (zC8 hgr s0 s1 s2 s3 s4 s5 s6 s7) (fun zH=>?_);clear hK K;(try simp only[zS,Act.put]);have BA:=zHd (BA.out.grown hgr);have BB:=zHd (BB.out.grown hgr);have GW:=zHd (zaa GW.out hgr);obtain⟨s0,s1,s2,s3,s4,s5,s6,s7⟩:=zC8 hgr s0 s1 s2 s3 s4 s5 s6 s7;clear hgr;have hz3:=hsz;clear hsz;refine zqcc (rs:=[3]) (by kernel_rfl) (by simp) ?_;refine AllReadyH.cons rfl (fun K hK=>?_) ?_
      ·skip
       go_simp;refine(HSB.out _ (zaa HG1.out GW.out)).mono ?_;rintro e v4 ⟨rfl,hgr⟩;have hsz:=hgr.size;refine hK.out _ _ (zC8 hgr s0 s1 s2 s3 s4 s5 s6 s7) (fun zH=>?_);clear hK K;(try simp only[zS,Act.put]);have BA:=zHd (BA.out.grown hgr);have BB:=zHd (BB.out.grown hgr);have GW:=zHd (zaa GW.out hgr);obtain⟨s0,s1,s2,s3,s4,s5,s6,s7⟩:=zC8 hgr s0 s1 s2 s3 s4 s5 s6 s7;clear hgr;exact zQaa
      exact AllReadyH.nil
     exact AllReadyH.nil
    exact AllReadyH.nil
   refine AllReadyH.cons rfl (fun K hK=>?_) ?_
   ·skip
    go_simp;have hgr:=zGA v0 (.cells #[.int .i64 0,.int .i64 0,.int .i64 0] 84) none;have hbn:=zay.new v0 0 0 0;have hsz:v0.heap.size<(v0.alloc (.cells #[.int .i64 0,.int .i64 0,.int .i64 0] 84)).heap.size:=(by simp);refine hK.out _ _ (zC8 hgr s0 s1 s2 s3 s4 s5 s6 s7) (fun zH=>?_);clear hK K;(try simp only[zS,Act.put]);have BB:Hid (zay (v0.alloc (.cells #[.int .i64 0,.int .i64 0,.int .i64 0] 84)) v0.heap.size 0 0 0):=zHd hbn;clear hbn;have GW:=zHd (zaa GW.out hgr);obtain⟨s0,s1,s2,s3,s4,s5,s6,s7⟩:=zC8 hgr s0 s1 s2 s3 s4 s5 s6 s7;clear hgr;generalize v0.alloc (.cells #[.int .i64 0,.int .i64 0,.int .i64 0] 84)=v1 at *;have hz1:=hsz;clear hsz;refine zqcc (rs:=[1,4]) (by kernel_rfl) (by simp) ?_;refine AllReadyH.cons rfl (fun K hK=>?_) ?_
    ·skip
     go_simp;refine(HSA.out _ (zaa HG1.out GW.out)).mono ?_;rintro e v2 ⟨rfl,hgr⟩;have hsz:=hgr.size;refine hK.out _ _ (zC8 hgr s0 s1 s2 s3 s4 s5 s6 s7) (fun zH=>?_);clear hK K;(try simp only[zS,Act.put]);have BB:=zHd (BB.out.grown hgr);have GW:=zHd (zaa GW.out hgr);obtain⟨s0,s1,s2,s3,s4,s5,s6,s7⟩:=zC8 hgr s0 s1 s2 s3 s4 s5 s6 s7;clear hgr;have hz2:=hsz;clear hsz;refine zqcc (rs:=[3,4]) (by kernel_rfl) (by simp) ?_;refine AllReadyH.cons rfl (fun K hK=>?_) ?_
     ·skip
      go_simp;refine(HSB.out _ (zaa HG1.out GW.out)).mono ?_;rintro e v3 ⟨rfl,hgr⟩;have hsz:=hgr.size;refine hK.out _ _ (zC8 hgr s0 s1 s2 s3 s4 s5 s6 s7) (fun zH=>?_);clear hK K;(try simp only[zS,Act.put]);have BB:=zHd (BB.out.grown hgr);have GW:=zHd (zaa GW.out hgr);obtain⟨s0,s1,s2,s3,s4,s5,s6,s7⟩:=zC8 hgr s0 s1 s2 s3 s4 s5 s6 s7;clear hgr;have hz3:=hsz;clear hsz;refine zqcc (rs:=[4]) (by kernel_rfl) (by simp) ?_;refine AllReadyH.cons rfl (fun K hK=>?_) ?_
      ·skip
       go_simp;have hgr:=zGA v3 (.cells #[.int .i64 0,.int .i64 0,.int .i64 0] 84) none;have hbn:=zay.new v3 0 0 0;have hsz:v3.heap.size<(v3.alloc (.cells #[.int .i64 0,.int .i64 0,.int .i64 0] 84)).heap.size:=(by simp);refine hK.out _ _ (zC8 hgr s0 s1 s2 s3 s4 s5 s6 s7) (fun zH=>?_);clear hK K;(try simp only[zS,Act.put]);have BA:Hid (zay (v3.alloc (.cells #[.int .i64 0,.int .i64 0,.int .i64 0] 84)) v3.heap.size 0 0 0):=zHd hbn;clear hbn;have BB:=zHd (BB.out.grown hgr);have GW:=zHd (zaa GW.out hgr);obtain⟨s0,s1,s2,s3,s4,s5,s6,s7⟩:=zC8 hgr s0 s1 s2 s3 s4 s5 s6 s7;clear hgr;generalize v3.alloc (.cells #[.int .i64 0,.int .i64 0,.int .i64 0] 84)=v4 at *;exact zQaa
      exact AllReadyH.nil
     refine AllReadyH.cons rfl (fun K hK=>?_) ?_
     ·skip
      go_simp;have hgr:=zGA v2 (.cells #[.int .i64 0,.int .i64 0,.int .i64 0] 84) none;have hbn:=zay.new v2 0 0 0;have hsz:v2.heap.size<(v2.alloc (.cells #[.int .i64 0,.int .i64 0,.int .i64 0] 84)).heap.size:=(by simp);refine hK.out _ _ (zC8 hgr s0 s1 s2 s3 s4 s5 s6 s7) (fun zH=>?_);clear hK K;(try simp only[zS,Act.put]);have BA:Hid (zay (v2.alloc (.cells #[.int .i64 0,.int .i64 0,.int .i64 0] 84)) v2.heap.size 0 0 0):=zHd hbn;clear hbn;have BB:=zHd (BB.out.grown hgr);have GW:=zHd (zaa GW.out hgr);obtain⟨s0,s1,s2,s3,s4,s5,s6,s7⟩:=zC8 hgr s0 s1 s2 s3 s4 s5 s6 s7;clear hgr;generalize v2.alloc (.cells #[.int .i64 0,.int .i64 0,.int .i64 0] 84)=v3 at *;have hz3:=hsz;clear hsz;refine zqcc (rs:=[3]) (by kernel_rfl) (by simp) ?_;refine AllReadyH.cons rfl (fun K hK=>?_) ?_
      ·skip
       go_simp;refine(HSB.out _ (zaa HG1.out GW.out)).mono ?_;rintro e v4 ⟨rfl,hgr⟩;have hsz:=hgr.size;refine hK.out _ _ (zC8 hgr s0 s1 s2 s3 s4 s5 s6 s7) (fun zH=>?_);clear hK K;(try simp only[zS,Act.put]);have BA:=zHd (BA.out.grown hgr);have BB:=zHd (BB.out.grown hgr);have GW:=zHd (zaa GW.out hgr);obtain⟨s0,s1,s2,s3,s4,s5,s6,s7⟩:=zC8 hgr s0 s1 s2 s3 s4 s5 s6 s7;clear hgr;exact zQaa
      exact AllReadyH.nil
     exact AllReadyH.nil
    refine AllReadyH.cons rfl (fun K hK=>?_) ?_
    ·skip
     go_simp;have hgr:=zGA v1 (.cells #[.int .i64 0,.int .i64 0,.int .i64 0] 84) none;have hbn:=zay.new v1 0 0 0;have hsz:v1.heap.size<(v1.alloc (.cells #[.int .i64 0,.int .i64 0,.int .i64 0] 84)).heap.size:=(by simp);refine hK.out _ _ (zC8 hgr s0 s1 s2 s3 s4 s5 s6 s7) (fun zH=>?_);clear hK K;(try simp only[zS,Act.put]);have BA:Hid (zay (v1.alloc (.cells #[.int .i64 0,.int .i64 0,.int .i64 0] 84)) v1.heap.size 0 0 0):=zHd hbn;clear hbn;have BB:=zHd (BB.out.grown hgr);have GW:=zHd (zaa GW.out hgr);obtain⟨s0,s1,s2,s3,s4,s5,s6,s7⟩:=zC8 hgr s0 s1 s2 s3 s4 s5 s6 s7;clear hgr;generalize v1.alloc (.cells #[.int .i64 0,.int .i64 0,.int .i64 0] 84)=v2 at *;have hz2:=hsz;clear hsz;refine zqcc (rs:=[1]) (by kernel_rfl) (by simp) ?_;refine AllReadyH.cons rfl (fun K hK=>?_) ?_
     ·skip
      go_simp;refine(HSA.out _ (zaa HG1.out GW.out)).mono ?_;rintro e v3 ⟨rfl,hgr⟩;have hsz:=hgr.size;refine hK.out _ _ (zC8 hgr s0 s1 s2 s3 s4 s5 s6 s7) (fun zH=>?_);clear hK K;(try simp only[zS,Act.put]);have BA:=zHd (BA.out.grown hgr);have BB:=zHd (BB.out.grown hgr);have GW:=zHd (zaa GW.out hgr);obtain⟨s0,s1,s2,s3,s4,s5,s6,s7⟩:=zC8 hgr s0 s1 s2 s3 s4 s5 s6 s7;clear hgr;have hz3:=hsz;clear hsz;refine zqcc (rs:=[3]) (by kernel_rfl) (by simp) ?_;refine AllReadyH.cons rfl (fun K hK=>?_) ?_
      ·skip
       go_simp;refine(HSB.out _ (zaa HG1.out GW.out)).mono ?_;rintro e v4 ⟨rfl,hgr⟩;have hsz:=hgr.size;refine hK.out _ _ (zC8 hgr s0 s1 s2 s3 s4 s5 s6 s7) (fun zH=>?_);clear hK K;(try simp only[zS,Act.put]);have BA:=zHd (BA.out.grown hgr);have BB:=zHd (BB.out.grown hgr);have GW:=zHd (zaa GW.out hgr);obtain⟨s0,s1,s2,s3,s4,s5,s6,s7⟩:=zC8 hgr s0 s1 s2 s3 s4 s5 s6 s7;clear hgr;exact zQaa
      exact AllReadyH.nil
     exact AllReadyH.nil
    exact AllReadyH.nil
   exact AllReadyH.nil
  case rest =>
   obtain⟨ga,gb,rfl,rfl,h1,h2,hg2⟩:=hcut;clear x0 x1 x2 x3 y0 y1 y2 y3;generalize wc=w2 at *;have p0:=h1.c0;have p1:=h1.c1;have q0:=h2.c0;have q1:=h2.c1;have HE:Hid (unionV a b=(zbA (zak a.kind) a b,0)):=zHd (by unfold unionV;rw[if_pos HE0.out]);have n1:IntKind.i64.wrap ((a.states.length:Int)+(b.states.length:Int))=(a.states.length:Int)+(b.states.length:Int):=by have:=HL.out;rw[zqah];omega
   have n2:IntKind.i64.wrap ((a.states.length:Int)+(b.states.length:Int)+1)=(a.states.length:Int)+(b.states.length:Int)+1:=by have:=HL.out;rw[zqah];omega
   have n3:IntKind.i64.wrap ((zaj a.states:Int)+(zaj b.states:Int))=(zaj a.states:Int)+(zaj b.states:Int):=by have:=HL.out;rw[zqah];omega
   have n4:IntKind.i64.wrap ((zaj a.states:Int)+(zaj b.states:Int)+2)=(zaj a.states:Int)+(zaj b.states:Int)+2:=by have:=HL.out;rw[zqah];omega
   have HF:=zHd (zkn ((a.states.length:Int)+(b.states.length:Int)+1) ((zaj a.states:Int)+(zaj b.states:Int)+2) (by have:=HL.out;omega) (by have:=HL.out;omega) w2);have HG2:=zHd hg2;clear h1 h2 hg2;go_wp2_with fail;refine HF.out.mono ?_;rintro e w3 ⟨rfl,hg3⟩;have HG3:=zHd (zaa HG2.out hg3);have hA3:=HB1.out.1.grown HG3.out;have HB3:=zHd (zAI hA3 (zAI (HB1.out.2.1.grown HG3.out) (HB1.out.2.2.grown HG3.out)));obtain⟨x0,x1,x2,x3⟩:=hA3.cells;have HASM:=zHd (zdT a.kind w3);have HGW3:=zHd (zaa HG1.out HG3.out);have HSZ4:Hid (w.heap.size+3<=w3.heap.size):=zHd (zqam HSZ3.out HG3.out.size);clear hg3 p0 p1 q0 q1 hA3 n1 n2 n3 n4;go_wp2_with fail;refine HASM.out.mono ?_;rintro e w4 ⟨bb,rfl,hbb,has,hg4⟩;have hM:zbL (fun b=>b<w3.heap.size) w4 bb a.kind (zak a.kind) (.slice none 0 0) [] []:=⟨has,fun e=>by omega,fun b e=>(by cases e),fun i u b hu=>(by simp at hu),fun b hb=>zqba hb hg4.size⟩;have HADD:=zHd (zgj bb a.kind (zak a.kind) _ [] [] noB w4 hM (by simp));unfold noB at HADD;have HM:=zHd (zAI hM hg4);have HBB:=zHd hbb;clear x0 x1 x2 x3 hM has hg4 hbb;go_wp2_with fail;refine HADD.out.mono ?_;rintro e w5 ⟨rfl,hk5,v5,hp5⟩
   replace hp5:zbL (fun b=>b<w3.heap.size) w5 bb a.kind (zak a.kind) v5 [⟨noB,[]⟩] [.slice none 0 0]:=hp5
   have HGE:Hid (w.heap.size<w3.heap.size):=zHd (by have:=HSZ4.out;omega);have HK5:=zHd ((zaF HM.out.2 (fun b e=>by cases e) (fun b hb=>hb)).trans hk5);have HA5:=zHd (zdX HB3.out.1 HK5.out HGE.out);have HP5:=zHd hp5;have HGW5:=zHd (zfG HGW3.out HK5.out (fun b hb=>by have:=HSZ4.out;omega));have HLW:Hid ((∀ b,b<w.heap.size->b<w3.heap.size)/\Below w.heap.size w w5):=zHd ⟨fun b hb=>by have:=HSZ4.out;omega,zct HGW5.out⟩;clear hk5 hp5;obtain⟨z,hz⟩:∃ z,1+a.start.toNat=z:=⟨_,rfl⟩;have HZ:Hid (([⟨noB,[]⟩]:List zac).length+a.start.toNat=z):=zHd hz;clear hz;have hA5:=zaf.grown HA5.out (zag w5 none);obtain⟨d0,d1,d2,d3⟩:=hA5.cells;have HAD:=zHd hA5;have HPD:=zHd (HP5.out.same (zag w5 none));have HKD:=zHd (zaF (zag w5 none) (fun b e=>by cases e) HP5.out.lt);clear hA5;go_upto_region 9 with(fail)
   go_region_held2 (fun W':World=>W'.cell? ⟨w.heap.size,0,none⟩=some (.int .i64 a.kind)/\W'.cell? ⟨w.heap.size,1,none⟩=some (.int .i64 a.start)/\W'.cell? ⟨w.heap.size,2,none⟩=some (.string a.lead)/\W'.cell? ⟨w.heap.size,3,none⟩=some (ua)) (first|exact⟨d0,d1,d2,d3⟩|exact s6|exact s7|exact s8|go_keep)
    (first
     | (go_at_call 57;refine(zfM bb a ua _).mono ?_;rintro e w6 ⟨ca,cm,rfl,l1,l2,l3,l4,hcp,hg6⟩;have hA6:=zaf.grown HAD.out hg6;obtain⟨p0,p1,p2,p3⟩:=hA6.cells;have s6:=zAI p0 (zAI p1 (zAI p2 p3));have H6:=zHd (HPD.out.grown (F:=fun b=>(fun b=>b<w3.heap.size) b∨b=ca∨b=cm) hg6 (fun b hb=>hb.elim .inl (fun h=>.inr (by rcases h with h|h <;> omega))));have HA6:=zHd hA6;have HC6:=zHd hcp;have HK6:=zHd (HKD.out.trans (zaF hg6 (fun b e=>by cases e) HPD.out.lt));clear p0 p1 p2 p3 l1 l2 l3 l4 hcp hg6 hA6)
     | (go_at_call 78;refine(zhl (w0:=w) bb _ (zak a.kind) v5 [⟨noB,[]⟩] [.slice none 0 0] ca cm a ua none (-1) z w6 H6.out HC6.out (fun b hb=>.inl (HLW.out.1 b hb)) (.inr (.inl rfl)) (.inr (.inr rfl)) HSTA.out (HLW.out.2.trans (HK6.out.below HLW.out.1)) (.inl ⟨rfl,rfl⟩) (by have:=HL.out;simp;omega) HV.out.1 HZ.out).mono ?_;rintro e w7 ⟨rfl,hk7,v7,us7,hp7⟩;have hA7:=zdX HA6.out hk7 (.inl HGE.out);obtain⟨p0,p1,p2,p3⟩:=hA7.cells;have s7:=zAI p0 (zAI p1 (zAI p2 p3));have H7:=zHd hp7;have HA7:=zHd hA7;have HK7:=zHd (HK6.out.trans (hk7.mono (fun b hb=>.inl hb)));clear p0 p1 p2 p3 hp7 hk7 hA7)
     | (go_at_call 56;refine(zhK bb _ (zak a.kind) v7 _ us7 0 z ⟨noB,[]⟩ a.lead w7 H7.out (by rfl) (by have:=HL.out;simp;omega) (by simp)).mono ?_;rintro e w8 ⟨rfl,hk8,us8,hp8⟩;have hA8:=zdX HA7.out hk8 (.inl HGE.out);obtain⟨p0,p1,p2,p3⟩:=hA8.cells;have s8:=zAI p0 (zAI p1 (zAI p2 p3));have H8:=zHd hp8;have HA8:=zHd hA8;have HK8:=zHd (HK7.out.trans (hk8.mono (fun b hb=>.inl hb)));clear p0 p1 p2 p3 hp8 hk8 hA8))
   clear d0 d1 d2 d3 s6 s7 s8;have hp8:zbL (fun b=>b<w3.heap.size∨b=ca∨b=cm) w8 bb a.kind (zak a.kind) v7 ((⟨noB,[zbu a.lead z]⟩:zac)::a.states.map (zbi 1 none)) us8:=H8.out;have HL1:Hid (((⟨noB,[zbu a.lead z]⟩:zac)::a.states.map (zbi 1 none)).length=1+a.states.length/\((⟨noB,[zbu a.lead z]⟩:zac)::a.states.map (zbi 1 none))[0]?=some ⟨noB,[zbu a.lead z]⟩):=zHd ⟨by rw[zqbu,zqbn];omega,rfl⟩;have HQ1:Hid (((⟨noB,[zbu a.lead z]⟩:zac)::a.states.map (zbi 1 none))=(⟨noB,[zbu a.lead z]⟩:zac)::a.states.map (zbi 1 none)):=zHd rfl;generalize hL1:((⟨noB,[zbu a.lead z]⟩:zac)::a.states.map (zbi 1 none))=L1 at hp8 HL1;have HLE:=zHd hL1;clear hL1 HQ1;have HPb:=zHd hp8;have HGEb:Hid (w.heap.size+1<w3.heap.size∨w.heap.size+1=ca∨w.heap.size+1=cm):=zHd (.inl (by have:=HSZ4.out;omega));have HAb:=zHd (zdX (zdX HB3.out.2.1 HK5.out (by have:=HSZ4.out;omega)) HK8.out (by have:=HSZ4.out;omega));have HGW8:=zHd (zfG HGW5.out HK8.out HLW.out.1);have HLWb:Hid ((∀ b,b<w.heap.size->b<w3.heap.size∨b=ca∨b=cm)/\Below w.heap.size w w8):=zHd ⟨fun b hb=>.inl (HLW.out.1 b hb),zct HGW8.out⟩;clear hp8;obtain⟨z2,hz2⟩:∃ z,L1.length+b.start.toNat=z:=⟨_,rfl⟩;have HZb:=zHd hz2;clear hz2;have hA5b:=zaf.grown HAb.out (zag w8 none);obtain⟨d0,d1,d2,d3⟩:=hA5b.cells;have HADb:=zHd hA5b;have HPDb:=zHd (HPb.out.same (zag w8 none));have HKDb:=zHd (zaF (zag w8 none) (fun b e=>by cases e) HPb.out.lt);clear hA5b;go_upto_region 10 with(fail)
   go_region_held2 (fun W':World=>W'.cell? ⟨(w.heap.size+1),0,none⟩=some (.int .i64 b.kind)/\W'.cell? ⟨(w.heap.size+1),1,none⟩=some (.int .i64 b.start)/\W'.cell? ⟨(w.heap.size+1),2,none⟩=some (.string b.lead)/\W'.cell? ⟨(w.heap.size+1),3,none⟩=some (ub)) (first|exact⟨d0,d1,d2,d3⟩|exact s6b|exact s7b|exact s8b|go_keep)
    (first
     | (go_at_call 57;refine(zfM bb b ub _).mono ?_;rintro e w6b ⟨cab,cmb,rfl,l1,l2,l3,l4,hcp,hg6⟩;have hA6:=zaf.grown HADb.out hg6;obtain⟨p0,p1,p2,p3⟩:=hA6.cells;have s6b:=zAI p0 (zAI p1 (zAI p2 p3));have H6b:=zHd (HPDb.out.grown (F:=fun b=>(fun b=>b<w3.heap.size∨b=ca∨b=cm) b∨b=cab∨b=cmb) hg6 (fun b hb=>hb.elim .inl (fun h=>.inr (by rcases h with h|h <;> omega))));have HA6b:=zHd hA6;have HC6b:=zHd hcp;have HK6b:=zHd (HKDb.out.trans (zaF hg6 (fun b e=>by cases e) HPDb.out.lt));clear p0 p1 p2 p3 l1 l2 l3 l4 hcp hg6 hA6)
     | (go_at_call 78;refine(zhl (w0:=w) bb _ (zak a.kind) v7 L1 us8 cab cmb b ub none (-1) z2 w6b H6b.out HC6b.out (fun b hb=>.inl (HLWb.out.1 b hb)) (.inr (.inl rfl)) (.inr (.inr rfl)) HSTB.out (HLWb.out.2.trans (HK6b.out.below HLWb.out.1)) (.inl ⟨rfl,rfl⟩) (by have:=HL.out;have:=HL1.out.1;omega) HV.out.2.1 HZb.out).mono ?_;rintro e w7b ⟨rfl,hk7,v7b,us7b,hp7⟩;have hA7:=zdX HA6b.out hk7 (.inl HGEb.out);obtain⟨p0,p1,p2,p3⟩:=hA7.cells;have s7b:=zAI p0 (zAI p1 (zAI p2 p3));have H7b:=zHd hp7;have HA7b:=zHd hA7;have HK7b:=zHd (HK6b.out.trans (hk7.mono (fun b hb=>.inl hb)));clear p0 p1 p2 p3 hp7 hk7 hA7)
     | (go_at_call 56;refine(zhK bb _ (zak a.kind) v7b _ us7b 0 z2 ⟨noB,[zbu a.lead z]⟩ b.lead w7b H7b.out (by rw[zqal (by have:=HL1.out.1;omega)];exact HL1.out.2) (by have:=HL.out;have:=HL1.out.1;simp;omega) (by simp)).mono ?_;rintro e w8b ⟨rfl,hk8,us8b,hp8⟩;have hA8:=zdX HA7b.out hk8 (.inl HGEb.out);obtain⟨p0,p1,p2,p3⟩:=hA8.cells;have s8b:=zAI p0 (zAI p1 (zAI p2 p3));have H8b:=zHd hp8;have HA8b:=zHd hA8;have HK8b:=zHd (HK7b.out.trans (hk8.mono (fun b hb=>.inl hb)));clear p0 p1 p2 p3 hp8 hk8 hA8))
   clear d0 d1 d2 d3 s6b s7b s8b;have hp9:zbL (fun b=>(b<w3.heap.size∨b=ca∨b=cm)∨b=cab∨b=cmb) w8b bb a.kind (zak a.kind) v7b ((L1++b.states.map (zbi L1.length none)).set 0 ⟨noB,[zbu a.lead z]++[zbu b.lead z2]⟩) us8b:=H8b.out;have HEQ:Hid ((L1++b.states.map (zbi L1.length none)).set 0 ⟨noB,[zbu a.lead z]++[zbu b.lead z2]⟩=(zbA (zak a.kind) a b).states):=zHd (by rw[<- HZb.out,HL1.out.1,<- HLE.out,<- HZ.out];rfl);generalize (L1++b.states.map (zbi L1.length none)).set 0 ⟨noB,[zbu a.lead z]++[zbu b.lead z2]⟩=ss9 at hp9 HEQ;have x2:=hp9.at_.c2;have HMM:=zHd (zfn bb a.kind (zak a.kind) _ ss9 us8b 0 (zak a.kind) w8b hp9.at_);have HR8:=zHd (zdX (zdX (zdX HB3.out.2.2 HK5.out (by have:=HSZ4.out;omega)) HK8.out (by have:=HSZ4.out;omega)) HK8b.out (.inl (by have:=HSZ4.out;omega)));have HG8:=zHd (zfG HGW8.out HK8b.out HLWb.out.1);clear hp9;go_wp2_with fail;refine HMM.out.mono ?_;rintro e w9 ⟨A9,c9,rfl,hsn,hg9⟩;have hb9:=zaf.grown HR8.out hg9;have hgw:=zaa HG8.out hg9;have hbb:=HBB.out;have hs4:=HSZ4.out;clear x2 hg9;simp only[] at hsn;obtain⟨v0,v1,v2,v3⟩:=hb9.cells;simp only[zao] at v0 v1 v2;have f0:=hb9.free 0;have f1:=hb9.free 1;have f2:=hb9.free 2;have f3:=hb9.free 3;obtain⟨hbf,hgf⟩:=zby (n:=⟨a.kind,0,(zak a.kind),ss9⟩) (v:=.slice A9 ss9.length c9) hb9;have T:=zHd (zae hgw hgf (by omega));have T2:=zHd ((hsn.kept (zfv hgf (by omega))).mono (C:=w.heap.size) (by have:=hgw.size;omega));obtain⟨c0,c1,c2,c3⟩:=hbf.cells;simp only[] at c0 c1 c2 c3;clear hbf hgf hb9 hsn hgw;go_wp2_with fail;generalize ((((w9).setCell ⟨w.heap.size+1+1,0,none⟩ (.int .i64 a.kind)).setCell ⟨w.heap.size+1+1,1,none⟩ (.int .i64 0)).setCell ⟨w.heap.size+1+1,2,none⟩ (.string (zak a.kind))).setCell ⟨w.heap.size+1+1,3,none⟩ (.slice A9 ss9.length c9)=WW at *;have T3:∀ L,ss9=L->StN WW w.heap.size (.slice A9 ss9.length c9) L:=fun L h=>by rw[<- h];exact T2.out
   exact zqby (v:=.tuple #[.agg #[.int .i64 a.kind,.int .i64 0,.string (zak a.kind),.slice A9 ss9.length c9],.int .i64 0]) (by simp[results,results26,go_sem,c0,c1,c2,c3]) rfl (by rw[HE.out];exact⟨_,rfl,⟨_,rfl,T3 _ HEQ.out⟩,T.out⟩)
 obtain⟨c,hcv⟩:∃ c,checkV a b=c:=⟨_,rfl⟩;have HE:Hid (unionV a b=(zao,c)):=zHd (by unfold unionV;rw[if_neg hc,hcv]);rw[hcv] at hc ⊢;have hc1:(c==0)=false:=by simpa using hc
 have hc2:(c != 0)=true:=by simpa using hc
 clear hcv x0 x1 x2 x3 y0 y1 y2 y3;obtain⟨v0,v1,v2,v3⟩:=zaf.cells (HB1.out.2.2);simp only[zao] at v0 v1 v2;have f0:=zaf.free (HB1.out.2.2) 0;have f1:=zaf.free (HB1.out.2.2) 1;have f2:=zaf.free (HB1.out.2.2) 2;have f3:=zaf.free (HB1.out.2.2) 3;obtain⟨hbf,hgf⟩:=zby (n:=zao) (v:=.slice none 0 0) (HB1.out.2.2);have T:=zHd (zae (HG1.out) hgf (by omega));obtain⟨c0,c1,c2,c3⟩:=hbf.cells;clear hbf hgf;simp only[zao] at T c0 c1 c2 c3;go_wp2_with fail;generalize ((((w1).setCell ⟨w.heap.size+1+1,0,none⟩ (.int .i64 0)).setCell ⟨w.heap.size+1+1,1,none⟩ (.int .i64 0)).setCell ⟨w.heap.size+1+1,2,none⟩ (.string ByteArray.empty)).setCell ⟨w.heap.size+1+1,3,none⟩ (.slice none 0 0)=WW at *;exact zqby (v:=.tuple #[.agg #[.int .i64 0,.int .i64 0,.string ByteArray.empty,.slice none 0 0],.int .i64 c]) (by simp[results,results26,go_sem,c0,c1,c2,c3]) rfl (by rw[HE.out];exact⟨_,rfl,⟨_,rfl,StN.nil _ _⟩,T.out⟩)
open Go.RowKit
def znM {one lead:ByteArray}{A t n most i:Nat}(h:i<most):zfc one lead A t n most i=⟨if n<=i then one else noB,[zbu lead (2+i*(A+1)+t)]⟩:=by
 unfold zfc;rw[if_pos (c:=i<most) h]
def zoV {one lead:ByteArray}{A t n most i:Nat}(h:¬ i<most):zfc one lead A t n most i=⟨if n<=i then one else noB,[]⟩:=by
 unfold zfc;rw[if_neg (c:=i<most) h]
def zvB (one:ByteArray)(a:zah)(n i:Nat) :
  ((zaJ one a n i).states++[(⟨if n<=i+1 then one else noB,[]⟩:zac)]++a.states.map (zbi (2+i*(a.states.length+1)) (some (1+i*(a.states.length+1))))).set (if i=0 then 0 else 1+(i-1)*(a.states.length+1)) ⟨if n<=i then one else noB,[zbu a.lead (2+i*(a.states.length+1)+a.start.toNat)]⟩=(zaJ one a n (i+1)).states:=by
 have hlay:∀ m j,m<=j+1->zfC one a n m j=(⟨if n<=j+1 then one else noB,[]⟩:zac)::a.states.map (zbi (2+j*(a.states.length+1)) (some (1+j*(a.states.length+1)))):=fun m j h=>by
  unfold zfC;rw[zoV (by omega)]
 have hlay2:∀ m j,j+1<m->zfC one a n m j=(⟨if n<=j+1 then one else noB,[zbu a.lead (2+(j+1)*(a.states.length+1)+a.start.toNat)]⟩:zac)::a.states.map (zbi (2+j*(a.states.length+1)) (some (1+j*(a.states.length+1)))):=fun m j h=>by
  unfold zfC;rw[znM h]
 have hQ:∀ m m' k,k<m->k<m'->(List.range k).flatMap (zfC one a n m)=(List.range k).flatMap (zfC one a n m'):=fun m m' k h1 h2=>by
  have:∀ j∈List.range k,zfC one a n m j=zfC one a n m' j:=fun j hj=>by
   have:=List.mem_range.1 hj;rw[hlay2 m j (by omega),hlay2 m' j (by omega)]
  rw[List.flatMap_def,List.flatMap_def,List.map_congr_left this]
 have zN:=zgw one a n i
 have hset:(zaJ one a n i).states.set (if i=0 then 0 else 1+(i-1)*(a.states.length+1)) ⟨if n<=i then one else noB,[zbu a.lead (2+i*(a.states.length+1)+a.start.toNat)]⟩=zfc one a.lead a.states.length a.start.toNat n (i+1) 0::(List.range i).flatMap (zfC one a n (i+1)):=by
  cases i with
  | zero =>
   rw[znM (by omega)];rfl
  | succ k =>
   have e:(zaJ one a n (k+1)).states=(zfc one a.lead a.states.length a.start.toNat n (k+1) 0::(List.range k).flatMap (zfC one a n (k+1)))++zfC one a n (k+1) k:=by
    show _::(List.range (k+1)).flatMap _=_;rw[zeo];rfl
   have hl:(zfc one a.lead a.states.length a.start.toNat n (k+1) 0::(List.range k).flatMap (zfC one a n (k+1))).length=1+k*(a.states.length+1):=by
    rw[zqbu,zjE _ _ (zoM one a n (k+1)),List.length_range];omega
   rw[if_neg (by omega),e,show k+1-1=k by omega,List.set_append_right _ _ (by rw[hl];exact zqab _),hl,zqbr,hlay (k+1) k (zqab _),List.set_cons_zero,zeo,hQ (k+1) (k+1+1) k (by omega) (by omega),hlay2 (k+1+1) k (by omega),znM (show 0<k+1 by omega),znM (show 0<k+1+1 by omega)];rfl
 rw[zqbj,List.set_append_left _ _ (by
  rw[zN];split;omega;have:=Nat.mul_le_mul_right (a.states.length+1) (show i-1+1<=i by omega);rw[Nat.succ_mul] at this;omega),hset]
 show _=_::(List.range (i+1)).flatMap _;rw[zeo,hlay (i+1) i (zqab _)];rfl
noncomputable def repeatV (a:zah)(n most:Int):zah×Int:=if validB a=true/\0<=n/\n<=most/\most<=30 then (zaJ (zak a.kind) a n.toNat most.toNat,0) else (zao,1)
set_option maxHeartbeats 32000000 in
def zfO {a:zah}{va:Value}{w:World}(ha:zan w va a)(fa:zaZ a)(n most:Int)(hl:31+30*a.states.length<=3000)(hn:30*(zaj a.states+a.states.length+1)<=30000):Calls prog 36 #[va,.int .i64 n,.int .i64 most] w (zbb (repeatV a n most) w):=by
 have HVA:=zHd (fun w' (h:w.grownBy w' none)=>zhF (ha.grown h) fa);have HSZ:=zHd (fun w' (h:w.grownBy w' none)=>zfN (ha.grown h) (by omega) (by omega));obtain⟨ua,rfl,hst0⟩:=ha;have HST:=zHd hst0;have HL:=zHd (zAI hl (zAI hn (zlD a.states)));have g1:=zGA w (.cells #[.int .i64 a.kind,.int .i64 a.start,.string a.lead,ua] 29) none;have b1:=zaf.new w a ua;generalize hW1:w.alloc (.cells #[.int .i64 a.kind,.int .i64 a.start,.string a.lead,ua] 29)=W1 at g1 b1;have e1:W1.heap.size=w.heap.size+1:=by rw[<- hW1];simp
 have g2:=zGA W1 (.cells #[.int .i64 0,.int .i64 0,.string ⟨#[]⟩,.slice none 0 0] 29) none;have b2:zaf (W1.alloc (.cells #[.int .i64 0,.int .i64 0,.string ⟨#[]⟩,.slice none 0 0] 29)) W1.heap.size zao (.slice none 0 0):=zaf.new W1 zao (.slice none 0 0);rw[e1] at b2;generalize hW2:W1.alloc (.cells #[.int .i64 0,.int .i64 0,.string ⟨#[]⟩,.slice none 0 0] 29)=W2 at g2 b2;have e2:W2.heap.size=w.heap.size+1+1:=by rw[<- hW2];simp[e1]
 have hg:=zaa g1 g2
 replace b1:=zaf.grown b1 g2
 have HB:=zHd (zAI b1 b2);have HG:=zHd hg;have HSZ2:Hid (w.heap.size+2<=W2.heap.size):=zHd (by omega);obtain⟨x0,x1,x2,x3⟩:=b1.cells;have hW:(w.alloc (.cells #[.int .i64 a.kind,.int .i64 a.start,.string a.lead,ua] 29)).alloc (.cells #[.int .i64 0,.int .i64 0,.string ⟨#[]⟩,.slice none 0 0] 29)=W2:=by rw[hW1,hW2]
 rw[<- hW] at x0 x1 x2 x3;have HW:=zHd hW;clear hW g1 g2 b1 b2 e1 e2 hg hst0 hl hn hW1 hW2;go_enter func36,ntmps36;go_wp2_with fail;rw[HW.out];refine(HVA.out _ HG.out).mono ?_;rintro e w1 ⟨rfl,hg1⟩;clear x0 x1 x2 x3 HW;have HG1:=zHd (zaa HG.out hg1);have HB1:=zHd (zAI (HB.out.1.grown hg1) (HB.out.2.grown hg1));have HSZ3:Hid (w.heap.size+2<=w1.heap.size):=zHd (zqam HSZ2.out hg1.size);obtain⟨x0,x1,x2,x3⟩:=HB1.out.1.cells;clear hg1;cases hV:validB a
 ·have HE:Hid (repeatV a n most=(zao,1)):=zHd (by unfold repeatV;rw[if_neg (fun h=>by rw[hV] at h;cases h.1)])
  clear hV;exact zQae
 have HV:=zHd hV;clear hV
 by_cases hn0:n<0
 ·have HE:Hid (repeatV a n most=(zao,1)):=zHd (by unfold repeatV;rw[if_neg (fun h=>by omega)])
  have t1:decide (n<0)=true:=by simpa using hn0
  exact zQae
 by_cases hn1:most<n
 ·have HE:Hid (repeatV a n most=(zao,1)):=zHd (by unfold repeatV;rw[if_neg (fun h=>by omega)])
  have t1:decide (n<0)=false:=by simpa using hn0
  have t2:decide (n > most)=true:=by simpa using hn1
  have t3:decide (most<n)=true:=by simpa using hn1
  exact zQae
 by_cases hn2:30<most
 ·have HE:Hid (repeatV a n most=(zao,1)):=zHd (by unfold repeatV;rw[if_neg (fun h=>by omega)])
  have t1:decide (n<0)=false:=by simpa using hn0
  have t2:decide (n > most)=false:=by simpa using hn1
  have t3:decide (most<n)=false:=by simpa using hn1
  have t4:decide (most > 30)=true:=by simpa using hn2
  have t5:decide (30<most)=true:=by simpa using hn2
  exact zQae
 have t1:decide (n<0)=false:=by simpa using hn0
 have t2:decide (n > most)=false:=by simpa using hn1
 have t3:decide (most<n)=false:=by simpa using hn1
 have t4:decide (most > 30)=false:=by simpa using hn2
 have t5:decide (30<most)=false:=by simpa using hn2
 have t6:¬ most<n:=hn1;have t7:¬ 30<most:=hn2;have HE:Hid (repeatV a n most=(zaJ (zak a.kind) a n.toNat most.toNat,0)):=zHd (by unfold repeatV;rw[if_pos ⟨HV.out,by omega,by omega,by omega⟩]);obtain⟨nn,rfl⟩:∃ nn:Nat,n=(nn:Int):=⟨n.toNat,by omega⟩;obtain⟨M,rfl⟩:∃ M:Nat,most=(M:Int):=⟨most.toNat,by omega⟩;have HM30:Hid (M<=30/\nn<=M):=zHd ⟨by omega,by omega⟩;rw[Int.toNat_natCast,Int.toNat_natCast] at HE;go_wp2_with fail;refine(HSZ.out _ HG1.out).mono ?_;rintro e w2 ⟨rfl,hg2⟩;have hga:=zGA w2 (.cells #[.int .i64 (a.states.length:Int),.int .i64 (zaj a.states:Int),.int .i64 (zau a.states:Int)] 84) none;have hC:=zay.new w2 (a.states.length:Int) (zaj a.states:Int) (zau a.states:Int);have hm1:=Nat.mul_le_mul_right a.states.length HM30.out.1;have hm2:=Nat.mul_le_mul_right (zaj a.states+zau a.states+1) HM30.out.1;have ec1:((M:Int)*(a.states.length:Int))=((M*a.states.length:Nat):Int):=by rw[Int.natCast_mul]
 have ec2:((M:Int)*((zaj a.states:Int)+(zau a.states:Int)+1))=((M*(zaj a.states+zau a.states+1):Nat):Int):=by rw[Int.natCast_mul];rfl
 obtain⟨P1,hP1⟩:∃ P1:Int,(M:Int)*(a.states.length:Int)=P1:=⟨_,rfl⟩;obtain⟨P2,hP2⟩:∃ P2:Int,(M:Int)*((zaj a.states:Int)+(zau a.states:Int)+1)=P2:=⟨_,rfl⟩;have hb1:0<=P1/\P1<=30*(a.states.length:Int):=by have:=HL.out;rw[<- hP1,ec1];omega
 have hb2:0<=P2/\P2<=30000:=by have:=HL.out;rw[<- hP2,ec2];omega
 have n1:IntKind.i64.wrap ((M:Int)+1)=(M:Int)+1:=by have:=HM30.out;rw[zqah];omega
 have n2:IntKind.i64.wrap ((M:Int)*(a.states.length:Int))=P1:=by have:=HL.out;rw[hP1,zqah];omega
 have n3:IntKind.i64.wrap ((M:Int)+1+P1)=(M:Int)+1+P1:=by have:=HM30.out;have:=HL.out;rw[zqah];omega
 have n4:IntKind.i64.wrap ((zaj a.states:Int)+(zau a.states:Int))=(zaj a.states:Int)+(zau a.states:Int):=by have:=HL.out;rw[zqah];omega
 have n5:IntKind.i64.wrap ((zaj a.states:Int)+(zau a.states:Int)+1)=(zaj a.states:Int)+(zau a.states:Int)+1:=by have:=HL.out;rw[zqah];omega
 have n6:IntKind.i64.wrap ((M:Int)*((zaj a.states:Int)+(zau a.states:Int)+1))=P2:=by rw[hP2,zqah];omega
 have HF:=zHd (zkn ((M:Int)+1+P1) P2 (by have:=HM30.out;have:=HL.out;omega) (by omega) (w2.alloc (.cells #[.int .i64 (a.states.length:Int),.int .i64 (zaj a.states:Int),.int .i64 (zau a.states:Int)] 84)));obtain⟨y0,y1,y2⟩:_/\_/\_:=⟨hC.c0,hC.c1,hC.c2⟩;have HG2:=zHd (zaa hg2 hga);clear hg2 hga hC hm1 hm2 ec1 ec2 hP1 hP2 hb1 hb2 x0 x1 x2 x3 t1 t2 t3 t4 t5 t6 t7 hn0 hn1 hn2;go_wp2_with fail;refine HF.out.mono ?_;rintro e w3 ⟨rfl,hg3⟩;generalize w2.alloc (.cells #[.int .i64 (a.states.length:Int),.int .i64 (zaj a.states:Int),.int .i64 (zau a.states:Int)] 84)=W3 at *;have HG3:=zHd (zaa HG2.out hg3);have hA3:=HB1.out.1.grown HG3.out;have hR3:=HB1.out.2.grown HG3.out;obtain⟨x0,x1,x2,x3⟩:=hA3.cells;have HASM:=zHd (zdT a.kind w3);have HGW3:=zHd (zaa HG1.out HG3.out);have HB3:=zHd (zAI hA3 hR3);have HSZ4:Hid (w.heap.size+2<=w3.heap.size):=zHd (zqam HSZ3.out HG3.out.size);clear hg3 y0 y1 y2 hA3 hR3 n1 n2 n3 n4 n5 n6;go_wp2_with fail;refine HASM.out.mono ?_;rintro e w4 ⟨bb,rfl,hbb,has,hg4⟩;have hM:zbL (fun b=>b<w3.heap.size) w4 bb a.kind (zak a.kind) (.slice none 0 0) [] []:=⟨has,fun e=>by omega,fun b e=>(by cases e),fun i u b hu=>(by simp at hu),fun b hb=>zqba hb hg4.size⟩;have HM:=zHd (zAI hM hg4);have HBB:=zHd hbb;have HK4:=zHd (zaF hg4 (fun b e=>by cases e) (E:=fun b=>b<w3.heap.size) (fun b hb=>hb));have hA4:=zaf.grown HB3.out.1 hg4;clear x0 x1 x2 x3 hM has hg4 hbb;obtain⟨x0,x1,x2,x3⟩:=hA4.cells;clear hA4;go_wp2_with fail;refine(zfM bb a ua _).mono ?_;rintro e w5 ⟨ca,cm,rfl,l1,l2,l3,l4,hcp,hg5⟩;have H5:=zHd (HM.out.1.grown (F:=fun b=>b<w3.heap.size∨b=ca∨b=cm) hg5 (fun b hb=>hb.elim .inl (fun h=>.inr (by rcases h with h|h <;> omega))));have HC5:=zHd hcp;have HK5:=zHd (HK4.out.trans (zaF hg5 (fun b e=>by cases e) HM.out.1.lt));clear l1 l2 l3 l4 hcp hg5 x0 x1 x2 x3;have HBET:=zHd (fun f=>zjN bb a.kind (zak a.kind) _ [] [] f w5 H5.out (by simp));go_wp2_with fail;refine(HBET.out _).mono ?_;rintro e w6 ⟨rfl,hk6,v6,hp6⟩
 have hst0:([]++[(⟨if ((nn:Int)==0)=true then zak a.kind else noB,[]⟩:zac)])=(zaJ (zak a.kind) a nn 0).states:=by
  show[_]=zfc _ _ _ _ _ _ _::[];rw[zoV (Nat.lt_irrefl 0)]
  by_cases h0:nn=0
  subst h0;rfl;rw[if_neg (by simpa using h0),if_neg (by omega)]
 rw[hst0] at hp6;have HP6:=zHd hp6;have HK6:=zHd (HK5.out.trans (hk6.mono (fun b hb=>.inl hb)));have HC6:=zHd (HC5.out.keep hk6 (.inr (.inl rfl)) (.inr (.inr rfl)));have HLO:Hid (∀ b,b<w.heap.size->b<w3.heap.size):=zHd (fun b hb=>by have:=HSZ4.out;omega);have HGA:Hid (w.heap.size<w3.heap.size):=zHd (by have:=HSZ4.out;omega);have HA6:=zHd (zdX HB3.out.1 HK6.out HGA.out);clear hst0 hp6 hk6 HBET;go_wp2
 go_loopw [12,64] (fun hv iv wr=>∃ (i hI:Nat) (v':Value) (us':List Value),i<=M/\iv=.int .i64 (i:Int)/\hv=.int .i64 (hI:Int)/\(if i=0 then 0 else 1+(i-1)*(a.states.length+1))=hI/\zbU (fun b=>b<w3.heap.size∨b=ca∨b=cm) w6 wr/\zbL (fun b=>b<w3.heap.size∨b=ca∨b=cm) wr bb a.kind (zak a.kind) v' (zaJ (zak a.kind) a nn i).states us') (fun _ iv _=>M-(intOf iv).toNat)
 case atStart=>exact⟨0,0,_,_,zqaw _,rfl,rfl,rfl,zbU.refl _ _,HP6.out⟩
 case round =>
  obtain⟨i,hI,v',us',hi',rfl,rfl,hh,hk,hr⟩:=hrel
  by_cases hin:i<M
  ·have m1:(i:Int)<(M:Int):=by omega
   have m2:IntKind.i64.wrap ((i:Int)+1)=(i:Int)+1:=by have:=HM30.out;rw[zqah];omega
   have hmi:=Nat.mul_le_mul_right (a.states.length+1) (show i<=30 by have:=HM30.out.1;omega);have zN:=zgw (zak a.kind) a nn i;obtain⟨nx,hnx⟩:∃ nx,(zaJ (zak a.kind) a nn i).states.length=nx:=⟨_,rfl⟩;have HNX:Hid (nx=1+i*(a.states.length+1)/\nx<=3000):=zHd ⟨by rw[<- hnx,zN],by have:=HL.out.1;rw[<- hnx,zN];omega⟩;have HNXL:=zHd hnx;have hbet:=zhH (zak a.kind) a nn i (i:=i) (zqab _);rw[hh,zoV (Nat.lt_irrefl i)] at hbet;have HBE:=zHd hbet;have hhl:=(zqae.1 hbet).1;have HHL:=zHd hhl;have HBET:=zHd (fun f=>zjN bb a.kind (zak a.kind) v' _ us' f wr hr (by rw[hnx];have:=HNX.out.2;omega));have HI:=zHd (zAI hin (zAI hh hk));clear hr hk hin hi' hmi zN hnx hbet hhl hh;go_wp2_with fail;refine(HBET.out _).mono ?_;rintro e w7 ⟨rfl,hk7,v7,hp7⟩;rw[HNXL.out]
   have hfe:(⟨if decide ((nn:Int)<=(i:Int)+1)=true then zak a.kind else noB,[]⟩:zac)=⟨if nn<=i+1 then zak a.kind else noB,[]⟩:=by
    by_cases h0:nn<=i+1
    rw[if_pos h0,if_pos (by simp;omega)];rw[if_neg h0,if_neg (by simp;omega)]
   rw[hfe] at hp7;have HP7:=zHd (hp7.same (zag w7 none));have HK7:=zHd (((HI.out.2.2.trans hk7)).trans (zaF (zag w7 none) (fun b e=>by cases e) hp7.lt));have HA7:=zHd (zdX HA6.out HK7.out (.inl HGA.out));have HC7:=zHd (HC6.out.keep HK7.out (.inr (.inl rfl)) (.inr (.inr rfl)));have HLW:Hid (Below w.heap.size w w7.drew):=zHd (zct (zfG HGW3.out (HK6.out.trans (HK7.out.mono (fun b hb=>.inl hb))) HLO.out));have d2:w7.drew.cell? ⟨w.heap.size,2,none⟩=some (.string a.lead):=HA7.out.cells.c2;obtain⟨z,hz⟩:∃ z,((zaJ (zak a.kind) a nn i).states++[(⟨if nn<=i+1 then zak a.kind else noB,[]⟩:zac)]).length+a.start.toNat=z:=⟨_,rfl⟩;have HZ:=zHd hz;have HL7:Hid (((zaJ (zak a.kind) a nn i).states++[(⟨if nn<=i+1 then zak a.kind else noB,[]⟩:zac)]).length=nx+1):=zHd (by rw[zqag,HNXL.out];rfl);clear hz hp7 hk7 hfe;go_upto_region 14 with(fail)
   go_region_held2 (fun W':World=>W'.cell? ⟨w.heap.size,2,none⟩=some (.string a.lead)) (first|exact d2|exact s8|exact s9|go_keep)
    (first
     | (go_at_call 78;refine(zhl (w0:=w) bb _ (zak a.kind) v7 _ (us'++[.slice none 0 0]) ca cm a ua (some nx) (nx:Int) z w7.drew HP7.out HC7.out (fun b hb=>.inl (HLO.out b hb)) (.inr (.inl rfl)) (.inr (.inr rfl)) HST.out HLW.out (.inr ⟨nx,rfl,rfl,by have:=HNX.out.2;omega⟩) (by have:=HL.out;have:=HNX.out.2;have:=HL7.out;omega) HV.out HZ.out).mono ?_;rintro e w8 ⟨rfl,hk8,v8,us8,hp8⟩;have s8:=(zdX HA7.out hk8 (.inl HGA.out)).cells.c2;have H8:=zHd hp8;have HK8:=zHd (HK7.out.trans hk8);have HA8:=zHd (zdX HA7.out hk8 (.inl HGA.out));clear hk8 hp8)
     | (go_at_call 56;refine(zhK bb _ (zak a.kind) v8 _ us8 hI z ⟨if nn<=i then zak a.kind else noB,[]⟩ a.lead w8 H8.out (by rw[zqbj,zqal HHL.out];exact HBE.out) (by have:=HL.out;have:=HNX.out.2;have:=HL7.out;rw[zqag,zqbn];omega) (by simp)).mono ?_;rintro e w9 ⟨rfl,hk9,us9,hp9⟩;have s9:=(zdX HA8.out hk9 (.inl HGA.out)).cells.c2;have H9:=zHd hp9;have HK9:=zHd (HK8.out.trans hk9);clear hk9 hp9))
   clear d2 s8 s9;have hp9:=H9.out;have hz3:z=2+i*(a.states.length+1)+a.start.toNat:=by rw[<- HZ.out,HL7.out,HNX.out.1];omega
   have hst:=zvB (zak a.kind) a nn i;rw[HI.out.2.1,<- hz3] at hst;have hl7:((zaJ (zak a.kind) a nn i).states++[(⟨if nn<=i+1 then zak a.kind else noB,[]⟩:zac)]).length=2+i*(a.states.length+1):=by rw[HL7.out,HNX.out.1];omega
   rw[hl7,HNX.out.1,List.nil_append,hst] at hp9;have HP9:=zHd hp9;clear hp9 hz3 hst hl7;go_wp2;exact⟨⟨i+1,nx,_,_,HI.out.1,by simp,rfl,by rw[if_neg (by omega),HNX.out.1];rfl,HK9.out,HP9.out⟩,by have:=HI.out.1;simp[intOf];omega⟩
  obtain rfl:i=M:=by omega
  have v1:¬ (i:Int)<(i:Int):=by omega
  have HEQ:Hid ((zaJ (zak a.kind) a nn i).states=(zaJ (zak a.kind) a nn i).states):=zHd rfl;obtain⟨ss9,hss⟩:∃ ss9,(zaJ (zak a.kind) a nn i).states=ss9:=⟨_,rfl⟩;rw[hss] at hr
  replace HEQ:=zHd hss.symm
  have x2:=hr.at_.c2;have HMM:=zHd (zfn bb a.kind (zak a.kind) _ ss9 us' 0 (zak a.kind) wr hr.at_);have HK8:=zHd (HK6.out.trans (hk.mono (fun b hb=>.inl hb)));have HR8:=zHd (zdX HB3.out.2 HK8.out (by have:=HSZ4.out;omega));have HG8:=zHd (zfG HGW3.out HK8.out HLO.out);clear hr hk hss hin hi' hh;go_wp2_with fail;refine HMM.out.mono ?_;rintro e w9 ⟨A9,c9,rfl,hsn,hg9⟩;have hb9:=zaf.grown HR8.out hg9;have hgw:=zaa HG8.out hg9;have hbb:=HBB.out;have hs4:=HSZ4.out;clear x2 hg9;simp only[] at hsn;obtain⟨v0,v1,v2,v3⟩:=hb9.cells;simp only[zao] at v0 v1 v2;have f0:=hb9.free 0;have f1:=hb9.free 1;have f2:=hb9.free 2;have f3:=hb9.free 3;obtain⟨hbf,hgf⟩:=zby (n:=⟨a.kind,0,(zak a.kind),ss9⟩) (v:=.slice A9 ss9.length c9) hb9;have T:=zHd (zae hgw hgf (by omega));have T2:=zHd ((hsn.kept (zfv hgf (by omega))).mono (C:=w.heap.size) (by have:=hgw.size;omega));obtain⟨c0,c1,c2,c3⟩:=hbf.cells;simp only[] at c0 c1 c2 c3;clear hbf hgf hb9 hsn hgw;go_wp2_with fail;generalize ((((w9).setCell ⟨w.heap.size+1,0,none⟩ (.int .i64 a.kind)).setCell ⟨w.heap.size+1,1,none⟩ (.int .i64 0)).setCell ⟨w.heap.size+1,2,none⟩ (.string (zak a.kind))).setCell ⟨w.heap.size+1,3,none⟩ (.slice A9 ss9.length c9)=WW at *;have T3:∀ L,ss9=L->StN WW w.heap.size (.slice A9 ss9.length c9) L:=fun L h=>by rw[<- h];exact T2.out
  exact zqby (v:=.tuple #[.agg #[.int .i64 a.kind,.int .i64 0,.string (zak a.kind),.slice A9 ss9.length c9],.int .i64 0]) (by simp[results,results36,go_sem,c0,c1,c2,c3]) rfl (by rw[HE.out];exact⟨_,rfl,⟨_,rfl,T3 _ HEQ.out⟩,T.out⟩)
end Go.Proofs.YtadgpgofcjpnjaaGreatDoor
