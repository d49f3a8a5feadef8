/- Part. -/
import Derived.Test.YtiblmbpfcmcccaaGreatDoorKX09
import Derived.Shelf.SlicesE.DeleteFunc
import Derived.Shelf.SortM.Plain
import Derived.Shelf.SortM.SortNone
import Derived.Shelf.SlSortCmp.NoneTotal
import Derived.StillTailTactics
set_option linter.unusedVariables false
set_option linter.defProp false
set_option linter.unusedSimpArgs false
set_option maxRecDepth 100000
set_option maxHeartbeats 16000000
namespace Go.Proofs.YtiblmbpfcmcccaaGreatDoor
open Go.Proofs.Tryz
open Go.RowKit
structure zwF (P:zaI->Bool)(m:zaj)(k:Nat):Prop where
 hk:k<=m.states.length
 hs:∀ (j:Nat) (s:zah),j<k->m.states[j]?=some s->s.arcs.all P=true
def zwF.next {P:zaI->Bool}{m:zaj}{k:Nat}{s:zah}(h:zwF P m k)(hs:m.states[k]?=some s)(hP:s.arcs.all P=true):zwF P m (k+1) :=
 ⟨by have:=(zqae.1 hs).1;omega,fun j t hj ht=>by
  by_cases e:j=k
  subst e;rw[hs] at ht;cases ht;exact hP;exact h.hs j t (by omega) ht⟩
structure EIn (P:zaI->Bool)(s:zah)(j:Nat):Prop where
 hj:j<=s.arcs.length
 ha:∀ (i:Nat) (a:zaI),i<j->s.arcs[i]?=some a->P a=true
def EIn.next {P:zaI->Bool}{s:zah}{j:Nat}{a:zaI}(h:EIn P s j)(ha:s.arcs[j]?=some a)(hP:P a=true):EIn P s (j+1) :=
 ⟨by have:=(zqae.1 ha).1;omega,fun i b hi hb=>by
  by_cases e:i=j
  subst e;rw[ha] at hb;cases hb;exact hP;exact h.ha i b (by omega) hb⟩
def EIn.all {P:zaI->Bool}{s:zah}{j:Nat}(h:EIn P s j)(hj:¬ j<s.arcs.length):s.arcs.all P=true:=by
 rw[List.all_eq_true];intro a ha;obtain⟨i,hi⟩:=List.mem_iff_getElem?.1 ha;exact h.ha i a (by have:=(zqae.1 hi).1;omega) hi
def zFc {m:zaj}(h:validB m=true):m.states.length<=3000:=(zep (zfe h)).2.2.1
def zFd {m:zaj}(h:validB m=true){s:zah}(hs:s∈m.states):s.arcs.length<=30000:=zqam (zni hs) (ziT h)
open Go.RowKit
open Go.RowKit
structure Kept (B:Nat)(W W':World):Prop where
 size:W.heap.size<=W'.heap.size
 block:∀ b,B<=b->b<W.heap.size->W'.heap[b]?=W.heap[b]?
def ziu {W W':World}{b B:Nat}(h:W.grownBy W' (some b))(hb:b<B):Kept B W W':=⟨h.size,fun c hc hl=>h.block c hl (by simp;omega)⟩
def zri {W W':World}{B k n:Nat}{A:Option Addr}{xs:List Value}(h:Reads W W.heap.size k A n xs)(hB:0<n->∀ ad,A=some ad->B<=ad.block)(hk:Kept B W W'):Reads W' W'.heap.size k A n xs :=
 ⟨h.1,fun h0=>by
  obtain⟨ad,hA,hb,hc⟩:=h.2 h0;exact⟨ad,hA,zqba hb hk.size,fun j u hu=>(World.cell?_of_block (by rw[zcN];exact hk.block _ (hB h0 ad hA) hb)).trans (hc j u hu)⟩⟩
def zcP.keptN {W W':World}{B:Nat}{v:Value}{l:List zaI}(h:zcP W v l)(hB:0<l.length->∀ b,v.ownBlock=some b->B<=b)(hk:Kept B W W'):zcP W' v l:=by
 obtain⟨A,cap,rfl,hr⟩:=h;exact⟨A,cap,rfl,zri hr (fun h0 ad hA=>by subst hA;exact hB h0 _ rfl) hk⟩
def StN (W:World)(B:Nat)(u:Value)(l:List zah):Prop:=∃ A cap us,u=.slice A l.length cap/\us.length=l.length/\Reads W W.heap.size 2 A l.length ((l.zip us).flatMap stC)/\(0<l.length->∀ ad,A=some ad->B<=ad.block) /\
 ∀ (k:Nat) (s:zah) (x:Value),l[k]?=some s->us[k]?=some x->zcP W x s.arcs/\(0<s.arcs.length->∀ b,x.ownBlock=some b->B<=b)
def StN.sl {W:World}{B:Nat}{u:Value}{l:List zah}(h:StN W B u l):zfL W u l:=by
 obtain⟨A,cap,us,hu,hl,hr,_,ha⟩:=h;exact⟨A,cap,us,hu,hl,hr,fun k s x hs hx=>(ha k s x hs hx).1⟩
def StN.kept {W W':World}{B:Nat}{u:Value}{l:List zah}(h:StN W B u l)(hk:Kept B W W'):StN W' B u l:=by
 obtain⟨A,cap,us,hu,hl,hr,hb,ha⟩:=h;exact⟨A,cap,us,hu,hl,zri hr hb hk,hb,fun k s x hs hx=>⟨(ha k s x hs hx).1.keptN (ha k s x hs hx).2 hk,(ha k s x hs hx).2⟩⟩
def StN.mono {W:World}{B C:Nat}{u:Value}{l:List zah}(h:StN W B u l)(hC:C<=B):StN W C u l:=by
 obtain⟨A,cap,us,hu,hl,hr,hb,ha⟩:=h;exact⟨A,cap,us,hu,hl,hr,fun h0 ad hA=>zqam hC (hb h0 ad hA),fun k s x hs hx=>⟨(ha k s x hs hx).1,fun h0 b hx2=>zqam hC ((ha k s x hs hx).2 h0 b hx2)⟩⟩
def StN.nil (W:World)(B:Nat):StN W B (.slice none 0 0) []:=⟨none,0,[],rfl,rfl,Reads.none_,fun h=>by simp at h,fun k s x hs=>by simp at hs⟩
def MN (W:World)(B:Nat)(v:Value)(m:zaj):Prop:=∃ u,v=.agg #[.int .i64 m.kind,.int .i64 m.start,.string m.lead,u]/\StN W B u m.states
def znp (m:zaj)(w:World)(e:Ending)(w':World):Prop:=∃ v,e=.returned v/\MN w' w.heap.size v m/\w.grownBy w' none
def zBw (r:zaj×Int)(w:World)(e:Ending)(w':World):Prop:=∃ v,e=.returned (.tuple #[v,.int .i64 r.2])/\MN w' w.heap.size v r.1/\w.grownBy w' none
def znp.open6 {m:zaj}{w:World}{e:Ending}{w':World}(h:znp m w e w'):∃ A c,e=.returned (.agg #[.int .i64 m.kind,.int .i64 m.start,.string m.lead,.slice A m.states.length c])/\StN w' w.heap.size (.slice A m.states.length c) m.states/\w.grownBy w' none:=by
 exact zQbn
def zBw.open6 {m:zaj}{k:Int}{w:World}{e:Ending}{w':World}(h:zBw (m,k) w e w'):∃ A c,e=.returned (.tuple #[.agg #[.int .i64 m.kind,.int .i64 m.start,.string m.lead,.slice A m.states.length c],.int .i64 k])/\StN w' w.heap.size (.slice A m.states.length c) m.states/\w.grownBy w' none:=by
 exact zQbn
open Go.RowKit
def zbm:zaj:=⟨0,0,ByteArray.empty,[]⟩
def zcr (k:Int):zaj:=⟨k,0,zal k,[⟨ByteArray.empty,[]⟩]⟩
def zzC:(prog.info? 40).map (fun i=>(i.zero,i.size,i.bytes))=some (some (.agg #[.string ByteArray.empty,.slice none 0 0]),2,40):=by kernel_rfl
def zdo {t:TypeId}{z:Value}{n b:Nat}(h:(prog.info? t).map (fun i=>(i.zero,i.size,i.bytes))=some (some z,n,b)) :
  ∃ i,prog.info? t=some i/\i.zero=some z/\i.size=n/\i.bytes=b:=by
 obtain⟨i,hi,he⟩:=Option.map_eq_some_iff.1 h;simp only[Prod.mk.injEq] at he;exact⟨i,hi,he.1,he.2.1,he.2.2⟩
def zKE:madeCells (Value.agg #[.string ByteArray.empty,.slice none 0 0]).cells (Int.toNat 1*2)=#[.string ByteArray.empty,.slice none 0 0]:=by
 first
 | kernel_rfl
 | simp[madeCells,Value.cells]
 | decide
def zas.free {w:World}{g:Nat}{m:zaj}{u:Value}(h:zas w g m u)(k:Nat):w.frozen? ⟨g,k,none⟩=false:=zqbx w g k _ _ h
def zas.set {w:World}{g:Nat}{m n:zaj}{u v:Value}(h:zas w g m u) :
  zas ((((w.setCell ⟨g,0,none⟩ (.int .i64 n.kind)).setCell ⟨g,1,none⟩ (.int .i64 n.start)).setCell ⟨g,2,none⟩ (.string n.lead)).setCell ⟨g,3,none⟩ v) g n v:=by
 unfold zas at h ⊢;have h1:=heap_setCell_same w g 0 _ _ (.int .i64 n.kind) h;have h2:=heap_setCell_same _ g 1 _ _ (.int .i64 n.start) h1;have h3:=heap_setCell_same _ g 2 _ _ (.string n.lead) h2;have h4:=heap_setCell_same _ g 3 _ _ v h3;rw[h4];rfl
def Place (W0 W':World)(g:Nat):Prop:=(W'.cell? ⟨g,0,none⟩=some (.int .i64 0)/\W'.cell? ⟨g,1,none⟩=some (.int .i64 0)/\W'.cell? ⟨g,2,none⟩=some (.string ByteArray.empty)/\W'.cell? ⟨g,3,none⟩=some (.slice none 0 0) /\
  W'.frozen? ⟨g,0,none⟩=false/\W'.frozen? ⟨g,1,none⟩=false/\W'.frozen? ⟨g,2,none⟩=false/\W'.frozen? ⟨g,3,none⟩=false)/\Hid (zas W' g zbm (.slice none 0 0)/\W0.grownBy W' none)
def zpD {W0 W':World}{g:Nat}(hb:zas W' g zbm (.slice none 0 0))(hg:W0.grownBy W' none):Place W0 W' g :=
 ⟨⟨hb.cells.c0,hb.cells.c1,hb.cells.c2,hb.cells.c3,hb.free 0,hb.free 1,hb.free 2,hb.free 3⟩,zHd ⟨hb,hg⟩⟩
def Place.next_drew {W0 W:World}{g:Nat}(h:Place W0 W g):Place W0 W.drew g :=
 zpD (h.2.out.1.grown (zaf _ _)) (zaa h.2.out.2 (zaf _ _))
def ztN {W:World}{b B:Nat}(h:W.heap[b]?=some (.cells #[.string ByteArray.empty,.slice none 0 0] 40 (0,0)))(hB:B<=b):StN W B (.slice (some ⟨b,0,none⟩) 1 1) [⟨ByteArray.empty,[]⟩]:=by
 have hb:b<W.heap.size:=(zqad.1 h).1;have h0:W.cell? ⟨b,0,none⟩=some (.string ByteArray.empty):=by rw[zqbw _ b 0 _ _ (0,0) h];rfl
 have h1:W.cell? ⟨b,0+1,none⟩=some (.slice none 0 0):=by show World.cell? _ ⟨b,1,none⟩=_;rw[zqbw _ b 1 _ _ (0,0) h];rfl
 refine⟨some ⟨b,0,none⟩,1,[.slice none 0 0],rfl,rfl,⟨rfl,fun _=>⟨_,rfl,hb,fun j u hu=>?_⟩⟩,fun _ ad hA=>by cases hA;exact hB,fun k s u hs hu=>?_⟩
 ·match j,hu with
  | 0,hu=>simp[stC] at hu;subst hu;exact h0
  | 1,hu=>simp[stC] at hu;subst hu;exact h1
  | j+2,hu=>simp[stC] at hu
 match k,hs,hu with
 | 0,hs,hu=>simp at hs hu;subst hs hu;exact⟨zcP.nil _,fun h=>by simp at h⟩
 | k+1,hs,hu=>simp at hs
def zlR (w:World){W W':World}(hg:W.grownBy W' none)(h:(W.cell? ⟨w.heap.size,0,none⟩=some (.int .i64 0)/\W.cell? ⟨w.heap.size,1,none⟩=some (.int .i64 0)/\W.cell? ⟨w.heap.size,2,none⟩=some (.string ByteArray.empty)/\W.cell? ⟨w.heap.size,3,none⟩=some (.slice none 0 0)/\W.frozen? ⟨w.heap.size,0,none⟩=false/\W.frozen? ⟨w.heap.size,1,none⟩=false/\W.frozen? ⟨w.heap.size,2,none⟩=false/\W.frozen? ⟨w.heap.size,3,none⟩=false)/\Hid (zas W w.heap.size zbm (.slice none 0 0)/\w.grownBy W none)):(W'.cell? ⟨w.heap.size,0,none⟩=some (.int .i64 0)/\W'.cell? ⟨w.heap.size,1,none⟩=some (.int .i64 0)/\W'.cell? ⟨w.heap.size,2,none⟩=some (.string ByteArray.empty)/\W'.cell? ⟨w.heap.size,3,none⟩=some (.slice none 0 0)/\W'.frozen? ⟨w.heap.size,0,none⟩=false/\W'.frozen? ⟨w.heap.size,1,none⟩=false/\W'.frozen? ⟨w.heap.size,2,none⟩=false/\W'.frozen? ⟨w.heap.size,3,none⟩=false)/\Hid (zas W' w.heap.size zbm (.slice none 0 0)/\w.grownBy W' none) :=
 zpD (h.2.out.1.grown hg) (zaa h.2.out.2 hg)
def zrj {w W:World}{n:zaj}{v:Value}(h:Place w W w.heap.size) :
  zas ((((W.setCell ⟨w.heap.size,0,none⟩ (.int .i64 n.kind)).setCell ⟨w.heap.size,1,none⟩ (.int .i64 n.start)).setCell ⟨w.heap.size,2,none⟩ (.string n.lead)).setCell ⟨w.heap.size,3,none⟩ v) w.heap.size n v /\
  w.grownBy ((((W.setCell ⟨w.heap.size,0,none⟩ (.int .i64 n.kind)).setCell ⟨w.heap.size,1,none⟩ (.int .i64 n.start)).setCell ⟨w.heap.size,2,none⟩ (.string n.lead)).setCell ⟨w.heap.size,3,none⟩ v) none /\
  ∀ b,b≠w.heap.size->b<W.heap.size->((((W.setCell ⟨w.heap.size,0,none⟩ (.int .i64 n.kind)).setCell ⟨w.heap.size,1,none⟩ (.int .i64 n.start)).setCell ⟨w.heap.size,2,none⟩ (.string n.lead)).setCell ⟨w.heap.size,3,none⟩ v).heap[b]?=W.heap[b]?:=by
 have g1:=zac W ⟨w.heap.size,0,none⟩ (.int .i64 n.kind);have g2:=zac (W.setCell ⟨w.heap.size,0,none⟩ (.int .i64 n.kind)) ⟨w.heap.size,1,none⟩ (.int .i64 n.start);have g3:=zac ((W.setCell ⟨w.heap.size,0,none⟩ (.int .i64 n.kind)).setCell ⟨w.heap.size,1,none⟩ (.int .i64 n.start)) ⟨w.heap.size,2,none⟩ (.string n.lead);have g4:=zac (((W.setCell ⟨w.heap.size,0,none⟩ (.int .i64 n.kind)).setCell ⟨w.heap.size,1,none⟩ (.int .i64 n.start)).setCell ⟨w.heap.size,2,none⟩ (.string n.lead)) ⟨w.heap.size,3,none⟩ v;have gg:=zaa g1 (zaa g2 (zaa g3 g4));exact⟨h.2.out.1.set,zak (g:=w.heap.size) h.2.out.2 gg (zqab _),fun b hb hl=>gg.block b hl (by simpa using hb)⟩
end Go.Proofs.YtiblmbpfcmcccaaGreatDoor
namespace Go.Proofs
open Go.Shelf
def Tryz.laysSlH10_f68_ren:Go.Shelf.Ren:=⟨fun|10=>116|6=>157|n=>n,fun|22=>64|23=>3|25=>61|3=>3|4=>4|0=>0|n=>n,fun|n=>n⟩
def Tryz.laysSlH10_f68:Go.Proofs.SlLaysH.n10 prog Tryz.laysSlH10_f68_ren := {
 mixed:=by kernel_rfl
 f6:=⟨f157.name,by decide,func157.trans (zqbz some (by kernel_rfl))⟩
 f10:=⟨f116.name,by decide,func116.trans (zqbz some (by kernel_rfl))⟩
 t0:=underlying0
 a0:=isAgg0
 z0:=sizeOf0
 v0:=zeroValue0
 t3:=underlying3
 a3:=isAgg3
 z3:=sizeOf3
 v3:=zeroValue3
 t4:=underlying4
 a4:=isAgg4
 z4:=sizeOf4
 v4:=zeroValue4
 t22:=underlying64
 a22:=isAgg64
 z22:=sizeOf64
 v22:=zeroValue64
 a23:=isAgg3
 z23:=sizeOf3
 t25:=underlying61
 a25:=isAgg61
 z25:=sizeOf61
 v25:=zeroValue61 }
open Go.RowKit Go.Lib Go.Sort in
def Tryz.slices_DeleteFunc {α:Type}[Inhabited α](enc:α->Value)(hO:OneCell enc)(p:α->Bool)(g:Nat)(lb:Array Value)(eg:∀ args w,(callFunc g args).run prog w=.ok (.enter g args) w)(zr:α)(v23:∀ w,(zeroValue 3).run prog w=.ok (enc zr) w)(blk off cap:Nat)(d:Array α)(w:World)(hp:PredAt prog g lb enc p w)(hpo:PredOver prog g lb enc p blk off d.size w)(hH:Holds enc w blk off d)(hsz:d.size<=9223372036854775807)(hcap:d.size<=cap) :
  Calls prog 116 #[.slice (some ⟨blk,off,none⟩) d.size cap,.func (.func g) #[] lb] w fun e w'=>e=.returned (.slice (some ⟨blk,off,none⟩) (d.toList.filter fun x => !p x).length cap)/\∃ q,w'=putRow enc (Sort.ahead w q) blk off ((d.toList.filter fun x => !p x)++List.replicate (d.size-(d.toList.filter fun x => !p x).length) zr).toArray:=AnyE.slices_DeleteFunc Tryz.laysSlH10_f68 enc hO p g lb eg zr v23 blk off cap d w hp hpo hH hsz hcap
def Tryz.laysSlM5_f70_ren:Go.Shelf.Ren:=⟨fun|5=>118|8=>159|7=>158|19=>194|20=>195|10=>185|11=>186|12=>187|13=>188|14=>189|15=>190|16=>191|17=>192|18=>193|30=>218|31=>219|32=>220|33=>221|34=>222|35=>202|40=>233|n=>n,fun|23=>64|25=>3|3=>3|32=>129|22=>64|0=>0|44=>155|46=>158|4=>4|36=>178|35=>177|41=>117|5=>5|9=>9|53=>201|57=>205|63=>207|64=>208|n=>n,fun|n=>n⟩
def Tryz.laysSlM5_f70:Go.Proofs.SlLaysM.n5 prog Tryz.laysSlM5_f70_ren := {
 mixed:=by kernel_rfl
 f5:=⟨f118.name,by decide,func118.trans (zqbz some (by kernel_rfl))⟩
 f7:=⟨f158.name,by decide,func158.trans (zqbz some (by kernel_rfl))⟩
 f8:=func159.trans (zqbz some (by kernel_rfl))
 f10:=⟨f185.name,by decide,func185.trans (zqbz some (by kernel_rfl))⟩
 f11:=⟨f186.name,by decide,func186.trans (zqbz some (by kernel_rfl))⟩
 f12:=⟨f187.name,by decide,func187.trans (zqbz some (by kernel_rfl))⟩
 f13:=⟨f188.name,by decide,func188.trans (zqbz some (by kernel_rfl))⟩
 f14:=⟨f189.name,by decide,func189.trans (zqbz some (by kernel_rfl))⟩
 f15:=⟨f190.name,by decide,func190.trans (zqbz some (by kernel_rfl))⟩
 f16:=⟨f191.name,by decide,func191.trans (zqbz some (by kernel_rfl))⟩
 f17:=⟨f192.name,by decide,func192.trans (zqbz some (by kernel_rfl))⟩
 f18:=⟨f193.name,by decide,func193.trans (zqbz some (by kernel_rfl))⟩
 f19:=func194.trans (zqbz some (by kernel_rfl))
 f20:=func195.trans (zqbz some (by kernel_rfl))
 f30:=⟨f218.name,by decide,func218.trans (zqbz some (by kernel_rfl))⟩
 f31:=func219.trans (zqbz some (by kernel_rfl))
 f32:=func220.trans (zqbz some (by kernel_rfl))
 f33:=⟨f221.name,by decide,func221.trans (zqbz some (by kernel_rfl))⟩
 f34:=⟨f222.name,by decide,func222.trans (zqbz some (by kernel_rfl))⟩
 f35:=⟨f202.name,by decide,func202.trans (zqbz some (by kernel_rfl))⟩
 f40:=⟨f233.name,by decide,func233.trans (zqbz some (by kernel_rfl))⟩
 t0:=underlying0
 a0:=isAgg0
 z0:=sizeOf0
 v0:=zeroValue0
 t3:=underlying3
 a3:=isAgg3
 z3:=sizeOf3
 v3:=zeroValue3
 t4:=underlying4
 a4:=isAgg4
 z4:=sizeOf4
 v4:=zeroValue4
 t5:=underlying5
 a5:=isAgg5
 z5:=sizeOf5
 v5:=zeroValue5
 t9:=underlying9
 a9:=isAgg9
 z9:=sizeOf9
 v9:=zeroValue9
 t22:=underlying64
 a22:=isAgg64
 z22:=sizeOf64
 v22:=zeroValue64
 t23:=underlying64
 a23:=isAgg64
 z23:=sizeOf64
 v23:=zeroValue64
 t25:=underlying3
 a25:=isAgg3
 z25:=sizeOf3
 v25:=zeroValue3
 t32:=underlying129
 a32:=isAgg129
 z32:=sizeOf129
 v32:=zeroValue129
 t35:=underlying177
 a35:=isAgg177
 z35:=sizeOf177
 v35:=zeroValue177
 t36:=underlying178
 a36:=isAgg178
 z36:=sizeOf178
 v36:=zeroValue178
 t41:=underlying117
 a41:=isAgg117
 z41:=sizeOf117
 v41:=zeroValue117
 t44:=underlying155
 a44:=isAgg155
 z44:=sizeOf155
 v44:=zeroValue155
 t46:=underlying158
 a46:=isAgg158
 z46:=sizeOf158
 v46:=zeroValue158
 t53:=underlying201
 a53:=isAgg201
 z53:=sizeOf201
 v53:=zeroValue201
 t57:=underlying205
 a57:=isAgg205
 z57:=sizeOf205
 v57:=zeroValue205
 t63:=underlying207
 a63:=isAgg207
 z63:=sizeOf207
 v63:=zeroValue207
 t64:=underlying208
 a64:=isAgg208
 z64:=sizeOf208
 v64:=zeroValue208 }
open Go.Sort Go.RowKit in
def Tryz.slices_Sort_int (blk off cap:Nat)(zs:List Int)(w:World)(hH:Holds (Value.int .i64) w blk off zs.toArray)(hblk:blk<w.heap.size)(hsz:zs.length<4611686018427387904) :
  Calls prog 118 #[.slice (some ⟨blk,off,none⟩) zs.length cap] w fun e w' =>
   e=.returned (.tuple #[])/\∃ n os,w'=grow (putRow (Value.int .i64) (Sort.ahead w n) blk off (zs.mergeSort fun x y=>decide (x<=y)).toArray) os:=AnyM.slices_Sort_int Tryz.laysSlM5_f70 blk off cap zs w hH hblk hsz
end Go.Proofs
namespace Go.Proofs.YtiblmbpfcmcccaaGreatDoor
open Go.Proofs.Tryz
open Go.RowKit
def bv (zs:List Bool):List Value:=zs.map Value.bool
def zcG (w:World)(g:Nat)(l:List Value):Prop:=w.heap[g]?=some (.cells l.toArray 4 (0,0))
def zcG.cell {w:World}{g:Nat}{l:List Value}(h:zcG w g l)(k:Nat):w.cell? ⟨g,k,none⟩=l[k]?:=by
 rw[zhF h];simp
def zcG.free {w:World}{g:Nat}{l:List Value}(h:zcG w g l)(k:Nat):w.frozen? ⟨g,k,none⟩=false:=zqbx w g k _ _ h
def zcG.set {w:World}{g:Nat}{l:List Value}(h:zcG w g l)(k:Nat)(u:Value):zcG (w.setCell ⟨g,k,none⟩ u) g (l.set k u):=by
 unfold zcG;exact zQbW
def zcG.lt {w:World}{g:Nat}{l:List Value}(h:zcG w g l):g<w.heap.size:=lt_of_block h
def zcG.of_full {w:World}{B g n:Nat}{l:List Value}(h:w.ownsRow B 4 1 (.slice (some ⟨g,0,none⟩) n n) n l):zcG w g l:=by
 rcases h.2 with⟨h',_⟩|⟨g',cap',cur,h',hb,hg,_,_,hs,ht⟩;simp at h';simp only[Value.slice.injEq,Option.some.injEq,Addr.mk.injEq,and_true,true_and] at h';obtain⟨rfl,rfl⟩:=h';rw[zqaf (by rw[zqbs,hs];exact zqab _)] at ht;subst ht;unfold zcG;rw[hg]
def znq (n:Nat):(madeCells #[Value.bool false] n).toList=bv (List.replicate n false):=by
 rw[toList_madeCells_one];simp[bv]
def zwG (zs:List Bool)(k:Nat)(b:Bool)(h:zs[k]?=some b):(bv zs)[k]?=some (.bool b):=by
 unfold bv;rw[zqaj,h];rfl
def zLT (zs:List Bool)(i:Nat)(b:Bool):(bv zs).set i (.bool b)=bv (zs.set i b):=by simp[bv,List.map_set]
open Go.RowKit
def QAt (w:World)(B:Nat)(v:Value)(q:List Nat):Prop :=
 ∃ a cap,v=.slice a q.length cap/\((q=[]/\cap=0)∨∃ g off cur,a=some ⟨g,off,none⟩/\B<=g/\w.heap[g]?=some (.cells cur 3 (0,0))/\q.length<=cap/\off+cap<=cur.size /\
  ∀ (i:Nat) (x:Nat),q[i]?=some x->cur[off+i]?=some (.int .i64 (x:Int)))
def QAt.nil (w:World)(B:Nat):QAt w B (.slice none 0 0) []:=⟨none,0,rfl,.inl ⟨rfl,rfl⟩⟩
def QAt.lt {w:World}{g:Nat}{c:Array Value}{t:TypeId}{f:Nat×Nat}(h:w.heap[g]?=some (.cells c t f)):g<w.heap.size:=(zqad.1 h).1
def QAt.grown {w w':World}{B:Nat}{v:Value}{q:List Nat}{r:Option Nat}(h:QAt w B v q)(hg:w.grownBy w' r)(hr:∀ k,r=some k->k<B):QAt w' B v q:=by
 obtain⟨a,cap,hv,h|⟨g,off,cur,ha,hB,hh,hc,ho,hx⟩⟩:=h;exact⟨a,cap,hv,.inl h⟩;exact⟨a,cap,hv,.inr ⟨g,off,cur,ha,hB,(hg.block g (QAt.lt hh) (fun e=>by have:=hr g e.symm;omega)).trans hh,hc,ho,hx⟩⟩
def zrk (z:Value)(k:Nat):(Builtin.zeroCells #[z] k).size=k:=by
 unfold Builtin.zeroCells;simp
def QAt.push {w:World}{B:Nat}{v:Value}{q:List Nat}(h:QAt w B v q)(hB:B<=w.heap.size)(ty:TypeId)(ad:Addr)(c x:Nat)(hx:w.cell? ad=some (.int .i64 (x:Int)))(hl:q.length<=1000000) :
  ∃ v' w',(Builtin.append_ #[64,64] ty #[v,.slice (some ad) 1 c]).run prog w=.ok v' w'/\QAt w' B v' (q++[x])/\Below B w w':=by
 obtain⟨i0,hi,hz0,hz1,hz2⟩:=zdo (t:=3) (z:=.int .i64 0) (n:=1) (b:=8) (by kernel_rfl)
 have hsrc:Src prog i0.size 64 (.slice (some ad) 1 c) 1 [.int .i64 (x:Int)] w :=
  Src.ofSlice w underlying64 ad 1 c [.int .i64 (x:Int)] (by rw[hz1];rfl) (fun j u hu=>by
   match j,hu with
   | 0,hu=>simp at hu;subst hu;exact hx
   | j+1,hu=>simp at hu) (by simp[Value.oneCell'])
 have grow:∀ (base:Option Addr) (cap:Nat) (olds:List Value),v=.slice base q.length cap->cap<q.length+1->olds=q.map (fun y:Nat=>Value.int .i64 (y:Int)) ->
   (Builtin.firstCells i0.size q.length (.slice base q.length cap)).run prog w.drew=.ok olds.toArray w.drew ->
   ∃ v' w',(Builtin.append_ #[64,64] ty #[v,.slice (some ad) 1 c]).run prog w=.ok v' w'/\QAt w' B v' (q++[x])/\Below B w w':=by
  intro base cap olds hv hcap hol hold;have hcap2:=growslice_fits (need:=q.length+1) (old:=cap) (bytes:=8) (by omega) (by omega);have hrun:=run_append_grow_src w 64 64 ty 3 i0 _ underlying64 hi hz0 base q.length cap olds hold _ 1 _ hsrc (by omega) (by omega) (by rw[hz2];exact hcap2);rw[hv];refine⟨_,_,hrun,⟨_,_,by rw[zqag,zqbq],.inr ⟨w.heap.size,0,_,rfl,hB,(by show(w.drew.heap.push _)[w.heap.size]?=_;exact zqaz),?_,?_,?_⟩⟩,((Below.refl B w).grown (zaf w none) hB (by simp)).alloc hB _⟩;rw[zqag,zqbq];exact grownCap_ge _ _ _ _
  ·have h1:=grownCap_ge w (q.length+1) cap 3
   rw[Array.size_append,List.size_toArray,zqag,hol,zqbn,show(Value.int IntKind.i64 0).cells=#[.int .i64 0] from rfl,zrk];simp;omega
  intro i y hy;rw[zqat];have hlt:=(zqae.1 hy).1;rw[zqag,zqbq] at hlt;rw[Array.getElem?_append_left (by rw[List.size_toArray,zqag,hol,zqbn,zqbq];exact hlt)];rw[zqap,hol,show[Value.int IntKind.i64 (x:Int)]=[x].map (fun y:Nat=>Value.int .i64 (y:Int)) from rfl,<- List.map_append,zqaj,hy];rfl
 obtain⟨a,cap,hv,⟨rfl,rfl⟩|⟨g,off,cur,rfl,hgB,hh,hc,ho,hq⟩⟩:=h
 ·refine grow a 0 [] hv (by simp) rfl ?_
  cases a with
  | none=>exact run_firstCells_none w.drew _ _ _ _
  | some b=>exact run_firstCells_some w.drew i0.size 0 b _ _ [] (by simp) (fun j u hu=>by simp at hu)
 by_cases hroom:q.length+1<=cap
 ·have hk:off+q.length<cur.size:=by omega
  have hrun:=run_append_room_src w 64 64 ty 3 i0 underlying64 hi g off q.length cap _ 1 _ hsrc hroom
   (fun j hj=>by simp at hj;subst hj;rw[hz1,Nat.mul_one,Nat.add_zero,zqbw w g _ _ _ (0,0) hh,zqbv hk];rfl)
   (fun j hj=>zqbx w g _ _ _ hh)
  rw[hv];rw[hz1,Nat.mul_one] at hrun;refine⟨_,_,hrun,⟨_,cap,by rw[zqag,zqbq],.inr ⟨g,off,cur.setIfInBounds (off+q.length) (.int .i64 (x:Int)),rfl,hgB,?_,by rw[zqag,zqbq];exact hroom,by simpa using ho,fun i y hy=>?_⟩⟩,?_⟩
  ·have:=heap_setCell_same w g (off+q.length) _ _ (.int .i64 (x:Int)) hh
   rw[World.setCells,World.setCells,this]
  ·by_cases e:i=q.length
   ·subst e
    rw[zqaq (zqab _),zqbr] at hy;simp at hy;subst hy;rw[Array.getElem?_setIfInBounds_self_of_lt hk]
   have hlt:=(zqae.1 hy).1;rw[zqag,zqbq] at hlt;rw[zqal (by omega)] at hy;rw[Array.getElem?_setIfInBounds_ne (by omega)];exact hq i y hy
  exact(Below.refl B w).grown (zac w ⟨g,off+q.length,none⟩ _) hB (fun k e=>by cases e;exact hgB)
 refine grow _ cap _ hv (by omega) rfl (run_firstCells_some w.drew i0.size q.length _ _ _ _ (by rw[hz1];simp) (fun j u hu=>?_));rw[zqaj] at hu;obtain⟨y,hy,rfl⟩:=Option.map_eq_some_iff.1 hu;have hlt:=(zqae.1 hy).1;have h1:Addr.add ⟨g,off,none⟩ j=⟨g,off+j,none⟩:=by unfold Addr.add;split <;> simp_all
 rw[h1];show w.cell? _=_;rw[zqbw w g _ _ _ (0,0) hh];exact hq j y hy
open Go.RowKit
def zoS {w:World}{B:Nat}{v:Value}{q:List Nat}(h:QAt w B v q)(hB:B<=w.heap.size){ops:Array Oper}{rest:List Oper}{o:Oper}{a:Act}{Q:Exit->Act->World->Prop}(hgd:o.guard=none)(s x:Operand)
  (ho:o.op=.call { callee:=.builtin .append,args:=#[s,x],argTypes:=#[64,64] }) (hs:a.eval s=v) (ad:Addr) (c y:Nat) (hx:a.eval x=.slice (some ad) 1 c) (hc:w.cell? ad=some (.int .i64 (y:Int))) (hl:q.length<=1000000)
  (k:∀ v' w',QAt w' B v' (q++[y])->Below B w w'->wpList prog ops Q rest (a.put o.dst v') w'):wpList prog ops Q (o::rest) a w:=by
 refine wpList_plain hgd fun K hK=>?_;obtain⟨v',w',hrun,h1,h2⟩:=h.push hB o.type ad c y hc hl;unfold Oper.wp;simp[execOp,ho,resolve,invoke,builtin,hs,hx,hrun,Result.andThen];exact hK _ _ (k v' w' h1 h2)
def ztO (w:World)(y:Nat):(w.alloc (.cells #[.int .i64 (y:Int)] 3)).cell? ⟨w.heap.size,0,none⟩=some (.int .i64 (y:Int)):=by
 have h:(w.alloc (.cells #[.int .i64 (y:Int)] 3)).heap[w.heap.size]?=some (.cells #[.int .i64 (y:Int)] 3 (0,0)):=by
  exact zQaV
 rw[zqbw _ w.heap.size 0 _ _ (0,0) h];rfl
open Go.RowKit
section
variable {k:Int}
def zky (k:Int)(g o n c:Nat):Value:=.agg #[.int .i64 k,.string (zag k),.string (zal k),.slice (some ⟨g,o,none⟩) n c]
def putF (hk:zad k)(A F:Nat->El k)(j:Nat):El k:=zbk (srE k hk) (fun j=>A (j+1)) (fun _=>A 0) (fun _=>F) 1 j
def zKF (hk:zad k)(m:Nat)(A F:Nat->El k):Prop:=zeh (srE k hk) zam 1 m (fun j=>A (j+1)) (fun _=>A 0) (fun _=>F)
def zar.tail {w:World}{g o n:Nat}{L:Nat->Value}(h:zar w g o (n+1) L):zar w g (o+1) n (fun j=>L (j+1)) :=
 ⟨h.1,fun j hj=>by rw[Nat.add_assoc,Nat.add_comm 1 j];exact h.2 (j+1) (by omega)⟩
def zar.head {w:World}{g o n m:Nat}{L:Nat->Value}(h:zar w g o n L)(hm:m<=n):zar w g o m L:=⟨h.1,fun j hj=>h.2 j (by omega)⟩
def zsL (w:World)(u:Value)(T:TypeId):zar (w.alloc (.cells #[u] T)) w.heap.size 0 1 (fun _=>u):=by
 refine⟨by simp,fun j hj=>?_⟩;obtain rfl:j=0:=by omega
 exact zan w #[u] T rfl
def zym (hk:zad k)(m g0 off c0 gs os cs:Nat)(A F:Nat->El k)(w:World)(hm0:1<=m)(hm:m<=10000)(hA:zar w g0 off (m+1) (txs A))(hc1:m+1<=c0)(hc2:c0<=maxLen)
  (hF:zar w gs os m (txs F)) (hs1:m<=cs) (hs2:cs<=maxLen) (hAf:∀ j,j<m+1->zam (A j)) (hFf:∀ j,j<m->zam (F j)) :
  Calls prog 101 #[zky k gs os m cs,.slice (some ⟨g0,off,none⟩) (m+1) c0] w (zbQ (zKF hk m A F) (fun v w'=>∃ g o c,v=.slice (some ⟨g,o,none⟩) m c/\m<=c/\c<=maxLen/\(g=g0∨w.heap.size<=g)/\zar w' g o m (txs (putF hk A F))) w):=by
 have hW:w.grownBy (w.alloc (.cells #[.int .i64 k,.string (zag k),.string (zal k),.slice (some ⟨gs,os,none⟩) m cs] 119)) none:=zGA _ _ none;have x0:=zan w #[.int .i64 k,.string (zag k),.string (zal k),.slice (some ⟨gs,os,none⟩) m cs] 119 (j:=0) rfl;have x1:=zan w #[.int .i64 k,.string (zag k),.string (zal k),.slice (some ⟨gs,os,none⟩) m cs] 119 (j:=1) rfl;have x2:=zan w #[.int .i64 k,.string (zag k),.string (zal k),.slice (some ⟨gs,os,none⟩) m cs] 119 (j:=2) rfl;have x3:=zan w #[.int .i64 k,.string (zag k),.string (zal k),.slice (some ⟨gs,os,none⟩) m cs] 119 (j:=3) rfl
 have hsum:=fun(Z:World) (hZ:w.grownBy Z none) (gz:Nat) (hz:zar Z gz 0 1 (fun _=>.slice (some ⟨gs,os,none⟩) m cs)) =>
  zpA hk 1 m g0 (off+1) (c0-1) (fun j=>A (j+1)) (fun _=>A 0) (fun _=>F) (.slice (some ⟨g0,off,none⟩) 1 c0) (.slice (some ⟨gz,0,none⟩) 1 1) (fun _=>.slice (some ⟨gs,os,none⟩) m cs) Z hm (by omega)
   ((hA.grown hZ).tail) (by omega) (by omega) (((hA.grown hZ).head (m:=1) (by omega)).row (by omega) hc2 |> fun h=>by
     obtain⟨Ad,cap,e,h1,h2,h3⟩:=h;refine⟨Ad,cap,e,h1,h2,fun j hj=>?_⟩;obtain rfl:j=0:=by omega
     exact h3 0 hj) (fun j hj=>hAf 0 (by omega)) (fun j hj=>hAf (j+1) (by omega)) (hz.row (zqab _) (by unfold maxLen;omega)) (fun i hi=>(hF.grown hZ).row hs1 hs2) (fun i hi j hj=>hFf j hj)
 have HS:=zHd hsum;have HX:=zHd (zAI x0 (zAI x1 (zAI x2 (zAI x3 hW))));have i1:¬ (c0:Int)<1:=by omega
 have i2:(1:Int)<=(m:Int)+1:=by omega
 have i3:¬ c0=1:=by omega
 have i5:(1:Int)<=(c0:Int):=by omega
 have i6:1<=c0:=by omega
 have i7:(1:Int)<=((m+1:Nat):Int):=by omega
 have i8:((m+1:Nat):Int)<=(c0:Int):=by omega
 clear hsum x0 x1 x2 x3 hA hF hAf hFf hs1 hs2;unfold zky zbl at *;go_enter func101,ntmps101;go_upto_region 1 with(fail);obtain⟨x0,x1,x2,x3,hW⟩:=HX.out;have hbs:w.heap.size<(w.alloc (.cells #[.int .i64 k,.string (zag k),.string (zal k),.slice (some ⟨gs,os,none⟩) m cs] 119)).heap.size:=by simp
 generalize w.alloc (.cells #[.int .i64 k,.string (zag k),.string (zal k),.slice (some ⟨gs,os,none⟩) m cs] 119)=W at *;have d0:W.drew.cell? ⟨w.heap.size,0,none⟩=some (.int .i64 k):=x0;have d1:W.drew.cell? ⟨w.heap.size,1,none⟩=some (.string (zag k)):=x1;have d2:W.drew.cell? ⟨w.heap.size,2,none⟩=some (.string (zal k)):=x2;have d3:W.drew.cell? ⟨w.heap.size,3,none⟩=some (.slice (some ⟨gs,os,none⟩) m cs):=x3;have hgz:w.grownBy ((W.alloc (.cells #[.slice (some ⟨gs,os,none⟩) m cs] 27)).drew) none:=zaa (zaa hW (zGA _ _ none)) (zaf _ none);have zC:=HS.out ((W.alloc (.cells #[.slice (some ⟨gs,os,none⟩) m cs] 27)).drew) hgz W.heap.size ((zsL W (.slice (some ⟨gs,os,none⟩) m cs) 27).grown (zaf _ none));have hga:W.grownBy ((W.alloc (.cells #[.slice (some ⟨gs,os,none⟩) m cs] 27)).drew) none:=zaa (zGA _ _ none) (zaf _ none);have z0:=hga.cell x0 (by simp);have z1:=hga.cell x1 (by simp);have z2:=hga.cell x2 (by simp);have z3:=hga.cell x3 (by simp);have HC:=zHd zC;have HG:=zHd hgz;clear x0 x1 x2 x3 hW zC hgz hga HS HX
 go_region_with (go_at_call 76;refine HC.out.mono ?_;rintro e w6 (⟨hp,v,rfl,⟨g,o,c,rfl,hc3,hc4,hgg,hrw⟩,hg6⟩|⟨hn,rfl,hg6⟩);rotate_left 1;(exact⟨rfl,.inr ⟨hn,rfl,zaa HG.out hg6⟩⟩);have HP6:=zHd (zAI hp (zAI hc3 (zAI hc4 (zAI hgg (zAI hrw hg6)))));clear hp hc3 hc4 hgg hrw hg6)
 all_goals
  go_wp2;go_ret;obtain⟨hp,hc3,hc4,hgg,hrw,hg6⟩:=HP6.out;refine .inl ⟨hp,_,rfl,⟨g,o,c,rfl,hc3,hc4,?_,hrw⟩,zaa HG.out hg6⟩;rcases hgg with h|h
  exact .inl h;exact .inr (zqam HG.out.size h)
end
open Go.RowKit
section
variable {k:Int}
def zsM (hk:zad k)(A:Nat->El k)(j:Nat):El k:=(srE k hk).mul ((srE k hk).star (A 0)) (A (j+1))
def zzD (hk:zad k)(m:Nat)(A:Nat->El k):Prop:=zam ((srE k hk).star (A 0))/\∀ j,j<m->zam (zsM hk A j)
def zsN:Obj:=.cells #[.int .i64 0,.string ⟨#[]⟩,.string ⟨#[]⟩,.slice none 0 0] 119
def zwH (hk:zad k)(m g0 off c0:Nat)(A:Nat->El k)(w:World)(hm0:1<=m)(hm:m<=10000)(hA:zar w g0 off (m+1) (txs A))(hc1:m+1<=c0)(hc2:c0<=maxLen)(hAf:∀ j,j<m+1->zam (A j)) :
  Calls prog 100 #[zbl k,.slice (some ⟨g0,off,none⟩) (m+1) c0] w (zbQ (zzD hk m A) (fun v w'=>∃ g,v=zky k g 0 m m/\w.heap.size<=g/\zar w' g 0 m (txs (zsM hk A))) w):=by
 have hmf := @zMF prog;have hst:=fun w'=>zEt hk (hAf 0 (by omega)) w'
 have hmap:=fun(hs:zam ((srE k hk).star (A 0))) (w5:World) (h5:w.grownBy w5 none)=>zxT 148 zrf #[zpu k (tx ((srE k hk).star (A 0)))] #[] m (txs (fun j=>A (j+1))) (fun j=>zam (zsM hk A j)) (fun j=>tx (zsM hk A j)) (.slice (some ⟨g0,off+1,none⟩) m (c0-1)) w5 hm
  ((hA.grown h5).tail.row (by omega) (by omega)) (fun i hi w' _=>znf hk hs (hAf (i+1) (by omega)) w')
 have hW:w.grownBy ((w.alloc (.cells #[.int .i64 k,.string (zag k),.string (zal k)] 57)).alloc zsN) none:=zaa (zGA _ _ none) (zGA _ _ none);have hW1:(w.alloc (.cells #[.int .i64 k,.string (zag k),.string (zal k)] 57)).grownBy ((w.alloc (.cells #[.int .i64 k,.string (zag k),.string (zal k)] 57)).alloc zsN) none:=zGA _ _ none;have x0:=hW1.cell (zan w #[.int .i64 k,.string (zag k),.string (zal k)] 57 (j:=0) rfl) (by simp);have x1:=hW1.cell (zan w #[.int .i64 k,.string (zag k),.string (zal k)] 57 (j:=1) rfl) (by simp);have x2:=hW1.cell (zan w #[.int .i64 k,.string (zag k),.string (zal k)] 57 (j:=2) rfl) (by simp)
 have xr:((w.alloc (.cells #[.int .i64 k,.string (zag k),.string (zal k)] 57)).alloc zsN).heap[w.heap.size+1]?=some zsN:=by
  have h:=zaG (w.alloc (.cells #[.int .i64 k,.string (zag k),.string (zal k)] 57)) zsN;exact zQaQ
 have a0:w.cell? ⟨g0,off,none⟩=some (.string (tx (A 0))):=hA.2 0 (by omega);have xa:=hW.cell a0 (by simp);have i5:(1:Int)<=(c0:Int):=by omega
 have i6:1<=c0:=by omega
 have i7:(1:Int)<=((m+1:Nat):Int):=by omega
 have i8:((m+1:Nat):Int)<=(c0:Int):=by omega
 have i3:¬ c0=1:=by omega
 have i9:(0:Int)<((m+1:Nat):Int):=by omega
 have j1:(1:Int)<=(m:Int)+1:=by omega
 have j2:(m:Int)+1<=(c0:Int):=by omega
 have j3:(0:Int)<=(m:Int):=by omega
 have j4:m+1<=c0:=by omega
 have j5:1<=m+1:=by omega
 have j6:(0:Int)<(m:Int)+1:=by omega
 have hne1:¬ w.heap.size+1=g0:=by have:=hA.1;omega
 have hne2:¬ g0=w.heap.size+1:=by have:=hA.1;omega
 have HST:=zHd hst;have HM:=zHd hmap;have HX:=zHd (zAI x0 (zAI x1 (zAI x2 (zAI xr (zAI xa hW)))));clear hst hmap x0 x1 x2 xr xa hW hW1 a0 hA hAf;unfold zbl at *;go_enter func100,ntmps100;go_upto_region 1 with(fail);obtain⟨x0,x1,x2,xr,xa,hW⟩:=HX.out;unfold zsN at x0 x1 x2 xr xa hW;generalize ((w.alloc (.cells #[.int .i64 k,.string (zag k),.string (zal k)] 57)).alloc (.cells #[.int .i64 0,.string ⟨#[]⟩,.string ⟨#[]⟩,.slice none 0 0] 119))=W at *;have d0:W.drew.cell? ⟨w.heap.size,0,none⟩=some (.int .i64 k):=x0;have d1:W.drew.cell? ⟨w.heap.size,1,none⟩=some (.string (zag k)):=x1;have d2:W.drew.cell? ⟨w.heap.size,2,none⟩=some (.string (zal k)):=x2;have da:W.drew.cell? ⟨g0,off,none⟩=some (.string (tx (A 0))):=xa;have hWd:w.grownBy W.drew none:=zaa hW (zaf W none);have HG:=zHd hWd;have HXR:=zHd (show W.drew.heap[w.heap.size+1]?=_ from xr);clear x0 x1 x2 xr xa hW HX hWd
 go_region_held2 (fun W'=>W'.cell? ⟨w.heap.size,0,none⟩=some (.int .i64 k)/\W'.cell? ⟨w.heap.size,1,none⟩=some (.string (zag k))/\W'.cell? ⟨w.heap.size,2,none⟩=some (.string (zal k))/\W'.cell? ⟨g0,off,none⟩=some (.string (tx (A 0)))) (go_keep)
  (first
  | (go_at_call 147;refine(HST.out _).mono ?_;clear HST;rintro e w5 (⟨hp,rfl,hg5⟩|⟨hn,rfl,hg5⟩);rotate_left 1;(exact⟨rfl,.inr ⟨fun h=>hn h.1,rfl,zaa HG.out hg5⟩⟩);have s0:=hg5.cell d0 (by simp);have s1:=hg5.cell d1 (by simp);have s2:=hg5.cell d2 (by simp);have sa:=hg5.cell da (by simp);have H5:=zHd (zAI hp hg5);clear hg5 hp)
  | (go_at_call 146;refine(HM.out H5.out.1 w5 (zaa HG.out H5.out.2)).mono ?_;clear HM;rintro e w6 (⟨hp,v,rfl,⟨rfl,hr6⟩,hg6⟩|⟨hn,rfl,hg6⟩);rotate_left 1;(exact⟨rfl,.inr ⟨fun h=>hn h.2,rfl,zaa (zaa HG.out H5.out.2) hg6⟩⟩);have p0:=hg6.cell s0 (by simp);have p1:=hg6.cell s1 (by simp);have p2:=hg6.cell s2 (by simp);have pa:=hg6.cell sa (by simp);have hx6:=(hg6.block _ (by have:=(zqad.1 HXR.out).1;have:=H5.out.2.size;omega) (by simp)).trans ((H5.out.2.block _ (zqad.1 HXR.out).1 (by simp)).trans HXR.out);have q0:=zqbw w6 _ 0 _ _ (0,0) hx6;have q1:=zqbw w6 _ 1 _ _ (0,0) hx6;have q2:=zqbw w6 _ 2 _ _ (0,0) hx6;have q3:=zqbw w6 _ 3 _ _ (0,0) hx6;have z0:=zqbx w6 _ 0 _ _ hx6;have z1:=zqbx w6 _ 1 _ _ hx6;have z2:=zqbx w6 _ 2 _ _ hx6;have z3:=zqbx w6 _ 3 _ _ hx6;have H6:=zHd (zAI hp (zAI hr6 (zAI hg6 hx6)));clear hp hr6 hg6 hx6))
 all_goals
  go_wp2;obtain⟨hp,hr6,hg6,hx6⟩:=H6.out;have hgg:=zaa (zaa HG.out H5.out.2) hg6;refine zqby (v:=zky k w5.heap.size 0 m m) ?_ rfl (.inl ⟨⟨H5.out.1,hp⟩,_,rfl,⟨w5.heap.size,rfl,zqam HG.out.size H5.out.2.size,?_⟩,?_⟩)
  ·simp[results,results100,go_sem,q0,q1,q2,q3,zky]
  ·have hne:w5.heap.size≠w.heap.size+1:=by have:=(zqad.1 HXR.out).1;have:=H5.out.2.size;omega
   exact(((hr6.grownB (zac _ _ _) hne).grownB (zac _ _ _) hne).grownB (zac _ _ _) hne).grownB (zac _ _ _) hne
  exact zak (zak (zak (zak hgg (zac _ _ _) (by show w.heap.size<=w.heap.size+1;omega)) (zac _ _ _) (by show w.heap.size<=w.heap.size+1;omega)) (zac _ _ _) (by show w.heap.size<=w.heap.size+1;omega)) (zac _ _ _) (by show w.heap.size<=w.heap.size+1;omega)
end
open Go.RowKit
def zgg (w:World)(v:Value)(n:Nat)(zs:List Value)(g:Nat):Prop:=(n=0/\v=.slice none 0 0/\zs=[])∨(0<n/\∃ c,v=.slice (some ⟨g,0,none⟩) n c/\zht w g n c zs)
def zyn (n g vb:Nat)(v:Value)(zs:List Value)(u:Value)(TB:TypeId)(w:World)(hn:n<=10000)(hr:zgg w v n zs g)(hne:0<n->vb≠g)(hv:w.heap[vb]?=some (.cells #[u] TB (0,0)))(h1:u.oneCell'=true)(hz:∀ z∈zs,z.oneCell'=true) :
  Calls prog 102 #[v,.int .i64 0,.slice (some ⟨vb,0,none⟩) 1 1] w (zoq n g u zs w):=by
 have hvc:w.cell? ⟨vb,0,none⟩=some u:=zqbw w vb 0 _ _ (0,0) hv;rcases hr with⟨rfl,rfl,rfl⟩|⟨h0,c,rfl,zO⟩
 ·refine(zyl vb u w hvc h1).mono (fun e w' h=>?_)
  obtain⟨g',c',h2,h3,⟨_,h4,_⟩|h4⟩:=h;omega;exact⟨g',c',h2,h3,.inr h4⟩
 have:=zO.le
 by_cases hc:n+1<=c
 exact zws n c g vb zs u TB w h0 hn hc zO (hne h0) hv h1 hz;exact zwt n c g vb zs u w h0 hn (by omega) zO hvc (zqad.1 hv).1 h1 hz
section
variable {k:Int}
def zsO (B n m:Nat)(F:Nat->Nat->El k)(v:Value)(w':World):Prop :=
 ∃ zs g,zgg w' v n zs g/\(0<n->B<=g)/\∀ i,i<n->∃ gi o ci,zs.getD i (.slice none 0 0)=.slice (some ⟨gi,o,none⟩) m ci/\m<=ci/\ci<=maxLen/\gi≠g/\zar w' gi o m (txs (F i))
def zgg.len {w:World}{v:Value}{n:Nat}{zs:List Value}{g:Nat}(h:zgg w v n zs g):zs.length=n:=by
 rcases h with⟨rfl,_,rfl⟩|⟨_,c,_,ho⟩;rfl;exact ho.len
def zgg.grown {w w':World}{v:Value}{n:Nat}{zs:List Value}{g:Nat}(h:zgg w v n zs g)(hg:w.grownBy w' none):zgg w' v n zs g:=by
 rcases h with h|⟨h0,c,e,ho⟩;exact .inl h;exact .inr ⟨h0,c,e,ho.grown hg⟩
def zgg.lt {w:World}{v:Value}{n:Nat}{zs:List Value}{g:Nat}(h:zgg w v n zs g)(hn:0<n):g<w.heap.size:=by
 rcases h with⟨rfl,_,rfl⟩|⟨_,c,_,ho⟩;omega;exact ho.lt
def zgg.rowR {w:World}{v:Value}{n:Nat}{zs:List Value}{g:Nat}(h:zgg w v n zs g):zaK w v n (fun j=>zs.getD j (.slice none 0 0)):=by
 rcases h with⟨rfl,rfl,rfl⟩|⟨h0,c,rfl,ho⟩;exact⟨none,0,rfl,zqab _,by unfold maxLen;omega,fun j hj=>absurd hj (by omega)⟩;exact ho.rowAt.row ho.le ho.max
def zgg.shape {w:World}{v:Value}{n:Nat}{zs:List Value}{g:Nat}(h:zgg w v n zs g):∃ R cr,v=.slice R n cr:=by
 rcases h with⟨rfl,rfl,rfl⟩|⟨h0,c,rfl,ho⟩;exact⟨_,_,rfl⟩;exact⟨_,_,rfl⟩
def zsP:Enters 101:=enters_of func101 (by kernel_rfl) rfl
def zLU (w:World)(g:Nat)(k:Int):Prop:=w.cell? ⟨g,0,none⟩=some (.int .i64 k)/\w.cell? ⟨g,1,none⟩=some (.string (zag k))/\w.cell? ⟨g,2,none⟩=some (.string (zal k))
def zBx (w:World)(k:Int):zLU (w.alloc (.cells #[.int .i64 k,.string (zag k),.string (zal k)] 57)) w.heap.size k:=⟨zan w _ _ rfl,zan w _ _ rfl,zan w _ _ rfl⟩
def zki {w:World}{g o:Nat}{u v:Value}{ad:Addr}(hb:ad.block≠g)(h:w.cell? ad=some v):(w.setCell ⟨g,o,none⟩ u).cell? ad=some v:=(zac w ⟨g,o,none⟩ u).cell h (by simpa using hb)
def zer {w:World}{g:Nat}{u0 u1 u2 u3 v:Value}{ad:Addr}(hb:ad.block≠g)(h:w.cell? ad=some v):((((w.setCell ⟨g,0,none⟩ u0).setCell ⟨g,1,none⟩ u1).setCell ⟨g,2,none⟩ u2).setCell ⟨g,3,none⟩ u3).cell? ad=some v :=
 zki hb (zki hb (zki hb (zki hb h)))
def ztP {w:World}{g:Nat}{u0 u1 u2 u3:Value}{c:Array Value}{T:TypeId}(hc:c.size=4)(h:w.heap[g]?=some (.cells c T (0,0))):((((w.setCell ⟨g,0,none⟩ u0).setCell ⟨g,1,none⟩ u1).setCell ⟨g,2,none⟩ u2).setCell ⟨g,3,none⟩ u3).heap[g]?=some (.cells #[u0,u1,u2,u3] T (0,0)):=by
 rw[heap_setCell_same _ g 3 _ _ u3 (heap_setCell_same _ g 2 _ _ u2 (heap_setCell_same _ g 1 _ _ u1 (heap_setCell_same w g 0 _ _ u0 h)))];congr 2;apply Array.toList_inj.1;simp only[Array.toList_setIfInBounds];obtain⟨l⟩:=c
 match l,hc with
 | [a,b,c,d],_=>rfl
def zkz (w:World)(g:Nat)(u0 u1 u2 u3:Value):w.grownBy ((((w.setCell ⟨g,0,none⟩ u0).setCell ⟨g,1,none⟩ u1).setCell ⟨g,2,none⟩ u2).setCell ⟨g,3,none⟩ u3) (some g) :=
 zaa (zaa (zaa (zac _ _ _) (zac _ _ _)) (zac _ _ _)) (zac _ _ _)
def znr (hk:zad k){m:Nat}:∀ {n:Nat} {A:Nat->Nat->El k},zfB (srE k hk) zam n m A->∀ i,i<n->∀ j,j<m->zam (zeY (srE k hk) n A i j)
 | 0,_,_,i,hi,_,_=>absurd hi (by omega)
 | n+1,A,h,0,_,j,hj=>by
  cases n with
  | zero =>
   show zam (zbk (srE k hk) (fun J=>zeu (srE k hk) A (0+J)) (zeu (srE k hk) A) (zeY (srE k hk) 0 (zeX (srE k hk) A)) 0 j);rw[zkw];exact h.2.1 (0+j) (by omega)
  | succ n=>exact(h.2.2.2.2 n (by omega) j hj).2
 | n+1,A,h,i+1,hi,j,hj=>znr hk h.2.2.2.1 i (by omega) j hj
def zuy (hk:zad k)(m:Nat)(hm:1<=m):∀ (n:Nat) (A:Nat->Nat->El k) (gl ol c:Nat) (rs:Nat->Value) (w:World),n+m<=10000->n<=c->c<=maxLen->zar w gl ol n rs->(∀ i,i<n->zkx w (rs i) (n+m) (A i))->(∀ i,i<n->∀ j,j<n+m->zam (A i j)) ->
  Calls prog 69 #[zbl k,.slice (some ⟨gl,ol,none⟩) n c] w (zbQ (zfB (srE k hk) zam n m A) (zsO w.heap.size n m (zeY (srE k hk) n A)) w):=by
 intro n
 induction n with
 | zero =>
  intro A gl ol c rs w hnm h1 h2 h3 hr hf;clear hr hf h1 h2 h3;unfold zbl;go_enter func69,ntmps69;go_wp2;go_ret;exact .inl ⟨trivial,_,rfl,⟨[],0,.inl ⟨rfl,rfl,rfl⟩,fun h=>absurd h (by omega),fun i hi=>absurd hi (by omega)⟩,zGA _ _ none⟩
 | succ n ih =>
  intro A gl ol c rs w hnm h1 h2 h3 hr hf;have hc0:w.cell? ⟨gl,ol,none⟩=some (rs 0):=h3.2 0 (by omega);obtain⟨g0,o0,cc0,hr0,hw1,hw2,hrow0⟩:=hr 0 (by omega);have hm':n+1+m=(n+m)+1:=by omega
  rw[hr0,hm'] at hc0;rw[hm'] at hw1 hrow0;have hsol:=fun(w1:World) (hg:w.grownBy w1 none)=>zwH hk (n+m) g0 o0 cc0 (A 0) w1 (by omega) (by omega) (hrow0.grown hg) hw1 hw2 (fun j hj=>hf 0 (by omega) j (by omega));have x:=zBx w k;have hW:w.grownBy (w.alloc (.cells #[.int .i64 k,.string (zag k),.string (zal k)] 57)) none:=zGA _ _ none;have hWs:(w.alloc (.cells #[.int .i64 k,.string (zag k),.string (zal k)] 57)).heap.size=w.heap.size+1:=by simp
  have xa:=hW.cell hc0 (by simp);have i1:¬ ((n:Int)+1=0):=by omega
  have i2:(0:Int)<(n:Int)+1:=by omega
  have HS:=zHd hsol;have HL:=zHd (zAI h1 (zAI h2 h3));have HR:=zHd hr;have HF:=zHd hf;have HN:=zHd (zAI hnm hm);have HX:=zHd (zAI x (zAI hW (zAI hWs xa)));clear hsol h1 h2 h3 hr hf hnm hm hr0 hw1 hw2 hrow0 x hW hWs xa hc0;unfold zbl at *;go_enter func69,ntmps69;go_upto_region 3 with(fail);obtain⟨⟨x0,x1,x2⟩,hW,hWs,xa⟩:=HX.out;generalize w.alloc (.cells #[.int .i64 k,.string (zag k),.string (zal k)] 57)=W at *;have d0:W.drew.cell? ⟨w.heap.size,0,none⟩=some (.int .i64 k):=x0;have d1:W.drew.cell? ⟨w.heap.size,1,none⟩=some (.string (zag k)):=x1;have d2:W.drew.cell? ⟨w.heap.size,2,none⟩=some (.string (zal k)):=x2;have da:W.drew.cell? ⟨gl,ol,none⟩=some (.slice (some ⟨g0,o0,none⟩) (n+m+1) cc0):=xa;have hgA:w.grownBy W.drew none:=zaa hW (zaf W none);have hgB:w.grownBy (W.drew.alloc (.cells #[.int .i64 0,.string ⟨#[]⟩,.string ⟨#[]⟩,.slice none 0 0] 119)) none:=zaa hgA (zGA _ _ none);have hadb:gl≠w.heap.size+1:=by have:=HL.out.2.2.1;omega
  have hadw:∀ W5:World,W.drew.grownBy W5 none->gl≠W5.heap.size:=fun W5 h5=>by have:=HL.out.2.2.1;have:=h5.size;have:W.heap.size=w.heap.size+1:=hWs;simp at *;omega
  have hwsz:∀ W5:World,W.drew.grownBy W5 none->w.heap.size≠W5.heap.size:=fun W5 h5=>by have:=h5.size;have:W.heap.size=w.heap.size+1:=hWs;simp at *;omega
  have HADB:=zHd (zAI hadb (zAI hadw hwsz));clear hadb hadw hwsz
  have hnb:(W.drew.alloc (.cells #[.int .i64 0,.string ⟨#[]⟩,.string ⟨#[]⟩,.slice none 0 0] 119)).heap[w.heap.size+1]?=some (.cells #[.int .i64 0,.string ⟨#[]⟩,.string ⟨#[]⟩,.slice none 0 0] 119 (0,0)):=by
   rw[<- hWs];exact zaG W.drew (.cells #[.int .i64 0,.string ⟨#[]⟩,.string ⟨#[]⟩,.slice none 0 0] 119)
  have b0:(W.drew.alloc (.cells #[.int .i64 0,.string ⟨#[]⟩,.string ⟨#[]⟩,.slice none 0 0] 119)).cell? ⟨w.heap.size,0,none⟩=some (.int .i64 k):=(zGA W.drew _ none).cell d0 (by simp);have b1:(W.drew.alloc (.cells #[.int .i64 0,.string ⟨#[]⟩,.string ⟨#[]⟩,.slice none 0 0] 119)).cell? ⟨w.heap.size,1,none⟩=some (.string (zag k)):=(zGA W.drew _ none).cell d1 (by simp);have b2:(W.drew.alloc (.cells #[.int .i64 0,.string ⟨#[]⟩,.string ⟨#[]⟩,.slice none 0 0] 119)).cell? ⟨w.heap.size,2,none⟩=some (.string (zal k)):=(zGA W.drew _ none).cell d2 (by simp);have ba:(W.drew.alloc (.cells #[.int .i64 0,.string ⟨#[]⟩,.string ⟨#[]⟩,.slice none 0 0] 119)).cell? ⟨gl,ol,none⟩=some (.slice (some ⟨g0,o0,none⟩) (n+m+1) cc0):=(zGA W.drew _ none).cell da (by simp);have HGA:=zHd hgA;have HGB:=zHd hgB;have HNB:=zHd hnb;clear hgA hgB hnb hW x0 x1 x2 xa
  go_cut [5] from 11 to 15 (fun pv wx=>zzD hk (n+m) (A 0)/\∃ gf gs,pv=.pointer (some ⟨gf,0,none⟩)/\w.heap.size<gf/\w.heap.size<gs/\gs≠gf/\wx.heap[gf]?=some (.cells #[.int .i64 k,.string (zag k),.string (zal k),.slice (some ⟨gs,0,none⟩) (n+m) (n+m)] 119 (0,0))/\zar wx gs 0 (n+m) (txs (zsM hk (A 0)))/\W.grownBy wx none)
  case first =>
   go_region_held2 (fun W'=>W'.cell? ⟨w.heap.size,0,none⟩=some (.int .i64 k)/\W'.cell? ⟨w.heap.size,1,none⟩=some (.string (zag k))/\W'.cell? ⟨w.heap.size,2,none⟩=some (.string (zal k))/\W'.cell? ⟨gl,ol,none⟩=some (.slice (some ⟨g0,o0,none⟩) (n+m+1) cc0)) (first|exact⟨d0,d1,d2,da⟩|exact⟨b0,b1,b2,ba⟩|exact S3|exact S4|go_keep)
    (first
    | (go_at_call 100;refine(HS.out W.drew HGA.out).mono ?_;rintro e w5 (⟨hp,v,rfl,⟨gs,rfl,hgs,hr5⟩,hg5⟩|⟨hn,rfl,hg5⟩);rotate_left 1;(exact⟨rfl,.inr ⟨fun h=>hn ⟨h.1,h.2.1⟩,rfl,zaa HGA.out hg5⟩⟩);have s0:=hg5.cell d0 (by simp);have s1:=hg5.cell d1 (by simp);have s2:=hg5.cell d2 (by simp);have sa:=hg5.cell da (by simp);have hal:=zGA w5 (.cells #[.int .i64 0,.string ⟨#[]⟩,.string ⟨#[]⟩,.slice none 0 0] 119) none;have S3:=zAI (hal.cell s0 (by simp)) (zAI (hal.cell s1 (by simp)) (zAI (hal.cell s2 (by simp)) (hal.cell sa (by simp))));have S4:=zAI (zer (u0:=.int .i64 k) (u1:=.string (zag k)) (u2:=.string (zal k)) (u3:=.slice (some ⟨gs,0,none⟩) (n+m) (n+m)) (HADB.out.2.2 w5 hg5) S3.1) (zAI (zer (u0:=.int .i64 k) (u1:=.string (zag k)) (u2:=.string (zal k)) (u3:=.slice (some ⟨gs,0,none⟩) (n+m) (n+m)) (HADB.out.2.2 w5 hg5) S3.2.1) (zAI (zer (u0:=.int .i64 k) (u1:=.string (zag k)) (u2:=.string (zal k)) (u3:=.slice (some ⟨gs,0,none⟩) (n+m) (n+m)) (HADB.out.2.2 w5 hg5) S3.2.2.1) (zer (u0:=.int .i64 k) (u1:=.string (zag k)) (u2:=.string (zal k)) (u3:=.slice (some ⟨gs,0,none⟩) (n+m) (n+m)) (HADB.out.2.1 w5 hg5) S3.2.2.2)));have hx5:=zaG w5 (.cells #[.int .i64 0,.string ⟨#[]⟩,.string ⟨#[]⟩,.slice none 0 0] 119);have q0:=zqbw _ _ 0 _ _ (0,0) hx5;have q1:=zqbw _ _ 1 _ _ (0,0) hx5;have q2:=zqbw _ _ 2 _ _ (0,0) hx5;have q3:=zqbw _ _ 3 _ _ (0,0) hx5;have z0:=zqbx _ w5.heap.size 0 _ _ hx5;have z1:=zqbx _ w5.heap.size 1 _ _ hx5;have z2:=zqbx _ w5.heap.size 2 _ _ hx5;have z3:=zqbx _ w5.heap.size 3 _ _ hx5;have H5:=zHd (zAI hp (zAI hgs (zAI hr5 (zAI hg5 hx5))));clear hp hgs hr5 hg5 hx5;unfold zky)
    | (go_at_call 100;refine(HS.out (W.drew.alloc (.cells #[.int .i64 0,.string ⟨#[]⟩,.string ⟨#[]⟩,.slice none 0 0] 119)) HGB.out).mono ?_;rintro e w5 (⟨hp,v,rfl,⟨gs,rfl,hgs,hr5⟩,hg5⟩|⟨hn,rfl,hg5⟩);rotate_left 1;(exact⟨rfl,.inr ⟨fun h=>hn ⟨h.1,h.2.1⟩,rfl,zaa HGB.out hg5⟩⟩);have s0:=hg5.cell b0 (by simp);have s1:=hg5.cell b1 (by simp);have s2:=hg5.cell b2 (by simp);have sa:=hg5.cell ba (by simp);have S4:=zAI (zer (u0:=.int .i64 k) (u1:=.string (zag k)) (u2:=.string (zal k)) (u3:=.slice (some ⟨gs,0,none⟩) (n+m) (n+m)) (g:=w.heap.size+1) (by simp) s0) (zAI (zer (u0:=.int .i64 k) (u1:=.string (zag k)) (u2:=.string (zal k)) (u3:=.slice (some ⟨gs,0,none⟩) (n+m) (n+m)) (g:=w.heap.size+1) (by simp) s1) (zAI (zer (u0:=.int .i64 k) (u1:=.string (zag k)) (u2:=.string (zal k)) (u3:=.slice (some ⟨gs,0,none⟩) (n+m) (n+m)) (g:=w.heap.size+1) (by simp) s2) (zer (u0:=.int .i64 k) (u1:=.string (zag k)) (u2:=.string (zal k)) (u3:=.slice (some ⟨gs,0,none⟩) (n+m) (n+m)) HADB.out.1 sa)));have hx5:=(hg5.block (w.heap.size+1) (zqad.1 HNB.out).1 (by simp)).trans HNB.out;have q0:=zqbw w5 _ 0 _ _ (0,0) hx5;have q1:=zqbw w5 _ 1 _ _ (0,0) hx5;have q2:=zqbw w5 _ 2 _ _ (0,0) hx5;have q3:=zqbw w5 _ 3 _ _ (0,0) hx5;have z0:=zqbx w5 _ 0 _ _ hx5;have z1:=zqbx w5 _ 1 _ _ hx5;have z2:=zqbx w5 _ 2 _ _ hx5;have z3:=zqbx w5 _ 3 _ _ hx5;have H5:=zHd (zAI hp (zAI hgs (zAI hr5 (zAI hg5 hx5))));clear hp hgs hr5 hg5 hx5;unfold zky))
   ·have hsz:W.heap.size=w.heap.size+1:=hWs
    have hs5:=H5.out.2.2.2.1.size;have hgs:=H5.out.2.1;have hlt:=H5.out.2.2.1.1;have hgd:=H5.out.2.2.2.1;go_wp2_with (fail)
    go_meet
    case rel=>exact⟨H5.out.1,w5.heap.size,gs,rfl,by simp at hs5;omega,by simp at hgs;omega,by omega,zaG w5 _,H5.out.2.2.1.grown (zGA _ _ none),zaa (zaa (zaf W none) hgd) (zGA _ _ none)⟩
   have hsz:W.heap.size=w.heap.size+1:=hWs;have hgs:=H5.out.2.1;have hgd:=H5.out.2.2.2.1;go_wp2_with (fail)
   go_meet
   case rel=>exact⟨H5.out.1,w.heap.size+1,gs,rfl,by omega,by simp at hgs;omega,by simp at hgs;omega,ztP rfl H5.out.2.2.2.2,H5.out.2.2.1.grownB (zkz _ _ _ _ _ _) (by simp at hgs;omega),zak (zaa (zaa (zaf W none) (zGA _ _ none)) hgd) (zkz _ _ _ _ _ _) (by omega)⟩
  case rest =>
   obtain⟨hfst,gf,gs,rfl,hgf,hgs,hne,hbf,hrs,hgW⟩:=hcut;generalize wc=w3 at *;have hw3:w.grownBy w3 none:=zaa HX.out.2.1 hgW;have c0:=hgW.cell HX.out.1.1 (by simp);have c1:=hgW.cell HX.out.1.2.1 (by simp);have c2:=hgW.cell HX.out.1.2.2 (by simp);have e0:=zqbw w3 gf 0 _ _ (0,0) hbf;have e1:=zqbw w3 gf 1 _ _ (0,0) hbf;have e2:=zqbw w3 gf 2 _ _ (0,0) hbf;have e3:=zqbw w3 gf 3 _ _ (0,0) hbf;have hgfl:gf<w3.heap.size:=(zqad.1 hbf).1;have HB:=zHd (zAI hfst (zAI hgf (zAI hgs (zAI hne (zAI hbf (zAI hrs (zAI hw3 hgfl)))))));clear hfst hgf hgs hne hbf hrs hw3 hgW hgfl HNB HGA HGB HADB d0 d1 d2 da b0 b1 b2 ba hWs;obtain⟨A1,hA1⟩:∃ A1,(if c=1 then some (⟨gl,ol,none⟩:Addr) else some ⟨gl,ol+1,none⟩)=A1:=⟨_,rfl⟩
   have hl3:zaK w3 (.slice A1 n (c-1)) n (fun i=>rs (i+1)):=⟨A1,c-1,rfl,by have:=HL.out.1;omega,by have:=HL.out.2.1;omega,fun j hj=>by
    have hcn:¬ c=1:=(by have:=HL.out.1;omega);rw[if_neg hcn] at hA1;have hr3:=HL.out.2.2.grown HB.out.2.2.2.2.2.2.1;refine⟨_,hA1.symm,hr3.1,?_⟩;rw[zcn,Nat.add_assoc,Nat.add_comm 1 j];exact hr3.2 (j+1) (by omega)⟩
   have hmapc:=zkq 101 zsP #[zky k gs 0 (n+m) (n+m)] #[] n (fun i=>rs (i+1)) (n+m) (fun i=>zeh (srE k hk) zam 1 (n+m) (fun j=>A (i+1) (j+1)) (fun _=>A (i+1) 0) (fun _=>zeu (srE k hk) A)) (fun i=>txs (zeX (srE k hk) A i)) (.slice A1 n (c-1)) w3.drew (by have:=HN.out;omega) (hl3.grown (zaf _ none)) (fun i hi w' hw'=>by
    obtain⟨g1,o1,cc1,hr1,h1,h2,h3⟩:=HR.out (i+1) (by omega);rw[hm'] at h1 h3;have hg1:g1<w3.drew.heap.size:=zqba h3.1 HB.out.2.2.2.2.2.2.1.size;have hgw':w.grownBy w' none:=zaa (zaa HB.out.2.2.2.2.2.2.1 (zaf _ none)) hw';have h:=zym hk (n+m) g1 o1 cc1 gs 0 (n+m) (A (i+1)) (zsM hk (A 0)) w' (by have:=HN.out;omega) (by have:=HN.out;omega) (h3.grown hgw') h1 h2 ((HB.out.2.2.2.2.2.1.grown (zaf _ none)).grown hw') (zqab _) (by have:=HN.out;unfold maxLen;omega) (fun j hj=>HF.out (i+1) (by omega) j (by omega)) (fun j hj=>HB.out.1.2 j hj);show Calls prog _ #[zky k gs 0 (n+m) (n+m),rs (i+1)] w' _;rw[hr1,hm'];refine h.mono (fun e w2 h=>?_);rcases h with⟨hp,v,e1,⟨g,o,c,e2,q1,q2,q3,q4⟩,q5⟩|⟨hp,q⟩
    ·refine .inl ⟨hp,v,e1,⟨g,o,c,e2,q1,q2,?_,q4⟩,q5⟩
     rcases q3 with q3|q3;left;omega;right;exact q3
    exact .inr ⟨hp,q⟩)
   have helim:=fun(w5:World) (zs:List Value) (zR:zfE w5 w3.drew.heap.size w3.drew.heap.size n (n+m) zs (fun i=>txs (zeX (srE k hk) A i))) (hp:∀ i,i<n->zeh (srE k hk) zam 1 (n+m) (fun j=>A (i+1) (j+1)) (fun _=>A (i+1) 0) (fun _=>zeu (srE k hk) A)) =>
    ih (zeX (srE k hk) A) w3.drew.heap.size 0 n (fun j=>zs.getD j (.slice none 0 0)) w5 (by have:=HN.out;omega) (zqab _) (by have:=HN.out;unfold maxLen;omega) zR.2.1 (fun i hi=>by
     obtain⟨gi,o,c,h1,h2,h3,h4,h5⟩:=zR.2.2 i hi;exact⟨gi,o,c,h1,h2,h3,h5⟩) (fun i hi j hj=>(hp i hi 0 (by omega) j hj).2)
   have hgd3:w.grownBy w3.drew none:=zaa HB.out.2.2.2.2.2.2.1 (zaf _ none);have HM:=zHd hmapc;have HE:=zHd helim;have HG3:=zHd hgd3;clear hmapc hl3 helim ih hgd3;have d0:w3.drew.cell? ⟨w.heap.size,0,none⟩=some (.int .i64 k):=c0;have d1:w3.drew.cell? ⟨w.heap.size,1,none⟩=some (.string (zag k)):=c1;have d2:w3.drew.cell? ⟨w.heap.size,2,none⟩=some (.string (zal k)):=c2;have f0:w3.drew.cell? ⟨gf,0,none⟩=some (.int .i64 k):=e0;have f1:w3.drew.cell? ⟨gf,1,none⟩=some (.string (zag k)):=e1;have f2:w3.drew.cell? ⟨gf,2,none⟩=some (.string (zal k)):=e2;have f3:w3.drew.cell? ⟨gf,3,none⟩=some (.slice (some ⟨gs,0,none⟩) (n+m) (n+m)):=e3;clear c0 c1 c2 e0 e1 e2 e3;have j1:(1:Int)<=(n:Int)+1:=by omega
   have j2:(n:Int)+1<=(c:Int):=by have:=HL.out.1;omega
   have hmf := @zMF prog;unfold zky at HM;go_upto_region 4 with(fail)
   go_region_held2 (fun W'=>W'.cell? ⟨w.heap.size,0,none⟩=some (.int .i64 k)/\W'.cell? ⟨w.heap.size,1,none⟩=some (.string (zag k))/\W'.cell? ⟨w.heap.size,2,none⟩=some (.string (zal k))/\W'.cell? ⟨gf,0,none⟩=some (.int .i64 k)/\W'.cell? ⟨gf,1,none⟩=some (.string (zag k))/\W'.cell? ⟨gf,2,none⟩=some (.string (zal k))/\W'.cell? ⟨gf,3,none⟩=some (.slice (some ⟨gs,0,none⟩) (n+m) (n+m))) (first|exact⟨d0,d1,d2,f0,f1,f2,f3⟩|exact S5|exact S6|go_keep)
    (first
    | (go_at_call 72;refine HM.out.mono ?_;rintro e w5 (⟨hp,v,rfl,⟨zs,rfl,hzs⟩,hg5⟩|⟨hn,rfl,hg5⟩);rotate_left 1;(exact⟨rfl,.inr ⟨fun h=>hn h.2.2.1,rfl,zaa HG3.out hg5⟩⟩);have S5:=zAI (hg5.cell d0 (by simp)) (zAI (hg5.cell d1 (by simp)) (zAI (hg5.cell d2 (by simp)) (zAI (hg5.cell f0 (by simp)) (zAI (hg5.cell f1 (by simp)) (zAI (hg5.cell f2 (by simp)) (hg5.cell f3 (by simp)))))));have H5:=zHd (zAI hp (zAI hzs hg5));clear hp hzs hg5)
    | (go_at_call 69;refine(HE.out w5 zs H5.out.2.1 H5.out.1).mono ?_;rintro e w6 (⟨hp6,v6,rfl,⟨ys,gy,hres,hgy,zR⟩,hg6⟩|⟨hn,rfl,hg6⟩);rotate_left 1;(exact⟨rfl,.inr ⟨fun h=>hn h.2.2.2.1,rfl,zaa (zaa HG3.out H5.out.2.2) hg6⟩⟩);obtain⟨R6,cr6,rfl⟩:=hres.shape;have S6:=zAI (hg6.cell S5.1 (by simp)) (zAI (hg6.cell S5.2.1 (by simp)) (zAI (hg6.cell S5.2.2.1 (by simp)) (zAI (hg6.cell S5.2.2.2.1 (by simp)) (zAI (hg6.cell S5.2.2.2.2.1 (by simp)) (zAI (hg6.cell S5.2.2.2.2.2.1 (by simp)) (hg6.cell S5.2.2.2.2.2.2 (by simp)))))));have H6:=zHd (zAI hp6 (zAI hres (zAI hgy (zAI zR hg6))));clear hp6 hres hgy zR hg6))
   all_goals
    have hgd6:w.grownBy w6.drew none:=zaa (zaa (zaa HG3.out H5.out.2.2) H6.out.2.2.2.2) (zaf _ none);have hg36:w3.grownBy w6.drew none:=zaa (zaa (zaa (zaf _ none) H5.out.2.2) H6.out.2.2.2.2) (zaf _ none);have hrs6:zar w6.drew gs 0 (n+m) (txs (zeu (srE k hk) A)):=HB.out.2.2.2.2.2.1.grown hg36
    have hrn6:zar w6.drew gs n m (txs (fun J=>zeu (srE k hk) A (n+J))):=⟨hrs6.1,fun j hj=>by
     have:=hrs6.2 (n+j) (by omega);rw[zqat] at this;exact this⟩
    have hsum:=zpA hk n m gs n m (fun J=>zeu (srE k hk) A (n+J)) (zeu (srE k hk) A) (zeY (srE k hk) n (zeX (srE k hk) A)) (.slice (some ⟨gs,0,none⟩) n (n+m)) (.slice R6 n cr6) (fun j=>ys.getD j (.slice none 0 0)) w6.drew (by have:=HN.out;omega) (by have:=HN.out;omega)
     hrn6 (zqab _) (by have:=HN.out;unfold maxLen;omega) ((hrs6.head (m:=n) (by omega)).row (by omega) (by have:=HN.out;unfold maxLen;omega)) (fun j hj=>HB.out.1.2 j (by omega)) (fun j hj=>HB.out.1.2 (n+j) (by omega))
     ((H6.out.2.1.grown (zaf _ none)).rowR) (fun i hi=>by
       obtain⟨gi,o,ci,h1,h2,h3,h4,h5⟩:=H6.out.2.2.2.1 i hi;show zaK _ (ys.getD i (.slice none 0 0)) _ _;rw[h1];exact(h5.grown (zaf _ none)).row h2 h3) (fun i hi j hj=>znr hk H6.out.1 i hi j hj)
    have HSUM:=zHd hsum;have HGD:=zHd hgd6;clear hsum hrs6 hrn6 hg36 hgd6;obtain⟨t0,t1,t2,_,_,_,t3⟩:=S6;have d6:w6.drew.cell? ⟨w.heap.size,0,none⟩=some (.int .i64 k):=t0;have d7:w6.drew.cell? ⟨w.heap.size,1,none⟩=some (.string (zag k)):=t1;have d8:w6.drew.cell? ⟨w.heap.size,2,none⟩=some (.string (zal k)):=t2;have d9:w6.drew.cell? ⟨gf,3,none⟩=some (.slice (some ⟨gs,0,none⟩) (n+m) (n+m)):=t3;have l1:¬ m=0:=(by have:=HN.out;omega);have l2:(n:Int)<=(n:Int)+(m:Int):=(by omega);have l3:(0:Int)<=(n:Int):=(by omega);have l4:n<=n+m:=(by omega);unfold zbl at HSUM;clear S5 d0 d1 d2 f0 f1 f2 f3 t0 t1 t2 t3 HM HE HG3 HL HR HX HS;go_upto_region 5 with(fail)
    go_region_held2 (fun W'=>W'.cell? ⟨w.heap.size,0,none⟩=some (.int .i64 k)/\W'.cell? ⟨w.heap.size,1,none⟩=some (.string (zag k))/\W'.cell? ⟨w.heap.size,2,none⟩=some (.string (zal k))/\W'.cell? ⟨gf,3,none⟩=some (.slice (some ⟨gs,0,none⟩) (n+m) (n+m))) (first|exact⟨d6,d7,d8,d9⟩|exact S7|go_keep)
     (first
     | (go_at_call 76;refine HSUM.out.mono ?_;rintro e w7 (⟨hp,v,rfl,⟨gv,ov,cv,rfl,hv1,hv2,hv3,hv4⟩,hg7⟩|⟨hn,rfl,hg7⟩);rotate_left 1;(exact⟨rfl,.inr ⟨fun h=>hn h.2.2.2.2,rfl,zaa HGD.out hg7⟩⟩);have S7:=zAI (hg7.cell d6 (by simp)) (zAI (hg7.cell d7 (by simp)) (zAI (hg7.cell d8 (by simp)) (hg7.cell d9 (by simp))));have H7:=zHd (zAI hp (zAI hv1 (zAI hv2 (zAI hv3 (zAI hv4 hg7)))));clear hp hv1 hv2 hv3 hv4 hg7))
    all_goals
     go_wp2_with (fail);have hal:=zGA w7 (.cells #[.slice (some ⟨gv,ov,none⟩) m cv] 27) none;have hres8:=(((H6.out.2.1.grown (zaf _ none)).grown H7.out.2.2.2.2.2).grown hal)
     refine(zyn n gy w7.heap.size (.slice R6 n cr6) ys (.slice (some ⟨gv,ov,none⟩) m cv) 27 (w7.alloc (.cells #[.slice (some ⟨gv,ov,none⟩) m cv] 27)) (by have:=HN.out;omega) hres8 (fun h0=>by have:=(((H6.out.2.1.grown (zaf _ none)).grown H7.out.2.2.2.2.2)).lt h0;omega) (zaG w7 _) rfl (fun z hz=>by
      obtain⟨i,hi,rfl⟩:=List.getElem_of_mem hz;obtain⟨gi,o,ci,h1,_⟩:=H6.out.2.2.2.1 i (by have:=H6.out.2.1.len;omega);rw[zqaa,zqac hi] at h1;simp at h1;rw[h1];rfl)).mono ?_
     rintro e w9 ⟨g',c',rfl,zO,hg9⟩;have H9:=zHd (zAI zO hg9);have HAL:=zHd hal;have HR8:=zHd hres8;clear zO hg9 hal hres8;go_wp2;go_ret;obtain⟨zO,hg9⟩:=H9.out;have hsz3:=HB.out.2.2.2.2.2.2.1.size;have hsz5:=H5.out.2.2.size;have hsz6:=H6.out.2.2.2.2.size;have hsz7:=H7.out.2.2.2.2.2.size;have hgd7:w.grownBy (w7.alloc (.cells #[.slice (some ⟨gv,ov,none⟩) m cv] 27)) none:=zaa (zaa HGD.out H7.out.2.2.2.2.2) HAL.out;have hgsl:gs<w3.heap.size:=HB.out.2.2.2.2.2.1.1;have hvl:gv<w7.heap.size:=H7.out.2.2.2.2.1.1;have h8s:(w7.alloc (.cells #[.slice (some ⟨gv,ov,none⟩) m cv] 27)).heap.size=w7.heap.size+1:=(by simp);have e3:w3.drew.heap.size=w3.heap.size:=rfl;have e6:w6.drew.heap.size=w6.heap.size:=rfl;have hv8:zar (w7.alloc (.cells #[.slice (some ⟨gv,ov,none⟩) m cv] 27)) gv ov m (txs (zeY (srE k hk) (n+1) A 0)):=H7.out.2.2.2.2.1.grown HAL.out
     have hr8:∀ i,i<n->∃ gi o ci,ys.getD i (.slice none 0 0)=.slice (some ⟨gi,o,none⟩) m ci/\m<=ci/\ci<=maxLen/\gi≠gy/\zar (w7.alloc (.cells #[.slice (some ⟨gv,ov,none⟩) m cv] 27)) gi o m (txs (zeY (srE k hk) (n+1) A (i+1)))/\gi<w6.heap.size:=fun i hi=>by
      obtain⟨gi,o,ci,h1,h2,h3,h4,h5⟩:=H6.out.2.2.2.1 i hi;exact⟨gi,o,ci,h1,h2,h3,h4,((h5.grown (zaf _ none)).grown H7.out.2.2.2.2.2).grown HAL.out,h5.1⟩
     have hfits:zfB (srE k hk) zam (n+1) m A:=⟨HB.out.1.1,HB.out.1.2,H5.out.1,H6.out.1,H7.out.1⟩
     have hvg:0<n->gv≠gy:=fun h0=>by
      have h1:=H6.out.2.2.1 h0;have h2:=H6.out.2.1.lt h0;rcases H7.out.2.2.2.1 with h|h <;> omega
     rcases hg9 with⟨rfl,h0,hg9⟩|⟨hge,hg9⟩
     ·have h1:=H6.out.2.2.1 h0
      have hB:w.heap.size<=g':=(by omega);refine .inl ⟨hfits,_,rfl,⟨_,g',.inr ⟨by omega,c',rfl,zO⟩,fun _=>hB,fun i hi=>?_⟩,zak hgd7 hg9 hB⟩;cases i with
      | zero=>exact⟨gv,ov,cv,rfl,H7.out.2.1,H7.out.2.2.1,hvg h0,hv8.grownB hg9 (hvg h0)⟩
      | succ i =>
       obtain⟨gi,o,ci,h1,h2,h3,h4,h5,h6⟩:=hr8 i (by omega);exact⟨gi,o,ci,h1,h2,h3,h4,h5.grownB hg9 h4⟩
     refine .inl ⟨hfits,_,rfl,⟨_,g',.inr ⟨by omega,c',rfl,zO⟩,fun _=>by omega,fun i hi=>?_⟩,zaa hgd7 hg9⟩;cases i with
     | zero=>exact⟨gv,ov,cv,rfl,H7.out.2.1,H7.out.2.2.1,by omega,hv8.grown hg9⟩
     | succ i =>
      obtain⟨gi,o,ci,h1,h2,h3,h4,h5,h6⟩:=hr8 i (by omega);exact⟨gi,o,ci,h1,h2,h3,by omega,h5.grown hg9⟩
end
open Go.RowKit
section
variable {k:Int}
def zbv (w:World)(v:Value)(n m:Nat)(F:Nat->Nat->El k):Prop:=∃ rs:Nat->Value,zaK w v n rs/\∀ i,i<n->zkx w (rs i) m (F i)
def zbv.grown {w w':World}{v:Value}{n m:Nat}{F:Nat->Nat->El k}(h:zbv w v n m F)(hg:w.grownBy w' none):zbv w' v n m F:=by
 exact zQbO
def zsO.mat {w':World}{B n m:Nat}{F:Nat->Nat->El k}{v:Value}(h:zsO B n m F v w'):zbv w' v n m F:=by
 obtain⟨zs,g,h1,h2,h3⟩:=h
 exact⟨_,h1.rowR,fun i hi=>by
  obtain⟨gi,o,ci,e1,e2,e3,e4,e5⟩:=h3 i hi;exact⟨gi,o,ci,e1,e2,e3,e5⟩⟩
def zfE.mat {w:World}{H g n m:Nat}{zs:List Value}{F:Nat->Nat->El k}(h:zfE w H g n m zs (fun i=>txs (F i)))(hn:n<=10000):zbv w (.slice (some ⟨g,0,none⟩) n n) n m F :=
 ⟨fun j=>zs.getD j (.slice none 0 0),h.2.1.row (zqab _) (by unfold maxLen;omega),fun i hi=>by
  obtain⟨gi,o,c,h1,h2,h3,h4,h5⟩:=h.2.2 i hi;exact⟨gi,o,c,h1,h2,h3,h5⟩⟩
def zuz:Enters 71:=enters_of func71 (by kernel_rfl) rfl
def zuA:Enters 73:=enters_of func73 (by kernel_rfl) rfl
def zuB:Enters 75:=enters_of func75 (by kernel_rfl) rfl
def zuC:Enters 78:=enters_of func78 (by kernel_rfl) rfl
def zIt (A b:Nat->Nat->El k)(n i j:Nat):(Value.string (if j<n then tx (A i j) else tx (b i (j-n))))=txs (zbS A b n i) j:=by
 unfold txs zbS;split <;> rfl
def zpE (hk:zad k)(f:Nat->El k)(κ:Nat->Nat):∀ t,(∀ s,s<t->zam (zcq hk f κ (s+1) (κ s)))->∀ d,zam (zcq hk f κ t d)
 | 0,_,d=>zce hk
 | t+1,h,d=>by
  by_cases e:d=κ t
  subst e;exact h t (by omega);rw[zlP hk f κ t d e];exact zpE hk f κ t (fun s hs=>h s (by omega)) d
def zrl (hk:zad k){m:Nat}:∀ {s n:Nat} {A b:Nat->Nat->El k},n<=s->SolveFits (srE k hk) zam s n m A b->∀ i,i<n->∀ j,j<m->zam (solveF (srE k hk) s n A b i j)
 | 0,n,A,b,hn,h,i,hi,j,hj=>absurd hi (by omega)
 | s+1,n,A,b,hn,h,i,hi,j,hj=>by
  unfold solveF;unfold SolveFits at h
  by_cases hk2:(repR n A).length=n
  ·rw[if_pos hk2] at h ⊢
   exact znr hk h i hi j hj
  rw[if_neg hk2] at h ⊢;exact h.2.2.2 i hi j hj
structure zhO (w:World)(n m:Nat)(A b:Nat->Nat->El k)(av bv:Value):Prop where
 ma:zbv w av n n A
 mb:zbv w bv n m b
 fa:∀ i,i<n->∀ j,j<n->zam (A i j)
 fb:∀ i,i<n->∀ j,j<m->zam (b i j)
def zhO.grown {w w':World}{n m:Nat}{A b:Nat->Nat->El k}{av bv:Value}(h:zhO w n m A b av bv)(hg:w.grownBy w' none):zhO w' n m A b av bv:=⟨h.ma.grown hg,h.mb.grown hg,h.fa,h.fb⟩
def zns (hk:zad k)(s n m:Nat)(A b:Nat->Nat->El k)(w:World)(e:Ending)(w':World):Prop:=zbQ (SolveFits (srE k hk) zam s n m A b) (fun v w'=>zbv w' v n m (solveF (srE k hk) s n A b)) w e w'
def zsQ (n m:Nat)(hnm:n+m<=10000)(hm:1<=m)(A b:Nat->Nat->El k)(av bv:Value)(w:World)(h:zhO w n m A b av bv) :
  Calls prog 70 #[av,bv,.func (.func 71) #[] #[]] w fun e w'=>∃ zs,e=.returned (.slice (some ⟨w.heap.size,0,none⟩) n n)/\zfE w' w.heap.size w.heap.size n (n+m) zs (fun i=>txs (zbS A b n i))/\w.grownBy w' none:=by
 obtain⟨ra,ha1,ha2⟩:=h.ma;obtain⟨rb,hb1,hb2⟩:=h.mb
 have hc:=zuu 71 zuz #[] #[] n n ra rb (n+m) (fun _=>True) (fun i=>txs (zbS A b n i)) av bv w (by omega) ha1 hb1 (zqab _) (fun i hi w' hw'=>by
  have hj:=zyk n m (ra i) (rb i) (fun j=>tx (A i j)) (fun j=>tx (b i j)) w' (by omega) (by omega) (by omega) (by omega) ((ha2 i hi).grown hw').row ((hb2 i hi).grown hw').row;refine hj.mono (fun e w2 hq=>?_);obtain⟨g,c,rfl,h1,h2,h3,h4,h5⟩:=hq;refine .inl ⟨trivial,_,rfl,⟨g,0,c,rfl,h1,h2,.inr h3,h4.1,fun j hj=>(h4.2 j hj).trans ?_⟩,h5⟩;dsimp only;rw[zIt])
 refine hc.mono (fun e w2 hq=>?_);rcases hq with⟨_,v,rfl,⟨zs,rfl,hzs⟩,hg⟩|⟨hn,_⟩
 exact⟨zs,rfl,hzs,hg⟩;exact zQcg
def zrm (hk:zad k)(m:Nat)(hm:1<=m)(s n:Nat)(A b:Nat->Nat->El k)(av bv:Value)(w:World)(hns:n<=s+1)(hnm:n+m<=10000)(hin:zhO w n m A b av bv)
  (ih:∀ (K:Nat) (A b:Nat->Nat->El k) (av bv:Value) (w:World),K<n->zhO w K m A b av bv->Calls prog 41 #[zbl k,av,bv] w (zns hk s K m A b w)) :
  Calls prog 41 #[zbl k,av,bv] w (zns hk (s+1) n m A b w):=by
 obtain⟨ra,ha1,ha2⟩:=hin.ma;have hdist:=fun(w1:World) (hg:w.grownBy w1 none)=>zwy n n A ra av w1 (by omega) (by omega) (ha1.grown hg) (fun i hi=>(ha2 i hi).grown hg) hin.fa;obtain⟨Aa,ca,rfl,_,_,_⟩:=ha1;obtain⟨rb,⟨Ab,cb,rfl,_,_,_⟩,_⟩:=hin.mb;have hW:w.grownBy ((w.alloc (.cells #[.int .i64 k,.string (zag k),.string (zal k)] 57)).alloc (.cells #[.slice Ab n cb] 41)) none:=zaa (zGA _ _ none) (zGA _ _ none);have HD:=zHd hdist;have HI:=zHd hin;have HN:=zHd (zAI hns (zAI hnm hm));have HA:=zHd ha2;have HW:=zHd hW;clear hdist hin hns hnm hm ha2 hW;unfold zbl at *;go_enter func41,ntmps41;go_wp2_with fail;refine(HD.out _ HW.out).mono ?_;rintro e w1 ⟨rv,cv,rfl,zI⟩;have hs:=zqb n A;have hrv:zaK w1 rv (repR n A).length (fun c=>((repR n A).map ra).getD c (.slice none 0 0)):=ztJ zI.own1 _;have hcv:zaK w1 cv (clsR n A).length (fun c=>((clsR n A).map (fun x=>Value.int .i64 ((x:Nat):Int))).getD c (.int .i64 0)):=ztJ zI.own2 _;have hg1:=zI.gr;obtain⟨Ar,cr,rfl,hr1,hr2,hr3⟩:=hrv;obtain⟨Ac,cc,rfl,hc1,hc2,hc3⟩:=hcv;rw[hs.len] at hc1 hc3;have hclen:(clsR n A).length=n:=hs.len;obtain⟨K,hK⟩:∃ K,(repR n A).length=K:=⟨_,rfl⟩;rw[hK] at hr1 hr3;rw[hK,hclen];have H1:=zHd (zAI hs (zAI hK (zAI hg1 (zAI hr1 (zAI hr2 (zAI hr3 (zAI hc1 (zAI hc2 hc3))))))));clear hs hK hg1 hr1 hr2 hr3 hc1 hc2 hc3 zI hclen;go_upto_region 2 with(fail);obtain⟨hs,hK,hg1,hr1,hr2,hr3,hc1,hc2,hc3⟩:=H1.out;have hsz1:w.heap.size+2<=w1.heap.size:=by have:=hg1.size;simpa using this
 have hal1:=zGA w1 (.cells #[.slice Ar K cr] 41) none;have hal2:=zGA (w1.alloc (.cells #[.slice Ar K cr] 41)) (.cells #[.slice Ac n cc] 64) none;have hg2:w.grownBy ((w1.alloc (.cells #[.slice Ar K cr] 41)).alloc (.cells #[.slice Ac n cc] 64)) none:=zaa (zaa (zaa HW.out hg1) hal1) hal2;have hW1:=zGA (w.alloc (.cells #[.int .i64 k,.string (zag k),.string (zal k)] 57)) (.cells #[.slice Ab n cb] 41) none
 have xc:zcZ ((w1.alloc (.cells #[.slice Ar K cr] 41)).alloc (.cells #[.slice Ac n cc] 64)) w.heap.size k:=by
  have h:zcZ (w.alloc (.cells #[.int .i64 k,.string (zag k),.string (zal k)] 57)) w.heap.size k:=⟨zan w _ _ rfl,zan w _ _ rfl,zan w _ _ rfl⟩;exact(((h.grown hW1).grown hg1).grown hal1).grown hal2
 have xb:((w1.alloc (.cells #[.slice Ar K cr] 41)).alloc (.cells #[.slice Ac n cc] 64)).cell? ⟨w.heap.size+1,0,none⟩=some (.slice Ab n cb):=by
  have h:=zan (w.alloc (.cells #[.int .i64 k,.string (zag k),.string (zal k)] 57)) #[.slice Ab n cb] 41 (j:=0) (u:=.slice Ab n cb) rfl;rw[show(w.alloc (.cells #[.int .i64 k,.string (zag k),.string (zal k)] 57)).heap.size=w.heap.size+1 by simp] at h;exact hal2.cell (hal1.cell (hg1.cell h (by simp)) (by simp)) (by simp)
 have xr:((w1.alloc (.cells #[.slice Ar K cr] 41)).alloc (.cells #[.slice Ac n cc] 64)).cell? ⟨w1.heap.size,0,none⟩=some (.slice Ar K cr):=hal2.cell (zan w1 _ _ rfl) (by simp)
 have xl:((w1.alloc (.cells #[.slice Ar K cr] 41)).alloc (.cells #[.slice Ac n cc] 64)).cell? ⟨w1.heap.size+1,0,none⟩=some (.slice Ac n cc):=by
  have h:=zan (w1.alloc (.cells #[.slice Ar K cr] 41)) #[.slice Ac n cc] 64 (j:=0) (u:=.slice Ac n cc) rfl;rw[show(w1.alloc (.cells #[.slice Ar K cr] 41)).heap.size=w1.heap.size+1 by simp] at h;exact h
 have zR:zaK ((w1.alloc (.cells #[.slice Ar K cr] 41)).alloc (.cells #[.slice Ac n cc] 64)) (.slice Ar K cr) K (fun c=>ra ((repR n A).getD c 0)):=by
  have h:zaK w1 (.slice Ar K cr) K (fun c=>ra ((repR n A).getD c 0)):=⟨Ar,cr,rfl,hr1,hr2,fun j hj=>by
   obtain⟨ad,e1,e2,e3⟩:=hr3 j hj;refine⟨ad,e1,e2,e3.trans ?_⟩;dsimp only;rw[zqaa,zqaj,zqaa,zqac (by omega)];rfl⟩
  exact(h.grown hal1).grown hal2
 have hcls:zaK ((w1.alloc (.cells #[.slice Ar K cr] 41)).alloc (.cells #[.slice Ac n cc] 64)) (.slice Ac n cc) n (fun c=>.int .i64 (((clsR n A).getD c 0:Nat):Int)):=by
  have h:zaK w1 (.slice Ac n cc) n (fun c=>.int .i64 (((clsR n A).getD c 0:Nat):Int)):=⟨Ac,cc,rfl,hc1,hc2,fun j hj=>by
   obtain⟨ad,e1,e2,e3⟩:=hc3 j hj;refine⟨ad,e1,e2,e3.trans ?_⟩;dsimp only;rw[zqaa,zqaj,zqaa,zqac (by rw[hs.len];omega)];rfl⟩
  exact(h.grown hal1).grown hal2
 generalize hL:w1.heap.size=L at *;generalize ((w1.alloc (.cells #[.slice Ar K cr] 41)).alloc (.cells #[.slice Ac n cc] 64))=W2 at *;have HX:=zHd (zAI xc (zAI xb (zAI xr (zAI xl (zAI zR (zAI hcls hg2))))));have HS:=zHd (zAI hs hK);have d0:=xc.1;have d1:=xc.2.1;have d2:=xc.2.2;clear hal1 hal2 hW1 hr1 hr2 hr3 hc1 hc2 hc3 H1 hg1 HD HW hL;clear hs hK hg2 xc zR hcls
 by_cases hKn:K=n
 ·subst hKn
  have t1:((K:Int)==(K:Int))=true:=by simp
  have hcomb:=zsQ K m HN.out.2.1 HN.out.2.2 A b (.slice Aa K ca) (.slice Ab K cb) W2.drew (HI.out.grown (zaa HX.out.2.2.2.2.2.2 (zaf _ none)))
  have helim:=fun(w5:World) (zs:List Value) (hr:zfE w5 W2.heap.size W2.heap.size K (K+m) zs (fun i=>txs (zbS A b K i))) =>
   zuy hk m HN.out.2.2 K (zbS A b K) W2.heap.size 0 K (fun j=>zs.getD j (.slice none 0 0)) w5 HN.out.2.1 (zqab _) (by have:=HN.out.2.1;unfold maxLen;omega) hr.2.1 (fun i hi=>by
    obtain⟨gi,o,c,h1,h2,h3,h4,h5⟩:=hr.2.2 i hi;exact⟨gi,o,c,h1,h2,h3,h5⟩) (fun i hi j hj=>by
    unfold zbS;split;exact HI.out.fa i hi j (by assumption);exact HI.out.fb i hi (j-K) (by omega))
  have HC:=zHd hcomb;have HE:=zHd helim;clear hcomb helim ih
  have zf:SolveFits (srE k hk) zam (s+1) K m A b=zfB (srE k hk) zam K m (zbS A b K):=by
   exact zQca
  have zV:solveF (srE k hk) (s+1) K A b=zeY (srE k hk) K (zbS A b K):=by
   funext i J;exact zQca
  have HFV:=zHd (zAI zf zV);clear zf zV;unfold zbl at HE;have hgd:w.grownBy W2.drew none:=zaa HX.out.2.2.2.2.2.2 (zaf _ none);have HG:=zHd hgd;clear hgd;have e0:W2.drew.cell? ⟨w.heap.size,0,none⟩=some (.int .i64 k):=d0;have e1:W2.drew.cell? ⟨w.heap.size,1,none⟩=some (.string (zag k)):=d1;have e2:W2.drew.cell? ⟨w.heap.size,2,none⟩=some (.string (zal k)):=d2;have e3:W2.drew.cell? ⟨w.heap.size+1,0,none⟩=some (.slice Ab K cb):=xb;go_upto_region 3 with(fail)
  go_region_held2 (fun W'=>W'.cell? ⟨w.heap.size,0,none⟩=some (.int .i64 k)/\W'.cell? ⟨w.heap.size,1,none⟩=some (.string (zag k))/\W'.cell? ⟨w.heap.size,2,none⟩=some (.string (zal k))/\W'.cell? ⟨w.heap.size+1,0,none⟩=some (.slice Ab K cb)) (first|exact⟨e0,e1,e2,e3⟩|exact S5|exact S6|go_keep)
   (first
   | (go_at_call 70;refine HC.out.mono ?_;rintro e w5 ⟨zs,rfl,hzs,hg5⟩;have S5:=zAI (hg5.cell e0 (by simp)) (zAI (hg5.cell e1 (by simp)) (zAI (hg5.cell e2 (by simp)) (hg5.cell e3 (by simp))));have H5:=zHd (zAI hzs hg5);clear hzs hg5)
   | (go_at_call 69;refine(HE.out w5 zs H5.out.1).mono ?_;rintro e w6 (⟨hp6,v6,rfl,hres,hg6⟩|⟨hn,rfl,hg6⟩);rotate_left 1;(exact⟨rfl,.inr ⟨fun h=>hn (HFV.out.1▸h),rfl,zaa (zaa HG.out H5.out.2) hg6⟩⟩);have S6:=zAI (hg6.cell S5.1 (by simp)) (zAI (hg6.cell S5.2.1 (by simp)) (zAI (hg6.cell S5.2.2.1 (by simp)) (hg6.cell S5.2.2.2 (by simp))));have H6:=zHd (zAI hp6 (zAI hres hg6));clear hp6 hres hg6))
  all_goals
   go_wp2;go_ret;exact .inl ⟨HFV.out.1▸H6.out.1,_,rfl,HFV.out.2▸H6.out.2.1.mat,zaa (zaa HG.out H5.out.2) H6.out.2.2⟩
 have t1:((K:Int)==(n:Int))=false:=by simp;omega
 have hKlt:K<n:=by have h1:=HS.out.1.le;have h2:=HS.out.2;omega
 have hκ:∀ j,j<n->(clsR n A).getD j 0<K:=fun j hj=>by have h:=(HS.out.1.cl j hj).1;rw[HS.out.2] at h;exact h
 have hρ:∀ c,c<K->(repR n A).getD c 0<n:=fun c hc=>HS.out.1.rl c (by rw[HS.out.2];exact hc);have hmf := @zMF prog
 have zf:SolveFits (srE k hk) zam (s+1) n m A b=((∀ c,c<K->znT (srE k hk) zam n (A ((repR n A).getD c 0)) (fun j=>(clsR n A).getD j 0))/\(∀ c,c<K->zeh (srE k hk) zam n m (fun _=>(srE k hk).zero) (A ((repR n A).getD c 0)) b) /\
   SolveFits (srE k hk) zam s K m (mrgA (srE k hk) n A) (mrgB (srE k hk) n A b)/\∀ i,i<n->∀ J,J<m->zam ((srE k hk).add (b i J) (solveF (srE k hk) s K (mrgA (srE k hk) n A) (mrgB (srE k hk) n A b) ((clsR n A).getD i 0) J))):=by
  exact zQbX
 have zV:solveF (srE k hk) (s+1) n A b=fun i J=>(srE k hk).add (b i J) (solveF (srE k hk) s K (mrgA (srE k hk) n A) (mrgB (srE k hk) n A b) ((clsR n A).getD i 0) J):=by
  funext i J;exact zQbX
 obtain⟨xc,_,xr2,xl2,zR,hcls,hg2⟩:=HX.out
 have h1:=zkq 73 zuA #[] #[.pointer (some ⟨w.heap.size,0,none⟩),.pointer (some ⟨L+1,0,none⟩),.pointer (some ⟨L,0,none⟩)] K (fun c=>ra ((repR n A).getD c 0)) K
  (fun c=>znT (srE k hk) zam n (A ((repR n A).getD c 0)) (fun j=>(clsR n A).getD j 0)) (fun c=>txs (mrgA (srE k hk) n A c)) (.slice Ar K cr) W2 (by have:=HN.out.2.1;omega) zR (fun c hc w' hw'=>by
   have hr:=(HA.out _ (hρ c hc)).grown (zaa hg2 hw');have h:=zBr hk (A ((repR n A).getD c 0)) (fun j=>(clsR n A).getD j 0) n K w.heap.size (L+1) L Ac Ar cc cr (ra ((repR n A).getD c 0)) w' (by have:=HN.out.2.1;omega) (by have:=HN.out.2.1;omega) hκ hr.row (HI.out.fa _ (hρ c hc)) (xc.grown hw') (hw'.cell xl2 (by simp)) (hw'.cell xr2 (by simp)) (hcls.grown hw');refine h.mono (fun e w3 h=>?_);rcases h with⟨hp,v,e1,⟨g,e2,q1,q2⟩,q3⟩|⟨hp,q⟩
   exact .inl ⟨hp,v,e1,⟨g,0,K,e2,zqab _,by have:=HN.out.2.1;unfold maxLen;omega,.inr q1,q2⟩,q3⟩;exact .inr ⟨hp,q⟩)
 have h2:=fun(w3:World) (hg3:W2.grownBy w3 none)=>zkq 75 zuB #[] #[.pointer (some ⟨w.heap.size,0,none⟩),.pointer (some ⟨w.heap.size+1,0,none⟩)] K (fun c=>ra ((repR n A).getD c 0)) m
  (fun c=>zeh (srE k hk) zam n m (fun _=>(srE k hk).zero) (A ((repR n A).getD c 0)) b) (fun c=>txs (mrgB (srE k hk) n A b c)) (.slice Ar K cr) w3 (by have:=HN.out.2.1;omega) (zR.grown hg3) (fun c hc w' hw'=>by
   have hgw:=zaa hg3 hw';have hr:=(HA.out _ (hρ c hc)).grown (zaa hg2 hgw);obtain⟨rb2,hb1,hb2⟩:=(HI.out.mb).grown (zaa hg2 hgw);have h:=zBt hk (A ((repR n A).getD c 0)) b n m w.heap.size (w.heap.size+1) Ab cb rb2 (ra ((repR n A).getD c 0)) w' (by omega) (by have:=HN.out.2.1;omega) (by have:=HN.out.2.1;omega) hr.row (HI.out.fa _ (hρ c hc)) (xc.grown hgw) (hgw.cell xb (by simp)) hb1 (fun i hi=>(hb2 i hi).row) HI.out.fb;refine h.mono (fun e w3 h=>?_);rcases h with⟨hp,v,e1,⟨g,o,c2,e2,q1,q2,q3,q4⟩,q5⟩|⟨hp,q⟩
   exact .inl ⟨hp,v,e1,⟨g,o,c2,e2,q1,q2,.inr q3,q4⟩,q5⟩;exact .inr ⟨hp,q⟩)
 have h3:=fun(v1 v2:Value) (w4:World) (hm1:zbv w4 v1 K K (mrgA (srE k hk) n A)) (hm2:zbv w4 v2 K m (mrgB (srE k hk) n A b)) (hp1:∀ c,c<K->znT (srE k hk) zam n (A ((repR n A).getD c 0)) (fun j=>(clsR n A).getD j 0)) (hp2:∀ c,c<K->zeh (srE k hk) zam n m (fun _=>(srE k hk).zero) (A ((repR n A).getD c 0)) b) =>
  ih K (mrgA (srE k hk) n A) (mrgB (srE k hk) n A b) v1 v2 w4 hKlt ⟨hm1,hm2,fun i hi j hj=>zpE hk _ _ n (hp1 i hi) j,fun i hi j hj=>by
   obtain⟨n',rfl⟩:∃ n',n=n'+1:=⟨n-1,by omega⟩;exact(hp2 i hi n' (by omega) j hj).2⟩
 have h4:=fun(w6:World) (hg6:W2.grownBy w6 none) (gy:Nat) (Ay:Option Addr) (cy:Nat) (ys:Nat->Value) (hyc:w6.cell? ⟨gy,0,none⟩=some (.slice Ay K cy)) (hy:zaK w6 (.slice Ay K cy) K ys) (hyr:∀ d,d<K->zkx w6 (ys d) m (solveF (srE k hk) s K (mrgA (srE k hk) n A) (mrgB (srE k hk) n A b) d)) (hyf:∀ d,d<K->∀ j,j<m->zam (solveF (srE k hk) s K (mrgA (srE k hk) n A) (mrgB (srE k hk) n A b) d j)) =>
  (show ∃ rb2:Nat->Value,Calls prog 77 #[.slice Ab n cb,.slice Ac n cc,.func (.func 78) #[] #[.pointer (some ⟨gy,0,none⟩),.pointer (some ⟨w.heap.size,0,none⟩)]] w6
    (zlr (∀ i,i<n->∀ J,J<m->zam ((srE k hk).add (b i J) (solveF (srE k hk) s K (mrgA (srE k hk) n A) (mrgB (srE k hk) n A b) ((clsR n A).getD i 0) J))) n m (fun i=>txs (fun J=>(srE k hk).add (b i J) (solveF (srE k hk) s K (mrgA (srE k hk) n A) (mrgB (srE k hk) n A b) ((clsR n A).getD i 0) J))) w6) by
   obtain⟨rb2,hb1,hb2⟩:=(HI.out.mb).grown (zaa hg2 hg6);refine⟨rb2,zvA 78 zuC #[] #[.pointer (some ⟨gy,0,none⟩),.pointer (some ⟨w.heap.size,0,none⟩)] n n rb2 (fun c=>.int .i64 (((clsR n A).getD c 0:Nat):Int)) m _ _ (.slice Ab n cb) (.slice Ac n cc) w6 (by have:=HN.out.2.1;omega) hb1 (hcls.grown hg6) (zqab _) (fun i hi w' hw'=>?_)⟩;have h:=zBs hk (b i) (solveF (srE k hk) s K (mrgA (srE k hk) n A) (mrgB (srE k hk) n A b) ((clsR n A).getD i 0)) K m ((clsR n A).getD i 0) w.heap.size gy Ay cy ys (rb2 i) w' (by have:=HN.out.2.1;omega) (hκ i hi) ((hb2 i hi).grown hw').row (HI.out.fb i hi) ((xc.grown hg6).grown hw') (hw'.cell hyc (by simp)) (hy.grown hw') ((hyr _ (hκ i hi)).grown hw').row (hyf _ (hκ i hi));refine h.mono (fun e w3 h=>?_);rcases h with⟨hp,v,e1,⟨e2,q2⟩,q3⟩|⟨hp,q⟩;exact .inl ⟨hp,v,e1,⟨w'.heap.size,0,m,e2,zqab _,by have:=HN.out.2.1;unfold maxLen;omega,.inr (zqab _),q2⟩,q3⟩;exact .inr ⟨hp,q⟩)
 have Q1:=zHd h1;have Q2:=zHd h2;have Q3:=zHd h3;have Q4:=zHd h4;have HFV:=zHd (zAI zf zV);have HG2:=zHd hg2;have HKL:=zHd hKlt;clear h1 h2 h3 h4 zf zV ih hκ hρ zR hcls xc xr2 xl2 hg2 hKlt hKn;go_wp2_with fail;refine Q1.out.mono ?_;rintro e w3 (⟨hp1,v1,rfl,⟨zs1,rfl,hzs1⟩,hg3⟩|⟨hn,rfl,hg3⟩);rotate_left 1;exact⟨rfl,.inr ⟨fun h=>hn (HFV.out.1▸h).1,rfl,zaa HG2.out hg3⟩⟩;have p0:=hg3.cell d0 (by simp);have p1:=hg3.cell d1 (by simp);have p2:=hg3.cell d2 (by simp);have pb:=hg3.cell xb (by simp);have pr:=hg3.cell xr (by simp);have pl:=hg3.cell xl (by simp);have H3:=zHd (zAI hp1 (zAI hzs1 hg3));clear hp1 hzs1 hg3 d0 d1 d2 xb xr xl Q1;go_wp2_with fail;refine(Q2.out w3 H3.out.2.2).mono ?_;rintro e w4 (⟨hp2,v2,rfl,⟨zs2,rfl,hzs2⟩,hg4⟩|⟨hn,rfl,hg4⟩);rotate_left 1;exact⟨rfl,.inr ⟨fun h=>hn (HFV.out.1▸h).2.1,rfl,zaa (zaa HG2.out H3.out.2.2) hg4⟩⟩;have q0:=hg4.cell p0 (by simp);have q1:=hg4.cell p1 (by simp);have q2:=hg4.cell p2 (by simp);have qb:=hg4.cell pb (by simp);have qr:=hg4.cell pr (by simp);have ql:=hg4.cell pl (by simp);have H4:=zHd (zAI hp2 (zAI hzs2 hg4));clear hp2 hzs2 hg4 p0 p1 p2 pb pr pl Q2;go_wp2_with fail;refine(Q3.out _ _ w4 ((H3.out.2.1.mat (by have:=HN.out.2.1;have:=HKL.out;omega)).grown H4.out.2.2) (H4.out.2.1.mat (by have:=HN.out.2.1;have:=HKL.out;omega)) H3.out.1 H4.out.1).mono ?_;rintro e w5 (⟨hp3,v3,rfl,hy,hg5⟩|⟨hn,rfl,hg5⟩);rotate_left 1;exact⟨rfl,.inr ⟨fun h=>hn (HFV.out.1▸h).2.2.1,rfl,zaa (zaa (zaa HG2.out H3.out.2.2) H4.out.2.2) hg5⟩⟩;obtain⟨ys,⟨Ay,cy,rfl,hy1,hy2,hy3⟩,hyr⟩:=hy;have r0:=hg5.cell q0 (by simp);have r1:=hg5.cell q1 (by simp);have r2:=hg5.cell q2 (by simp);have rb:=hg5.cell qb (by simp);have rl:=hg5.cell ql (by simp);have hal:=zGA w5 (.cells #[.slice Ay K cy] 41) none;have s0:=hal.cell rb (by simp);have s1:=hal.cell rl (by simp);have H5:=zHd (zAI hp3 (zAI hg5 hal));have hKs:K<=s:=by have:=HN.out.1;have:=HKL.out;omega
 obtain⟨rb2,hc4⟩:=Q4.out (w5.alloc (.cells #[.slice Ay K cy] 41)) (zaa (zaa (zaa H3.out.2.2 H4.out.2.2) hg5) hal) w5.heap.size Ay cy ys (zan w5 _ _ rfl) (zaK.grown ⟨Ay,cy,rfl,hy1,hy2,hy3⟩ hal) (fun d hd=>(hyr d hd).grown hal) (zrl hk hKs hp3);have HC4:=zHd hc4;clear hp3 hg5 hal hc4 hy1 hy2 hy3 hyr q0 q1 q2 qb qr ql Q3 Q4 hKs r0 r1 r2 rb rl;go_wp2_with fail;refine HC4.out.mono ?_;rintro e w7 (⟨hp4,v4,rfl,⟨zs4,rfl,hzs4⟩,hg7⟩|⟨hn,rfl,hg7⟩);rotate_left 1;exact⟨rfl,.inr ⟨fun h=>hn (HFV.out.1▸h).2.2.2,rfl,zaa (zaa (zaa (zaa (zaa HG2.out H3.out.2.2) H4.out.2.2) H5.out.2.1) H5.out.2.2) hg7⟩⟩;have H7:=zHd (zAI hp4 (zAI hzs4 hg7));clear hp4 hzs4 hg7;go_wp2;go_ret;refine .inl ⟨HFV.out.1▸⟨H3.out.1,H4.out.1,H5.out.1,H7.out.1⟩,_,rfl,?_,zaa (zaa (zaa (zaa (zaa HG2.out H3.out.2.2) H4.out.2.2) H5.out.2.1) H5.out.2.2) H7.out.2.2⟩;show zbv w7 (.slice (some ⟨w5.heap.size+1,0,none⟩) n n) n m (solveF (srE k hk) (s+1) n A b);rw[HFV.out.2,show w5.heap.size+1=(w5.alloc (.cells #[.slice Ay K cy] 41)).heap.size by simp];exact H7.out.2.1.mat (by have:=HN.out.2.1;omega)
def zkj (hk:zad k)(m:Nat)(hm:1<=m):∀ (s n:Nat) (A b:Nat->Nat->El k) (av bv:Value) (w:World),n<=s->n+m<=10000->zhO w n m A b av bv ->
  Calls prog 41 #[zbl k,av,bv] w (zns hk s n m A b w):=by
 intro s
 induction s with
 | zero =>
  intro n A b av bv w hns hnm hin;obtain rfl:n=0:=by omega
  refine(zrm hk m hm 0 0 A b av bv w (by omega) hnm hin (fun K _ _ _ _ _ h=>absurd h (by omega))).mono (fun e w' h=>?_);rcases h with⟨_,v,h1,⟨rs,h2,_⟩,h4⟩|⟨hn,_⟩
  exact .inl ⟨trivial,v,h1,⟨rs,h2,fun i hi=>absurd hi (by omega)⟩,h4⟩;refine absurd ?_ hn;unfold SolveFits;rw[if_pos (show(repR 0 A).length=0 from rfl)];trivial
 | succ s ih =>
  intro n A b av bv w hns hnm hin;exact zrm hk m hm s n A b av bv w hns hnm hin (fun K A b av bv w hK hin2=>ih K A b av bv w (by omega) (by omega) hin2)
end
open Go.RowKit
def zgh (P:Prop)(Q:Value->World->Prop)(z:Value)(w:World)(e:Ending)(w':World):Prop :=
 (P/\∃ v,e=.returned (.tuple #[v,.int .i64 0])/\Q v w'/\w.grownBy w' none)∨(¬ P/\e=.returned (.tuple #[z,.int .i64 2])/\w.grownBy w' none)
section
variable {WB:Nat}
def zyo (p:Addr)(x E:Int)(older:List PanicEntry)(w:World)(hc:w.cell? p=some (.int .i64 x))(hz:w.frozen? p=false) :
  CallsD prog 67 #[.pointer (some p)] (.panicking ({ v:=.iface 28 (.int .i64 E),recovered:=false }::older)) w fun e u' w' =>
   e=.returned (.tuple #[])/\u'=.panicking ({ v:=.iface 28 (.int .i64 E),recovered:=true }::older)/\w'=w.setCell p (.int .i64 E):=by
 refine callsD_of_wpS func67 rfl fun c₀ cs hu=>?_;apply wpS_seq;apply wpS_region;simp[wpOpsS,go_sem,recoverD,hu,ntmps67,Exit.thenS];clear hu;obtain⟨fs,hfs⟩:∃ fs:List Frame,fs = { c₀ with mode:=.panicking ({ v:=.iface 28 (.int .i64 E),recovered:=true }::older) }::cs:=⟨_,rfl⟩;have HFS:=zHd hfs;rw[<- hfs];clear hfs;have h1:∀ w:World,(binOp .neq 20 (.iface 28 (.int .i64 E)) .nilIface).run prog w=.ok (.bool true) w:=fun w=>run_neq_held_nil _ _ _ _ (by kernel_rfl);have h2:∀ w:World,(Instr.typeAssert (.iface 28 (.int .i64 E)) 20 28 false).run prog w=.ok (.int .i64 E) w:=fun w=>by kernel_rfl
 refine wpS_of_wp ?_;go_wp2_with fail;clear h1 h2 hc hz;rw[HFS.out];exact⟨rfl,_,rfl,.tuple #[],by simp[results,results67],rfl,rfl,rfl⟩
def zFe (p:Addr)(w:World) :
  CallsD prog 67 #[.pointer (some p)] .returning w fun e u' w'=>e=.returned (.tuple #[])/\u'=.returning/\w'=w:=by
 refine callsD_of_wpS func67 rfl fun c₀ cs hu=>?_;apply wpS_seq;apply wpS_region;simp[wpOpsS,go_sem,recoverD,hu,ntmps67,Exit.thenS];refine wpS_of_wp ?_;go_wp2;cases c₀
 simp_all [bodyPostS,results,results67]
def zuD (A:Option Addr)(n c:Nat)(P:Prop)(Q:Value->World->Prop)(hP:P)(w w2:World)(tmps:Array Value)(ht:tmps=#[tmps.getD 0 undef,tmps.getD 1 undef,(.slice A n c),.pointer (some ⟨w.heap.size,0,none⟩),tmps.getD 4 undef,tmps.getD 5 undef,tmps.getD 6 undef])
  (hq:Q (.slice A n c) w2) (hb:w2.heap[w.heap.size]?=some (.cells #[.int .i64 0] 28 (0,0))) (hg:w.grownBy w2 none) :
  Leaves prog f39 tmps (zgh P Q (.slice none 0 0) w) [{ target:=.fn (.func 67) #[.pointer (some ⟨w.heap.size,0,none⟩)],args:=#[] }] .returning w2:=by
 have zE:=cell_of_one hb;refine leaves_cons (f:=67) (args:=#[.pointer (some ⟨w.heap.size,0,none⟩)]) (by simp) (by simp[go_sem]) ?_;refine(zFe ⟨w.heap.size,0,none⟩ _).mono ?_;rintro e u' w'' ⟨rfl,rfl,rfl⟩;rw[ht];refine⟨.tuple #[(.slice A n c),.int .i64 0],by simp[results,results39,go_sem,zE],.inl ⟨hP,_,rfl,hq,hg⟩⟩
def zuE (P:Prop)(Q:Value->World->Prop)(hP:¬ P)(w w2:World)(tmps:Array Value)(ht:tmps=#[tmps.getD 0 undef,tmps.getD 1 undef,(.slice none 0 0),.pointer (some ⟨w.heap.size,0,none⟩),tmps.getD 4 undef,tmps.getD 5 undef,tmps.getD 6 undef])
  (hb:w2.heap[w.heap.size]?=some (.cells #[.int .i64 0] 28 (0,0))) (hg:w.grownBy w2 none) :
  Leaves prog f39 tmps (zgh P Q (.slice none 0 0) w) [{ target:=.fn (.func 67) #[.pointer (some ⟨w.heap.size,0,none⟩)],args:=#[] }] (.panicking [{ v:=.iface 28 (.int .i64 2),recovered:=false }]) w2:=by
 have zE:=cell_of_one (one_setCell (u:=.int .i64 2) hb);refine leaves_cons (f:=67) (args:=#[.pointer (some ⟨w.heap.size,0,none⟩)]) (by simp) (by simp[go_sem]) ?_;refine(zyo ⟨w.heap.size,0,none⟩ 0 2 [] _ (cell_of_one hb) (free_of_one hb)).mono ?_;rintro e u' w'' ⟨rfl,rfl,rfl⟩;rw[ht];refine⟨.tuple #[(.slice none 0 0),.int .i64 2],by simp[results,results39,go_sem,zE],.inr ⟨hP,rfl,?_⟩⟩;exact zQbe
def zwI (F:Nat)(he:Enters F)(first cap:Array Value)(P:Prop)(Q:Value->World->Prop)(hmono:∀ v w1 w2 b,b<w1.heap.size->w1.grownBy w2 (some b)->b=WB->Q v w1->Q v w2)(w:World)(hWB:WB=w.heap.size)
  (h:Calls prog F (first++cap) (w.alloc (.cells #[.int .i64 0] 28)) (zbQ P (fun v w'=>(∃ A n c,v=(.slice A n c))/\Q v w') (w.alloc (.cells #[.int .i64 0] 28)))) :
  Calls prog 39 #[.func (.func F) first cap] w (zgh P Q (.slice none 0 0) w):=by
 have hmf := @zMF prog;have H:=zHd h;have HE:=zHd he;have HMO:=zHd hmono;clear h he hmono
 go_enter_defers func39,ntmps39
 go_wp2_with fail;rw[HE.out];refine H.out.mono ?_;rintro e w2 (⟨hp,v,rfl,⟨⟨A,n,c,rfl⟩,hq⟩,hg⟩|⟨hn,rfl,hg⟩)
 ·have hb:=alloc_old hg
  have zE:=cell_of_one hb;have hfree:=free_of_one hb;have HB:=zHd hb;have HG:=zHd hg;have HQ:=zHd (zAI hp hq);clear hb hg H HE hq hp;go_wp2;exact zuD A n c P Q HQ.out.1 w _ _ rfl (HMO.out _ _ _ _ (zqad.1 HB.out).1 (zac w2 ⟨w.heap.size,0,none⟩ _) hWB.symm HQ.out.2) (one_setCell HB.out) (zak (zaa (zGA _ _ none) HG.out) (zac w2 ⟨w.heap.size,0,none⟩ _) (zqab _))
 have hb:=alloc_old hg;have HB:=zHd hb;have HG:=zHd hg;clear hb hg H HE;exact zuE P Q hn w _ _ rfl HB.out (zaa (zGA _ _ none) HG.out)
def zBy (p:Addr)(x E:Int)(older:List PanicEntry)(w:World)(hc:w.cell? p=some (.int .i64 x))(hz:w.frozen? p=false) :
  CallsD prog 44 #[.pointer (some p)] (.panicking ({ v:=.iface 28 (.int .i64 E),recovered:=false }::older)) w fun e u' w' =>
   e=.returned (.tuple #[])/\u'=.panicking ({ v:=.iface 28 (.int .i64 E),recovered:=true }::older)/\w'=w.setCell p (.int .i64 E):=by
 refine callsD_of_wpS func44 rfl fun c₀ cs hu=>?_;apply wpS_seq;apply wpS_region;simp[wpOpsS,go_sem,recoverD,hu,ntmps44,Exit.thenS];clear hu;obtain⟨fs,hfs⟩:∃ fs:List Frame,fs = { c₀ with mode:=.panicking ({ v:=.iface 28 (.int .i64 E),recovered:=true }::older) }::cs:=⟨_,rfl⟩;have HFS:=zHd hfs;rw[<- hfs];clear hfs;have h1:∀ w:World,(binOp .neq 20 (.iface 28 (.int .i64 E)) .nilIface).run prog w=.ok (.bool true) w:=fun w=>run_neq_held_nil _ _ _ _ (by kernel_rfl);have h2:∀ w:World,(Instr.typeAssert (.iface 28 (.int .i64 E)) 20 28 false).run prog w=.ok (.int .i64 E) w:=fun w=>by kernel_rfl
 refine wpS_of_wp ?_;go_wp2_with fail;clear h1 h2 hc hz;rw[HFS.out];exact⟨rfl,_,rfl,.tuple #[],by simp[results,results44],rfl,rfl,rfl⟩
def zIu (p:Addr)(w:World) :
  CallsD prog 44 #[.pointer (some p)] .returning w fun e u' w'=>e=.returned (.tuple #[])/\u'=.returning/\w'=w:=by
 refine callsD_of_wpS func44 rfl fun c₀ cs hu=>?_;apply wpS_seq;apply wpS_region;simp[wpOpsS,go_sem,recoverD,hu,ntmps44,Exit.thenS];refine wpS_of_wp ?_;go_wp2;cases c₀
 simp_all [bodyPostS,results,results44]
def zwJ (A:Option Addr)(n c:Nat)(P:Prop)(Q:Value->World->Prop)(hP:P)(w w2:World)(tmps:Array Value)(ht:tmps=#[tmps.getD 0 undef,tmps.getD 1 undef,(.slice A n c),.pointer (some ⟨w.heap.size,0,none⟩),tmps.getD 4 undef,tmps.getD 5 undef,tmps.getD 6 undef])
  (hq:Q (.slice A n c) w2) (hb:w2.heap[w.heap.size]?=some (.cells #[.int .i64 0] 28 (0,0))) (hg:w.grownBy w2 none) :
  Leaves prog f19 tmps (zgh P Q (.slice none 0 0) w) [{ target:=.fn (.func 44) #[.pointer (some ⟨w.heap.size,0,none⟩)],args:=#[] }] .returning w2:=by
 have zE:=cell_of_one hb;refine leaves_cons (f:=44) (args:=#[.pointer (some ⟨w.heap.size,0,none⟩)]) (by simp) (by simp[go_sem]) ?_;refine(zIu ⟨w.heap.size,0,none⟩ _).mono ?_;rintro e u' w'' ⟨rfl,rfl,rfl⟩;rw[ht];refine⟨.tuple #[(.slice A n c),.int .i64 0],by simp[results,results19,go_sem,zE],.inl ⟨hP,_,rfl,hq,hg⟩⟩
def zwK (P:Prop)(Q:Value->World->Prop)(hP:¬ P)(w w2:World)(tmps:Array Value)(ht:tmps=#[tmps.getD 0 undef,tmps.getD 1 undef,(.slice none 0 0),.pointer (some ⟨w.heap.size,0,none⟩),tmps.getD 4 undef,tmps.getD 5 undef,tmps.getD 6 undef])
  (hb:w2.heap[w.heap.size]?=some (.cells #[.int .i64 0] 28 (0,0))) (hg:w.grownBy w2 none) :
  Leaves prog f19 tmps (zgh P Q (.slice none 0 0) w) [{ target:=.fn (.func 44) #[.pointer (some ⟨w.heap.size,0,none⟩)],args:=#[] }] (.panicking [{ v:=.iface 28 (.int .i64 2),recovered:=false }]) w2:=by
 have zE:=cell_of_one (one_setCell (u:=.int .i64 2) hb);refine leaves_cons (f:=44) (args:=#[.pointer (some ⟨w.heap.size,0,none⟩)]) (by simp) (by simp[go_sem]) ?_;refine(zBy ⟨w.heap.size,0,none⟩ 0 2 [] _ (cell_of_one hb) (free_of_one hb)).mono ?_;rintro e u' w'' ⟨rfl,rfl,rfl⟩;rw[ht];refine⟨.tuple #[(.slice none 0 0),.int .i64 2],by simp[results,results19,go_sem,zE],.inr ⟨hP,rfl,?_⟩⟩;exact zQbe
def zoT (F:Nat)(he:Enters F)(first cap:Array Value)(P:Prop)(Q:Value->World->Prop)(hmono:∀ v w1 w2 b,b<w1.heap.size->w1.grownBy w2 (some b)->b=WB->Q v w1->Q v w2)(w:World)(hWB:WB=w.heap.size)
  (h:Calls prog F (first++cap) (w.alloc (.cells #[.int .i64 0] 28)) (zbQ P (fun v w'=>(∃ A n c,v=(.slice A n c))/\Q v w') (w.alloc (.cells #[.int .i64 0] 28)))) :
  Calls prog 19 #[.func (.func F) first cap] w (zgh P Q (.slice none 0 0) w):=by
 have hmf := @zMF prog;have H:=zHd h;have HE:=zHd he;have HMO:=zHd hmono;clear h he hmono
 go_enter_defers func19,ntmps19
 go_wp2_with fail;rw[HE.out];refine H.out.mono ?_;rintro e w2 (⟨hp,v,rfl,⟨⟨A,n,c,rfl⟩,hq⟩,hg⟩|⟨hn,rfl,hg⟩)
 ·have hb:=alloc_old hg
  have zE:=cell_of_one hb;have hfree:=free_of_one hb;have HB:=zHd hb;have HG:=zHd hg;have HQ:=zHd (zAI hp hq);clear hb hg H HE hq hp;go_wp2;exact zwJ A n c P Q HQ.out.1 w _ _ rfl (HMO.out _ _ _ _ (zqad.1 HB.out).1 (zac w2 ⟨w.heap.size,0,none⟩ _) hWB.symm HQ.out.2) (one_setCell HB.out) (zak (zaa (zGA _ _ none) HG.out) (zac w2 ⟨w.heap.size,0,none⟩ _) (zqab _))
 have hb:=alloc_old hg;have HB:=zHd hb;have HG:=zHd hg;clear hb hg H HE;exact zwK P Q hn w _ _ rfl HB.out (zaa (zGA _ _ none) HG.out)
def zBz (p:Addr)(x E:Int)(older:List PanicEntry)(w:World)(hc:w.cell? p=some (.int .i64 x))(hz:w.frozen? p=false) :
  CallsD prog 53 #[.pointer (some p)] (.panicking ({ v:=.iface 28 (.int .i64 E),recovered:=false }::older)) w fun e u' w' =>
   e=.returned (.tuple #[])/\u'=.panicking ({ v:=.iface 28 (.int .i64 E),recovered:=true }::older)/\w'=w.setCell p (.int .i64 E):=by
 refine callsD_of_wpS func53 rfl fun c₀ cs hu=>?_;apply wpS_seq;apply wpS_region;simp[wpOpsS,go_sem,recoverD,hu,ntmps53,Exit.thenS];clear hu;obtain⟨fs,hfs⟩:∃ fs:List Frame,fs = { c₀ with mode:=.panicking ({ v:=.iface 28 (.int .i64 E),recovered:=true }::older) }::cs:=⟨_,rfl⟩;have HFS:=zHd hfs;rw[<- hfs];clear hfs;have h1:∀ w:World,(binOp .neq 20 (.iface 28 (.int .i64 E)) .nilIface).run prog w=.ok (.bool true) w:=fun w=>run_neq_held_nil _ _ _ _ (by kernel_rfl);have h2:∀ w:World,(Instr.typeAssert (.iface 28 (.int .i64 E)) 20 28 false).run prog w=.ok (.int .i64 E) w:=fun w=>by kernel_rfl
 refine wpS_of_wp ?_;go_wp2_with fail;clear h1 h2 hc hz;rw[HFS.out];exact⟨rfl,_,rfl,.tuple #[],by simp[results,results53],rfl,rfl,rfl⟩
def zIv (p:Addr)(w:World) :
  CallsD prog 53 #[.pointer (some p)] .returning w fun e u' w'=>e=.returned (.tuple #[])/\u'=.returning/\w'=w:=by
 refine callsD_of_wpS func53 rfl fun c₀ cs hu=>?_;apply wpS_seq;apply wpS_region;simp[wpOpsS,go_sem,recoverD,hu,ntmps53,Exit.thenS];refine wpS_of_wp ?_;go_wp2;cases c₀
 simp_all [bodyPostS,results,results53]
def zwL (s:ByteArray)(P:Prop)(Q:Value->World->Prop)(hP:P)(w w2:World)(tmps:Array Value)(ht:tmps=#[tmps.getD 0 undef,tmps.getD 1 undef,(.string s),.pointer (some ⟨w.heap.size,0,none⟩),tmps.getD 4 undef,tmps.getD 5 undef,tmps.getD 6 undef])
  (hq:Q (.string s) w2) (hb:w2.heap[w.heap.size]?=some (.cells #[.int .i64 0] 28 (0,0))) (hg:w.grownBy w2 none) :
  Leaves prog f25 tmps (zgh P Q (.string ⟨#[]⟩) w) [{ target:=.fn (.func 53) #[.pointer (some ⟨w.heap.size,0,none⟩)],args:=#[] }] .returning w2:=by
 have zE:=cell_of_one hb;refine leaves_cons (f:=53) (args:=#[.pointer (some ⟨w.heap.size,0,none⟩)]) (by simp) (by simp[go_sem]) ?_;refine(zIv ⟨w.heap.size,0,none⟩ _).mono ?_;rintro e u' w'' ⟨rfl,rfl,rfl⟩;rw[ht];refine⟨.tuple #[(.string s),.int .i64 0],by simp[results,results25,go_sem,zE],.inl ⟨hP,_,rfl,hq,hg⟩⟩
def zwM (P:Prop)(Q:Value->World->Prop)(hP:¬ P)(w w2:World)(tmps:Array Value)(ht:tmps=#[tmps.getD 0 undef,tmps.getD 1 undef,(.string ⟨#[]⟩),.pointer (some ⟨w.heap.size,0,none⟩),tmps.getD 4 undef,tmps.getD 5 undef,tmps.getD 6 undef])
  (hb:w2.heap[w.heap.size]?=some (.cells #[.int .i64 0] 28 (0,0))) (hg:w.grownBy w2 none) :
  Leaves prog f25 tmps (zgh P Q (.string ⟨#[]⟩) w) [{ target:=.fn (.func 53) #[.pointer (some ⟨w.heap.size,0,none⟩)],args:=#[] }] (.panicking [{ v:=.iface 28 (.int .i64 2),recovered:=false }]) w2:=by
 have zE:=cell_of_one (one_setCell (u:=.int .i64 2) hb);refine leaves_cons (f:=53) (args:=#[.pointer (some ⟨w.heap.size,0,none⟩)]) (by simp) (by simp[go_sem]) ?_;refine(zBz ⟨w.heap.size,0,none⟩ 0 2 [] _ (cell_of_one hb) (free_of_one hb)).mono ?_;rintro e u' w'' ⟨rfl,rfl,rfl⟩;rw[ht];refine⟨.tuple #[(.string ⟨#[]⟩),.int .i64 2],by simp[results,results25,go_sem,zE],.inr ⟨hP,rfl,?_⟩⟩;exact zQbe
def zyp (F:Nat)(he:Enters F)(first cap:Array Value)(P:Prop)(Q:Value->World->Prop)(hmono:∀ v w1 w2 b,b<w1.heap.size->w1.grownBy w2 (some b)->b=WB->Q v w1->Q v w2)(w:World)(hWB:WB=w.heap.size)
  (h:Calls prog F (first++cap) (w.alloc (.cells #[.int .i64 0] 28)) (zbQ P (fun v w'=>(∃ s,v=(.string s))/\Q v w') (w.alloc (.cells #[.int .i64 0] 28)))) :
  Calls prog 25 #[.func (.func F) first cap] w (zgh P Q (.string ⟨#[]⟩) w):=by
 have hmf := @zMF prog;have H:=zHd h;have HE:=zHd he;have HMO:=zHd hmono;clear h he hmono
 go_enter_defers func25,ntmps25
 go_wp2_with fail;rw[HE.out];refine H.out.mono ?_;rintro e w2 (⟨hp,v,rfl,⟨⟨s,rfl⟩,hq⟩,hg⟩|⟨hn,rfl,hg⟩)
 ·have hb:=alloc_old hg
  have zE:=cell_of_one hb;have hfree:=free_of_one hb;have HB:=zHd hb;have HG:=zHd hg;have HQ:=zHd (zAI hp hq);clear hb hg H HE hq hp;go_wp2;exact zwL s P Q HQ.out.1 w _ _ rfl (HMO.out _ _ _ _ (zqad.1 HB.out).1 (zac w2 ⟨w.heap.size,0,none⟩ _) hWB.symm HQ.out.2) (one_setCell HB.out) (zak (zaa (zGA _ _ none) HG.out) (zac w2 ⟨w.heap.size,0,none⟩ _) (zqab _))
 have hb:=alloc_old hg;have HB:=zHd hb;have HG:=zHd hg;clear hb hg H HE;exact zwM P Q hn w _ _ rfl HB.out (zaa (zGA _ _ none) HG.out)
end
open Go.RowKit
section
variable {k:Int}
def zrn {w:World}{ad:Addr}{v:Value}(h:w.cell? ad=some v):ad=⟨ad.block,ad.off,none⟩:=by
 obtain⟨b,o,s⟩:=ad;unfold World.cell? at h;split at h
 ·cases s with
  | none=>rfl
  | some p=>simp at h
 cases h
def zaK.toG {w:World}{v:Value}{m:Nat}{f:Nat->El k}(h:zaK w v m (txs f))(hm:1<=m):zkx w v m f:=by
 obtain⟨A,c,rfl,h1,h2,h3⟩:=h;obtain⟨ad,rfl,hb,hc⟩:=h3 0 (by omega);rw[ztL] at hc;have e:=zrn hc;refine⟨ad.block,ad.off,c,by rw[<- e],h1,h2,hb,fun j hj=>?_⟩;obtain⟨_,e2,_,hcj⟩:=h3 j hj;cases e2;rw[<- zcn,<- e];exact hcj
def zro {w:World}{b:Nat}{z:Int}{T:TypeId}(hb:w.heap[b]?=some (.cells #[.int .i64 z] T (0,0))){ad:Addr}{v:Value}(h:w.cell? ad=some v)(hv:∀ y,v ≠ .int .i64 y):ad.block≠b:=by
 intro e;have e2:=zrn h;rw[e2,e] at h;rw[zqbw w b ad.off _ _ (0,0) hb] at h;obtain⟨h1,h2⟩:=zqad.1 h;have:ad.off=0:=by simpa using h1
 simp[this] at h2;exact hv z h2.symm
def zpF (w:World)(v:Value)(n m:Nat)(F:Nat->Nat->El k)(b:Nat):Prop :=
 ∃ rs:Nat->Value,(∃ A cap,v=.slice A n cap/\n<=cap/\cap<=maxLen/\∀ j,j<n->∃ ad,A=some ad/\ad.block<w.heap.size/\ad.block≠b/\w.cell? (ad.add j)=some (rs j)) /\
  ∀ i,i<n->∃ g o c,rs i=.slice (some ⟨g,o,none⟩) m c/\m<=c/\c<=maxLen/\g≠b/\zar w g o m (txs (F i))
def zpF.mat {w:World}{v:Value}{n m:Nat}{F:Nat->Nat->El k}{b:Nat}(h:zpF w v n m F b):zbv w v n m F:=by
 obtain⟨rs,⟨A,cap,h1,h2,h3,h4⟩,h5⟩:=h;refine⟨rs,⟨A,cap,h1,h2,h3,fun j hj=>?_⟩,fun i hi=>?_⟩
 ·obtain⟨ad,e1,e2,_,e3⟩:=h4 j hj
  exact⟨ad,e1,e2,e3⟩
 obtain⟨g,o,c,e1,e2,e3,_,e4⟩:=h5 i hi;exact⟨g,o,c,e1,e2,e3,e4⟩
def zpF.kept {w w':World}{v:Value}{n m:Nat}{F:Nat->Nat->El k}{b:Nat}(h:zpF w v n m F b)(hg:w.grownBy w' (some b)):zpF w' v n m F b:=by
 obtain⟨rs,⟨A,cap,h1,h2,h3,h4⟩,h5⟩:=h;refine⟨rs,⟨A,cap,h1,h2,h3,fun j hj=>?_⟩,fun i hi=>?_⟩
 ·obtain⟨ad,e1,e2,e0,e3⟩:=h4 j hj
  exact⟨ad,e1,zqba e2 hg.size,e0,(zaL (ad:=ad.add j) (by rw[zaw];exact hg.block _ e2 (by simpa using e0))).trans e3⟩
 obtain⟨g,o,c,e1,e2,e3,e0,e4⟩:=h5 i hi;exact⟨g,o,c,e1,e2,e3,e0,e4.grownB hg e0⟩
def zbv.other {w:World}{v:Value}{n m:Nat}{F:Nat->Nat->El k}{b:Nat}(h:zbv w v n m F)(hm:0<n->1<=m){z:Int}{T:TypeId}(hb:w.heap[b]?=some (.cells #[.int .i64 z] T (0,0))):zpF w v n m F b:=by
 obtain⟨rs,⟨A,cap,h1,h2,h3,h4⟩,h5⟩:=h;refine⟨rs,⟨A,cap,h1,h2,h3,fun j hj=>?_⟩,fun i hi=>?_⟩
 ·obtain⟨ad,e1,e2,e3⟩:=h4 j hj
  obtain⟨g,o,c,e4,_⟩:=h5 j hj;refine⟨ad,e1,e2,?_,e3⟩;rw[<- zaw ad j];exact zro hb e3 (fun y=>by rw[e4];simp)
 obtain⟨g,o,c,e1,e2,e3,e4⟩:=h5 i hi;exact⟨g,o,c,e1,e2,e3,zro (ad:=⟨g,o+0,none⟩) hb (e4.2 0 (hm (by omega))) (fun y=>by unfold txs;simp),e4⟩
def zbv.none {w:World}{v:Value}{m m':Nat}{F F':Nat->Nat->El k}(h:zbv w v 0 m F):zbv w v 0 m' F':=by
 obtain⟨rs,h1,_⟩:=h;exact⟨rs,h1,fun i hi=>absurd hi (by omega)⟩
def zbv.shape {w:World}{v:Value}{n m:Nat}{F:Nat->Nat->El k}(h:zbv w v n m F):∃ A c,v=.slice A n c:=by
 obtain⟨rs,⟨A,c,e,_⟩,_⟩:=h;exact⟨A,c,e⟩
def zbv.congr {w:World}{v:Value}{n m:Nat}{F F':Nat->Nat->El k}(h:zbv w v n m F)(e:∀ i,i<n->∀ j,j<m->F i j=F' i j):zbv w v n m F':=by
 obtain⟨rs,h1,h2⟩:=h;refine⟨rs,h1,fun i hi=>?_⟩;obtain⟨g,o,c,e1,e2,e3,e4⟩:=h2 i hi;refine⟨g,o,c,e1,e2,e3,e4.1,fun j hj=>(e4.2 j hj).trans ?_⟩;unfold txs;rw[e i hi j hj]
end
open Go.RowKit
section
variable {k:Int}
def zwN:Enters 40:=enters_of func40 (by kernel_rfl) rfl
def zIw (hk:zad k){g n:Nat}{zs:List Value}{w:World}(hn:n<=10000)(hl:zs.length=n)(h1:zar w g 0 n (fun j=>zs.getD j (.slice none 0 0)))(h2:zlQ hk g n zs w):zbv w (.slice (some ⟨g,0,none⟩) n n) n n (idm (srE k hk)) :=
 ⟨_,h1.row (zqab _) (by unfold maxLen;omega),fun i hi=>by
  obtain⟨gi,e1,e2,e3⟩:=h2 i (by omega);exact⟨gi,0,n,e1,zqab _,by unfold maxLen;omega,e3⟩⟩
def zKG (hk:zad k)(i j:Nat):zam (idm (srE k hk) i j):=by
 unfold idm;split;exact zsD hk;exact zce hk
def zBA (hk:zad k)(n:Nat)(A:Nat->Nat->El k)(av bv:Value)(w:World)(hn:n<=60)(ha:zbv w av n n A)(hb:zbv w bv n n (idm (srE k hk)))(hf:∀ i,i<n->∀ j,j<n->zam (A i j)) :
  Calls prog 41 #[zbl k,av,bv] w (zbQ (SolveFits (srE k hk) zam n n n A (idm (srE k hk))) (fun v w'=>zbv w' v n n (stM (srE k hk) A n)) w):=by
 by_cases h0:n=0
 ·subst h0
  refine(zkj hk 1 (zqab _) 0 0 A (idm (srE k hk)) av bv w (zqab _) (by omega) ⟨ha,hb.none,fun i hi=>absurd hi (by omega),fun i hi=>absurd hi (by omega)⟩).mono (fun e w' h=>?_);rcases h with⟨_,v,h1,h2,h4⟩|⟨hn,_⟩
  exact .inl ⟨trivial,v,h1,h2.none,h4⟩;exact absurd trivial hn
 refine(zkj hk n (by omega) n n A (idm (srE k hk)) av bv w (zqab _) (by omega) ⟨ha,hb,hf,fun i _ j _=>zKG hk i j⟩).mono (fun e w' h=>?_);rcases h with⟨hp,v,h1,h2,h4⟩|h
 ·refine .inl ⟨hp,v,h1,h2.congr (fun i hi j hj=>?_),h4⟩
  rw[zgH _ n n A _ (zqab _) i j hi,zGp _ A i hj]
 exact .inr h
def zFf (hk:zad k)(n gk ga ca:Nat)(Aa:Option Addr)(A:Nat->Nat->El k)(w:World)(hn:n<=60)(hkc:w.cell? ⟨gk,0,none⟩=some (.int .i64 k))(hac:w.cell? ⟨ga,0,none⟩=some (.slice Aa n ca))(ha:zbv w (.slice Aa n ca) n n A)(hf:∀ i,i<n->∀ j,j<n->zam (A i j)) :
  Calls prog 40 #[.pointer (some ⟨gk,0,none⟩),.pointer (some ⟨ga,0,none⟩)] w (zbQ (SolveFits (srE k hk) zam n n n A (idm (srE k hk))) (fun v w'=>zbv w' v n n (stM (srE k hk) A n)) w):=by
 have hof:=fun w'=>zot k w';have hun:=fun w'=>zIp hk n w' (by omega);have hso:=fun(bv:Value) (w':World) (hg:w.grownBy w' none) (hb:zbv w' bv n n (idm (srE k hk)))=>zBA hk n A (.slice Aa n ca) bv w' hn (ha.grown hg) hb hf;have HO:=zHd hof;have HU:=zHd hun;have HS:=zHd hso;have HN:=zHd hn;clear hof hun hso hf ha hn;unfold zbl at *;go_enter func40,ntmps40;go_wp2_with fail;refine(HO.out _).mono ?_;rintro e w1 ⟨rfl,hg1⟩;have k1:=hg1.cell hkc (by simp);have a1:=hg1.cell hac (by simp);have HG1:=zHd hg1;clear hg1 hkc hac;go_upto_region 2 with(fail);have hal:=zGA w1 (.cells #[.int .i64 k,.string (zag k),.string (zal k)] 57) none;have x0:=zan w1 #[.int .i64 k,.string (zag k),.string (zal k)] 57 (j:=0) rfl;have x1:=zan w1 #[.int .i64 k,.string (zag k),.string (zal k)] 57 (j:=1) rfl;have x2:=zan w1 #[.int .i64 k,.string (zag k),.string (zal k)] 57 (j:=2) rfl;have a2:=hal.cell a1 (by simp);have hg2:=zaa HG1.out hal;generalize w1.alloc (.cells #[.int .i64 k,.string (zag k),.string (zal k)] 57)=W at *;have d0:W.drew.cell? ⟨w1.heap.size,0,none⟩=some (.int .i64 k):=x0;have d1:W.drew.cell? ⟨w1.heap.size,1,none⟩=some (.string (zag k)):=x1;have d2:W.drew.cell? ⟨w1.heap.size,2,none⟩=some (.string (zal k)):=x2;have da:W.drew.cell? ⟨ga,0,none⟩=some (.slice Aa n ca):=a2;have HG:=zHd (zaa hg2 (zaf W none));clear x0 x1 x2 a1 a2 k1 hal hg2
 go_region_held2 (fun W'=>W'.cell? ⟨w1.heap.size,0,none⟩=some (.int .i64 k)/\W'.cell? ⟨w1.heap.size,1,none⟩=some (.string (zag k))/\W'.cell? ⟨w1.heap.size,2,none⟩=some (.string (zal k))/\W'.cell? ⟨ga,0,none⟩=some (.slice Aa n ca)) (first|exact⟨d0,d1,d2,da⟩|exact S5|exact S6|go_keep)
  (first
  | (go_at_call 42;refine(HU.out W.drew).mono ?_;rintro e w5 ⟨g,zs,rfl,hgs,hzl,hra,hru,hg5⟩;have S5:=zAI (hg5.cell d0 (by simp)) (zAI (hg5.cell d1 (by simp)) (zAI (hg5.cell d2 (by simp)) (hg5.cell da (by simp))));have H5:=zHd (zAI (zIw hk (by have:=HN.out;omega) hzl hra hru) (zaa HG.out hg5));clear hgs hzl hra hru hg5)
  | (go_at_call 41;refine(HS.out _ w5 H5.out.2 H5.out.1).mono ?_;rintro e w6 (⟨hp6,v6,rfl,hres,hg6⟩|⟨hn,rfl,hg6⟩);rotate_left 1;(exact⟨rfl,.inr ⟨hn,rfl,zaa H5.out.2 hg6⟩⟩);have S6:=zAI (hg6.cell S5.1 (by simp)) (zAI (hg6.cell S5.2.1 (by simp)) (zAI (hg6.cell S5.2.2.1 (by simp)) (hg6.cell S5.2.2.2 (by simp))));have H6:=zHd (zAI hp6 (zAI hres (zaa H5.out.2 hg6)));clear hp6 hres hg6))
 all_goals
  go_wp2;go_ret;exact .inl ⟨H6.out.1,_,rfl,H6.out.2.1,H6.out.2.2⟩
def zIx (hk:zad k){n:Nat}{G:Nat->Nat->ByteArray}(h:∀ i j,i<n->j<n->∃ v,Val k (G i j) v):∃ A:Nat->Nat->El k,∀ i,i<n->∀ j,j<n->G i j=tx (A i j)/\zam (A i j):=by
 have h1:∀ i j,∃ v:El k,i<n->j<n->G i j=tx v/\zam v:=fun i j=>by
  by_cases h2:i<n/\j<n
  ·obtain⟨v,hv⟩:=h i j h2.1 h2.2
   refine⟨⟨v,hv.has⟩,fun _ _=>⟨hv.e.text,?_⟩⟩;have e:=hv.e;show Fits v;rcases v with(_|_)|x
   trivial;trivial;exact e.short
  exact⟨(srE k hk).zero,fun h3 h4=>absurd ⟨h3,h4⟩ h2⟩
 exact⟨fun i j=>Classical.choose (h1 i j),fun i hi j hj=>Classical.choose_spec (h1 i j) hi hj⟩
def zjD (k:Int)(n:Nat)(ln:Nat->Nat)(G:Nat->Nat->ByteArray)(w:World)(e:Ending)(w':World):Prop :=
 w.grownBy w' none/\((¬ zre k n ln G/\e=.returned (.tuple #[.slice none 0 0,.int .i64 1]))∨(zre k n ln G/\60<n/\e=.returned (.tuple #[.slice none 0 0,.int .i64 2])) ∨
  (n<=60/\(∀ i,i<n->ln i=n)/\∃ (hk:zad k) (A:Nat->Nat->El k),(∀ i,i<n->∀ j,j<n->G i j=tx (A i j)/\zam (A i j)) /\
   ((SolveFits (srE k hk) zam n n n A (idm (srE k hk))/\∃ v,e=.returned (.tuple #[v,.int .i64 0])/\zbv w' v n n (stM (srE k hk) A n))∨(¬ SolveFits (srE k hk) zam n n n A (idm (srE k hk))/\e=.returned (.tuple #[.slice none 0 0,.int .i64 2])))))
def zfu.mat (hk:zad k){w:World}{v:Value}{n:Nat}{ln:Nat->Nat}{G:Nat->Nat->ByteArray}{A:Nat->Nat->El k}(h:zfu w v n ln G)(hl:∀ i,i<n->ln i=n)(hA:∀ i,i<n->∀ j,j<n->G i j=tx (A i j)/\zam (A i j)):zbv w v n n A:=by
 obtain⟨rs,h1,h2⟩:=h;refine⟨rs,h1,fun i hi=>?_⟩;have h3:=h2 i hi;rw[hl i hi] at h3;refine zaK.toG ?_ (by omega);obtain⟨Ai,c,e1,e2,e3,e4⟩:=h3;refine⟨Ai,c,e1,e2,e3,fun j hj=>?_⟩;obtain⟨ad,q1,q2,q3⟩:=e4 j hj;refine⟨ad,q1,q2,q3.trans ?_⟩;unfold txs;rw[<- (hA i hi j hj).1]
def zpG (k:Int)(n:Nat)(ln:Nat->Nat)(G:Nat->Nat->ByteArray)(av:Value)(w:World)(hn:n<=10000)(ha:zfu w av n ln G)(hs:∀ i j,(G i j).size<=maxLen) :
  Calls prog 16 #[.int .i64 k,av] w (zjD k n ln G w):=by
 have hW:w.grownBy ((w.alloc (.cells #[.int .i64 k] 3)).alloc (.cells #[av] 41)) none:=zaa (zGA _ _ none) (zGA _ _ none);have him:=zwv k n ln G av _ hn (ha.grown hW) hs
 have hav:∃ Aa ca,av=.slice Aa n ca:=by
  obtain⟨rs,⟨Aa,ca,e,_⟩,_⟩:=ha;exact⟨Aa,ca,e⟩
 obtain⟨Aa,ca,rfl⟩:=hav;have HI:=zHd him;have HA:=zHd ha;have HW:=zHd hW;clear him ha hW hs;have hk1:((w.alloc (.cells #[.int .i64 k] 3)).alloc (.cells #[.slice Aa n ca] 41)).cell? ⟨w.heap.size,0,none⟩=some (.int .i64 k):=(zGA _ _ none).cell (zan w #[.int .i64 k] _ rfl) (by simp)
 have ha1:((w.alloc (.cells #[.int .i64 k] 3)).alloc (.cells #[.slice Aa n ca] 41)).cell? ⟨w.heap.size+1,0,none⟩=some (.slice Aa n ca):=by
  have h:=zan (w.alloc (.cells #[.int .i64 k] 3)) #[.slice Aa n ca] 41 (j:=0) (u:=.slice Aa n ca) rfl;rw[show(w.alloc (.cells #[.int .i64 k] 3)).heap.size=w.heap.size+1 by simp] at h;exact h
 have HX:=zHd (zAI hk1 ha1);have hmf := @zMF prog;clear hk1 ha1;go_enter func16,ntmps16;go_wp2_with fail;refine HI.out.mono ?_;rintro e w1 ⟨b,rfl,hb,hg1⟩;have k1:=hg1.cell HX.out.1 (by simp);have a1:=hg1.cell HX.out.2 (by simp);have hgw:w.grownBy w1 none:=zaa HW.out hg1;have HB:=zHd hb;have HG:=zHd hgw;clear hb hg1 hgw HI HX HW;cases b
 ·go_wp2
  refine zqby (v:=.tuple #[.slice none 0 0,.int .i64 1]) (by simp[results,results16,go_sem]) rfl ⟨HG.out,.inl ⟨fun h=>?_,rfl⟩⟩;have:=HB.out.2 h;cases this
 have hm:=HB.out.1 rfl
 by_cases h60:60<n
 ·have t1:decide (60<n)=true:=by simpa using h60
  have t2:decide ((60:Int)<(n:Int))=true:=by simp;omega
  have t3:(60:Int)<(n:Int):=by omega
  have HM:=zHd (zAI hm h60);clear hm h60;go_wp2;exact zqby (v:=.tuple #[.slice none 0 0,.int .i64 2]) (by simp[results,results16,go_sem]) rfl ⟨HG.out,.inr (.inl ⟨HM.out.1,HM.out.2,rfl⟩)⟩
 have t1:decide (60<n)=false:=by simpa using h60
 have t2:decide ((60:Int)<(n:Int))=false:=by simp;omega
 have t3:¬ (60:Int)<(n:Int):=by omega
 obtain⟨hk,hl,hv⟩:=hm;obtain⟨A,hA⟩:=zIx hk hv;have hmat:=(HA.out.grown HG.out).mat hk hl hA;have hal:=zGA w1 (.cells #[.int .i64 0] 28) none;have hst:=zFf hk n w.heap.size (w.heap.size+1) ca Aa A (w1.alloc (.cells #[.int .i64 0] 28)) (by omega) (hal.cell k1 (by simp)) (hal.cell a1 (by simp)) (hmat.grown hal) (fun i hi j hj=>(hA i hi j hj).2)
 have hat:=zwI (WB:=w1.heap.size) 40 zwN #[] #[.pointer (some ⟨w.heap.size,0,none⟩),.pointer (some ⟨w.heap.size+1,0,none⟩)] (SolveFits (srE k hk) zam n n n A (idm (srE k hk))) (fun v w'=>zpF w' v n n (stM (srE k hk) A n) w1.heap.size)
  (fun v wa wb b hb hg e hq=>by subst e;exact hq.kept hg) w1 rfl (hst.mono (fun e w' h=>by
   rcases h with⟨hp,v,h1,h2,h4⟩|h
   ·obtain⟨A1,c1,e1⟩:=h2.shape
    exact .inl ⟨hp,v,h1,⟨⟨A1,_,c1,e1⟩,h2.other (fun h=>h) ((h4.block w1.heap.size (by simp) (by simp)).trans (zaG w1 _))⟩,h4⟩
   exact .inr h))
 have HT:=zHd hat;have HF:=zHd (zAI h60 (zAI hl hA));clear hat hst hal hmat hA hl hv h60;go_wp2_with fail;refine HT.out.mono ?_;rintro e w2 (⟨hp,v,rfl,hq,hg2⟩|⟨hn2,rfl,hg2⟩)
 ·have H2:=zHd (zAI hp (zAI hq.mat (zaa HG.out hg2)))
  clear hp hq hg2;go_wp2;exact zqby (v:=.tuple #[v,.int .i64 0]) (by simp[results,results16,go_sem]) rfl ⟨H2.out.2.2,.inr (.inr ⟨by have:=HF.out.1;omega,HF.out.2.1,hk,A,HF.out.2.2,.inl ⟨H2.out.1,v,rfl,H2.out.2.1⟩⟩)⟩
 have H2:=zHd (zAI hn2 (zaa HG.out hg2));clear hn2 hg2;go_wp2;exact zqby (v:=.tuple #[.slice none 0 0,.int .i64 2]) (by simp[results,results16,go_sem]) rfl ⟨H2.out.2,.inr (.inr ⟨by have:=HF.out.1;omega,HF.out.2.1,hk,A,HF.out.2.2,.inr ⟨H2.out.1,rfl⟩⟩)⟩
end
open Go.RowKit
def zBB (n t g:Nat)(L:Nat->Value)(a:ByteArray)(fv:Value)(w:World)(hn:t<n)(hf:zaK w fv n L)(h0:L t=.string a)(hi:w.cell? ⟨g,0,none⟩=some (.int .i64 (t:Int))) :
  Calls prog 87 #[fv,.pointer (some ⟨g,0,none⟩)] w (zab (.string a) w):=by
 obtain⟨A,c,rfl,h1,h2,h3⟩:=hf;obtain⟨ad,rfl,hb,hc⟩:=h3 t hn;rw[h0] at hc;have i1:(t:Int)<(n:Int):=by omega
 have i2:¬ (n:Int)<=(t:Int):=by omega
 have i3:¬ (t:Int)<0:=by omega
 clear h3 hb;go_enter func87,ntmps87;go_wp2;exact zQbP
def zuF:Enters 87:=enters_of func87 (by kernel_rfl) rfl
def zwO (G:Nat->Nat->ByteArray)(H n:Nat)(zs:List Value)(wr:World):Prop :=
 ∀ t,t<zs.length->∃ g,zs.getD t (.slice none 0 0)=.slice (some ⟨g,0,none⟩) n n/\H<g/\zar wr g 0 n (fun i=>.string (G i t))
def zsR (n:Nat)(V:Nat->Value)(G:Nat->Nat->ByteArray)(lv:Value)(w:World)(hn:n<=10000)(hl:zaK w lv n V)(zW:∀ i,i<n->zaK w (V i) n (fun j=>.string (G i j))) :
  Calls prog 51 #[lv] w (fun e w'=>∃ zs,e=.returned (.slice (some ⟨w.heap.size,0,none⟩) n n)/\zs.length=n/\zar w' w.heap.size 0 n (fun j=>zs.getD j (.slice none 0 0))/\zwO G w.heap.size n zs w'/\w.grownBy w' none):=by
 obtain⟨i0,hi,hz0,hz1,hz2⟩:=info_parts zfb
 have hm:∀ (t g:Nat) (w':World),t<n->w.grownBy w' none->w'.cell? ⟨g,0,none⟩=some (.int .i64 (t:Int))->Calls prog 84 #[lv,.func (.func 87) #[] #[.pointer (some ⟨g,0,none⟩)]] w' (fun e w2=>e=.returned (.slice (some ⟨w'.heap.size,0,none⟩) n n)/\zar w2 w'.heap.size 0 n (fun i=>.string (G i t))/\w'.grownBy w2 none):=by
  intro t g w' ht hg hc
  have h:=zmj 87 zuF #[] #[.pointer (some ⟨g,0,none⟩)] n V (fun _=>True) (fun i=>G i t) lv w' hn (hl.grown hg) (fun i hi w2 hg2=>by
   have h1:=zBB n t g _ (G i t) (V i) w2 ht (((zW i hi).grown hg).grown hg2) rfl (hg2.cell hc (by simp));exact h1.mono (fun e w3 h3=>.inl ⟨trivial,h3⟩))
  refine h.mono (fun e w2 h2=>?_);rcases h2 with⟨-,v,rfl,⟨rfl,hr⟩,hg2⟩|⟨hnp,-⟩
  exact⟨rfl,hr,hg2⟩;exact absurd (fun _ _=>trivial) hnp
 obtain⟨A,c,rfl,hl1,hl2,-⟩:=hl;have HM:=zHd hm;have HN:=zHd hn;clear hm hn zW hl1 hl2;have n0:¬ (n:Int)<0:=by omega
 go_enter func51,ntmps51;go_wp2_with (at_make;refine wpList_make_full _ rfl _ _ 41 rfl w.heap.size 27 i0 (.slice none 0 0) 1 underlying41 hi hz0 hz1 _ _ _ _ n rfl rfl ?c0 ?c1 ?c2 (by have:=HN.out;unfold maxLen;omega) (zqab _) ?_)
 case c0=>omega
 case c1=>omega
 case c2=>have:=HN.out;first|omega|(rw[hz2];omega)
 intro w1 zO hgr;have HFI:=zHd (zaD.start zO hgr);clear zO hgr;go_wp2
 go_loopw [10] (fun iv wr=>∃ zs:List Value,iv=.int .i64 (zs.length:Int)/\zaD 27 (.slice none 0 0) n zs w wr/\zwO G w.heap.size n zs wr) (fun iv _=>n-(intOf iv).toNat)
 case atStart=>exact⟨[],rfl,HFI.out,fun i hi=>absurd hi (by simp)⟩
 case round =>
  obtain⟨zs,rfl,zF,zR⟩:=hrel;obtain⟨t,hzt⟩:∃ t,zs.length=t:=⟨_,rfl⟩;have hle:=zF.le
  by_cases ht:t<n
  ·have t1:decide (t<n)=true:=by simpa using ht
   have t1':decide ((t:Int)<(n:Int))=true:=by simpa using ht
   have hit:(t:Int)<(n:Int):=by omega
   have hit0:¬ (t:Int)<0:=by omega
   have n1:IntKind.i64.wrap ((t:Int)+1)=(t:Int)+1:=by have:=HN.out;rw[zqah];omega
   have hwr:w.heap.size<wr.heap.size:=(zqad.1 zF.row).1;have HF:=zHd zF;have HR:=zHd zR;have HT:=zHd (zAI ht (zAI hzt (zAI hle hwr)));rw[hzt];clear zF zR ht hle hzt hwr;go_upto_region 5 with(fail);have c0:(wr.alloc (.cells #[.int .i64 (t:Int)] 3)).cell? ⟨wr.heap.size,0,none⟩=some (.int .i64 (t:Int)):=zan wr #[.int .i64 (t:Int)] 3 (j:=0) rfl;have hU:wr.grownBy (wr.alloc (.cells #[.int .i64 (t:Int)] 3)) none:=zGA _ _ none;generalize wr.alloc (.cells #[.int .i64 (t:Int)] 3)=U at *;have d0:U.drew.cell? ⟨wr.heap.size,0,none⟩=some (.int .i64 (t:Int)):=c0;have HG:=zHd (zaa hU (zaf U none));have hne:¬ wr.heap.size=w.heap.size:=by have:=HT.out.2.2.2;omega
   clear hU
   go_region_held3 (fun W'=>W'.cell? ⟨wr.heap.size,0,none⟩=some (.int .i64 (t:Int))) (first|exact s1|go_keep)
    (first
     | (go_at_call 84;refine(HM.out t wr.heap.size _ HT.out.1 (zaa HF.out.gr HG.out) d0).mono ?_;rintro e w5 ⟨rfl,hr5,hg5⟩;have s0:=hg5.cell d0 (by simp);have s1:=zbc (w:=w5) (o:=t) (u:=.slice (some ⟨U.drew.heap.size,0,none⟩) n n) hne s0;have q0:=((HF.out.grown HG.out).grown hg5).cell (by rw[HT.out.2.1];exact HT.out.1);have z0:=((HF.out.grown HG.out).grown hg5).free t;rw[HT.out.2.1] at q0;have H5:=zHd (zAI hr5 hg5);clear hr5 hg5))
   all_goals
    go_wp2;have hsz:=HG.out.size;have hzt:=HT.out.2.1;have hws:=HT.out.2.2.2;have hgg:=zaa HG.out H5.out.2;have zp:=((HF.out.grown HG.out).grown H5.out.2).put (by rw[hzt];exact HT.out.1) (.slice (some ⟨U.drew.heap.size,0,none⟩) n n);rw[hzt] at zp;refine⟨⟨zs++[.slice (some ⟨U.drew.heap.size,0,none⟩) n n],by simp[hzt],zp,fun i hi=>?_⟩,by have:=HT.out.1;simp[intOf];omega⟩
    by_cases hil:i<zs.length
    ·obtain⟨gi,q1,q2,q3⟩:=HR.out i hil
     refine⟨gi,?_,q2,(q3.grown hgg).grownB (zac _ _ _) (by show gi≠w.heap.size;omega)⟩;rw[zqaa,zqal hil,<- zqaa];exact q1
    have hie:i=t:=(by simp at hi;omega);subst hie;refine⟨U.drew.heap.size,?_,by omega,H5.out.1.grownB (zac _ _ _) (by show U.drew.heap.size≠w.heap.size;omega)⟩;rw[zqaa,zqaq (by omega),hzt,zqbr];rfl
  have hte:t=n:=by omega
  subst hte;have t1:decide (t<t)=false:=by simp
  have t1':decide ((t:Int)<(t:Int))=false:=by simp
  have HF:=zHd zF;have HR:=zHd zR;have HT:=zHd hzt;rw[hzt];clear zF zR ht hle hzt;go_wp2;go_ret;exact⟨zs,rfl,HT.out,HF.out.rowAt HT.out,HR.out,HF.out.gr⟩
open Go.RowKit
def zrp (n m:Nat)(X Y:Nat->ByteArray):Prop:=n=m/\∀ i,i<n->X i=Y i
def ziv (n m:Nat)(X Y:Nat->ByteArray)(av bv:Value)(w:World)(hn:n<=10000)(hm:m<=10000)(ha:zaK w av n (fun i=>.string (X i)))(hb:zaK w bv m (fun i=>.string (Y i))) :
  Calls prog 15 #[av,bv] w (zdk (zrp n m X Y) w):=by
 obtain⟨Aa,ca,rfl,_,_,ha3⟩:=ha;obtain⟨Ab,cb,rfl,_,_,hb3⟩:=hb;have HA:=zHd ha3;have HB:=zHd hb3;have HN:=zHd (zAI hn hm);clear ha3 hb3
 by_cases hnm:n=m
 ·subst hnm
  have t1:((n:Int)==(n:Int))=true:=by simp
  have t2:((n:Int) != (n:Int))=false:=by simp
  clear hn hm;go_enter func15,ntmps15;go_wp2
  go_loopw [5] (fun iv wr=>∃ i:Nat,i<=n/\iv=.int .i64 (i:Int)/\w.grownBy wr none/\∀ x,x<i->X x=Y x) (fun iv _=>n-(intOf iv).toNat)
  case atStart=>exact⟨0,zqaw _,rfl,World.grownBy.refl _ _,fun x hx=>absurd hx (by omega)⟩
  case round =>
   obtain⟨i,hi,rfl,hg,hx⟩:=hrel
   by_cases hin:i<n
   ·obtain⟨ad,rfl,hbl,hca⟩:=HA.out i hin
    obtain⟨bd,rfl,hbl2,hcb⟩:=HB.out i hin;have q1:wr.drew.cell? (ad.add i)=some (.string (X i)):=(zaL (w:=w) (w':=wr) (ad:=ad.add i) (by rw[zaw];exact hg.block _ hbl (by simp))).trans hca;have q2:wr.drew.cell? (bd.add i)=some (.string (Y i)):=(zaL (w:=w) (w':=wr) (ad:=bd.add i) (by rw[zaw];exact hg.block _ hbl2 (by simp))).trans hcb;have u1:decide (i<n)=true:=(by simpa using hin);have u1':decide ((i:Int)<(n:Int))=true:=(by simpa using hin);have hit:(i:Int)<(n:Int):=(by omega);have hi0:(0:Int)<=(i:Int):=(by omega);have n1:IntKind.i64.wrap ((i:Int)+1)=(i:Int)+1:=(by have:=HN.out;rw[zqah];omega);have HI:=zHd (zAI hin (zAI hg hx));clear hi hin hg hx hbl hbl2 hca hcb;rcases zdn (X i) (Y i) with⟨f1,e1⟩|⟨f1,e1⟩
    ·have f2:((X i).toList != (Y i).toList)=false:=by simp[bne,f1]
     have HE:=zHd e1;clear e1;go_upto_region 6 with(fail)
     go_region_held2 (fun W'=>W'.cell? (ad.add i)=some (.string (X i))/\W'.cell? (bd.add i)=some (.string (Y i))) (first|exact⟨q1,q2⟩|go_keep) (fail)
     all_goals
      go_wp2;refine⟨⟨i+1,HI.out.1,by simp,zaa HI.out.2.1 (zaf wr none),fun x hx=>?_⟩,by have:=HI.out.1;simp[intOf];omega⟩
      by_cases e:x<i
      exact HI.out.2.2 x e;rw[show x=i by omega];exact HE.out
    have f2:((X i).toList != (Y i).toList)=true:=(by simp[bne,f1]);have HE:=zHd e1;clear e1;go_upto_region 6 with(fail)
    go_region_held2 (fun W'=>W'.cell? (ad.add i)=some (.string (X i))/\W'.cell? (bd.add i)=some (.string (Y i))) (first|exact⟨q1,q2⟩|go_keep) (fail)
    all_goals
     go_wp2;go_ret;exact zdk.no (fun h=>HE.out (h.2 i HI.out.1)) (zaa HI.out.2.1 (zaf wr none))
   obtain rfl:i=n:=by omega
   exact zQaU
 have t1:((n:Int)==(m:Int))=false:=by simp;omega
 have t2:((n:Int) != (m:Int))=true:=by simp[bne];omega
 have HE:=zHd hnm;clear hnm hn hm;go_enter func15,ntmps15;exact zQbV
def zFg (n m:Nat)(la lb:Nat->Nat)(X Y:Nat->Nat->ByteArray):Prop:=n=m/\∀ i,i<n->zrp (la i) (lb i) (X i) (Y i)
def zhP (n m:Nat)(la lb:Nat->Nat)(X Y:Nat->Nat->ByteArray)(av bv:Value)(w:World)(hn:n<=10000)(hm:m<=10000)(hla:∀ i,i<n->la i<=10000)(hlb:∀ i,i<m->lb i<=10000)(ha:zfu w av n la X)(hb:zfu w bv m lb Y) :
  Calls prog 17 #[av,bv] w (zdk (zFg n m la lb X Y) w):=by
 obtain⟨ra,⟨Aa,ca,rfl,_,_,ha3⟩,ha4⟩:=ha;obtain⟨rb,⟨Ab,cb,rfl,_,_,hb3⟩,hb4⟩:=hb;have hsame:=fun(i:Nat) (hi:i<n) (hi2:i<m) (w':World) (hg:w.grownBy w' none)=>ziv (la i) (lb i) (X i) (Y i) (ra i) (rb i) w' (hla i hi) (hlb i hi2) ((ha4 i hi).grown hg) ((hb4 i hi2).grown hg);have hra:∀ i,i<n->∃ A c,ra i=.slice A (la i) c:=fun i hi=>by obtain⟨A,c,e,_⟩:=ha4 i hi;exact⟨A,c,e⟩
 have hrb:∀ i,i<m->∃ A c,rb i=.slice A (lb i) c:=fun i hi=>by obtain⟨A,c,e,_⟩:=hb4 i hi;exact⟨A,c,e⟩
 have HA:=zHd ha3;have HB:=zHd hb3;have HN:=zHd (zAI hn hm);have HS:=zHd hsame;have HRA:=zHd hra;have HRB:=zHd hrb;clear ha3 hb3 ha4 hb4 hsame hra hrb hla hlb
 by_cases hnm:n=m
 ·subst hnm
  have t1:((n:Int)==(n:Int))=true:=by simp
  have t2:((n:Int) != (n:Int))=false:=by simp
  clear hn hm;go_enter func17,ntmps17;go_wp2
  go_loopw [5] (fun iv wr=>∃ i:Nat,i<=n/\iv=.int .i64 (i:Int)/\w.grownBy wr none/\∀ x,x<i->zrp (la x) (lb x) (X x) (Y x)) (fun iv _=>n-(intOf iv).toNat)
  case atStart=>exact⟨0,zqaw _,rfl,World.grownBy.refl _ _,fun x hx=>absurd hx (by omega)⟩
  case round =>
   obtain⟨i,hi,rfl,hg,hx⟩:=hrel
   by_cases hin:i<n
   ·obtain⟨ad,rfl,hbl,hca⟩:=HA.out i hin
    obtain⟨bd,rfl,hbl2,hcb⟩:=HB.out i hin;obtain⟨A1,c1,e1⟩:=HRA.out i hin;obtain⟨A2,c2,e2⟩:=HRB.out i hin;have q1:wr.drew.cell? (ad.add i)=some (ra i):=(zaL (w:=w) (w':=wr) (ad:=ad.add i) (by rw[zaw];exact hg.block _ hbl (by simp))).trans hca;have q2:wr.drew.cell? (bd.add i)=some (rb i):=(zaL (w:=w) (w':=wr) (ad:=bd.add i) (by rw[zaw];exact hg.block _ hbl2 (by simp))).trans hcb;have zC:=HS.out i hin hin wr.drew (zaa hg (zaf wr none));rw[e1,e2] at zC;rw[e1] at q1;rw[e2] at q2;have u1:decide (i<n)=true:=(by simpa using hin);have u1':decide ((i:Int)<(n:Int))=true:=(by simpa using hin);have hit:(i:Int)<(n:Int):=(by omega);have hi0:(0:Int)<=(i:Int):=(by omega);have n1:IntKind.i64.wrap ((i:Int)+1)=(i:Int)+1:=(by have:=HN.out;rw[zqah];omega);have HI:=zHd (zAI hin (zAI hg hx));have HC:=zHd zC;clear hi hin hg hx hbl hbl2 hca hcb zC e1 e2;go_upto_region 6 with(fail)
    go_region_held2 (fun W'=>W'.cell? (ad.add i)=some (.slice A1 (la i) c1)/\W'.cell? (bd.add i)=some (.slice A2 (lb i) c2)) (first|exact⟨q1,q2⟩|exact S5|go_keep)
     (first|(go_at_call 15;refine HC.out.mono ?_;rintro e w5 ⟨b,rfl,hb,hg5⟩;have S5:(fun W':World=>W'.cell? (ad.add i)=some (.slice A1 (la i) c1)/\W'.cell? (bd.add i)=some (.slice A2 (lb i) c2)) w5:=⟨hg5.cell q1 (by simp),hg5.cell q2 (by simp)⟩;have H5:=zHd (zAI hb (zaa HI.out.2.1 (zaa (zaf wr none) hg5)));clear hb hg5))
    all_goals
     cases b
     ·go_wp2
      go_ret;refine zdk.no (fun h=>?_) H5.out.2;have:=H5.out.1.2 (h.2 i HI.out.1);cases this
     go_wp2;refine⟨⟨i+1,HI.out.1,by simp,H5.out.2,fun x hx=>?_⟩,by have:=HI.out.1;simp[intOf];omega⟩
     by_cases e:x<i
     exact HI.out.2.2 x e;rw[show x=i by omega];exact H5.out.1.1 rfl
   obtain rfl:i=n:=by omega
   exact zQaU
 have t1:((n:Int)==(m:Int))=false:=by simp;omega
 have t2:((n:Int) != (m:Int))=true:=by simp[bne];omega
 have HE:=zHd hnm;clear hnm hn hm;go_enter func17,ntmps17;exact zQbV
def zbv.texts {k:Int}{w:World}{v:Value}{n m:Nat}{F:Nat->Nat->El k}(h:zbv w v n m F):zfu w v n (fun _=>m) (fun i j=>tx (F i j)):=by
 obtain⟨rs,h1,h2⟩:=h;exact⟨rs,h1,fun i hi=>(h2 i hi).row⟩
open Go.RowKit
def Clr (K B x:Rat):Prop:=isI (x*K)/\ab (x*K)<=B
def Clr.mono {K B C x:Rat}(h:Clr K B x)(hc:B<=C):Clr K C x:=⟨h.1,zqar h.2 hc⟩
def zlS {K B:Rat}(h:0<=B):Clr K B 0:=by
 have e:(0:Rat)*K=0:=by grind
 refine⟨by rw[e];exact⟨0,rfl⟩,?_⟩;rw[e,zgr Rat.le_refl];exact h
def Clr.add {K B C x y:Rat}(hx:Clr K B x)(hy:Clr K C y):Clr K (B+C) (x+y):=by
 have e:(x+y)*K=x*K+y*K:=by grind
 refine⟨by rw[e];exact zkP hx.1 hy.1,?_⟩;rw[e];have h1:=zEd (x*K) (y*K);have h2:=hx.2;have h3:=hy.2;grind
def ziw {x y B C:Rat}(hx:ab x<=B)(hy:ab y<=C):ab (x*y)<=B*C:=by
 rw[zkQ];have h1:=zqai hy (zcF x);have h2:=Rat.mul_le_mul_of_nonneg_right hx (zqar (zcF y) hy);exact zqar h1 h2
def Clr.mul {K L B C x y:Rat}(hx:Clr K B x)(hy:Clr L C y):Clr (K*L) (B*C) (x*y):=by
 have e:x*y*(K*L)=x*K*(y*L):=by grind
 exact⟨by rw[e];exact zcT hx.1 hy.1,by rw[e];exact ziw hx.2 hy.2⟩
def zsS {L C:Rat}(hL:isI L)(hc:ab L<=C):Clr L C 1:=by
 have e:(1:Rat)*L=L:=by grind
 exact⟨by rw[e];exact hL,by rw[e];exact hc⟩
def Clr.up {K L B C x:Rat}(hx:Clr K B x)(hL:isI L)(hc:ab L<=C):Clr (K*L) (B*C) x:=by
 have h:=hx.mul (zsS hL hc);have e:x*1=x:=by grind
 rwa [e] at h
def Clr.wide {K x:Rat}{w:Nat}(hx:Clr K (zaO w) x)(hK:isI K)(h0:K≠0)(hk:ab K<=zaO w):zax (w+1) (.inr x):=by
 have h:=zoO (y:=x) (N:=x*K) (M:=K) hx.1 hK h0 rfl (P:=10 ^ w) hx.2 hk;have hlt:10 ^ w<10 ^ (w+1):=Nat.pow_lt_pow_right (by omega) (by omega);exact⟨zga _ _ (by omega) (Nat.lt_of_le_of_lt h.1 hlt),zga _ _ (by omega) (Nat.lt_of_le_of_lt h.2 hlt)⟩
def ClE (K B:Rat)(v:El 2):Prop:=zav v->Clr K B (val v)
def ClE.mono {K B C:Rat}{v:El 2}(h:ClE K B v)(hc:B<=C):ClE K C v:=fun hf=>(h hf).mono hc
def zpH {K B:Rat}(h:0<=B):ClE K B S2.zero:=fun _=>by rw[zeA];exact zlS h
def ClE.add {K B C:Rat}{u v:El 2}(hu:ClE K B u)(hv:ClE K C v):ClE K (B+C) (S2.add u v):=fun hf=>by
 obtain⟨h1,h2⟩:=zjb.1 hf;rw[zjc h1 h2];exact(hu h1).add (hv h2)
def ClE.mul {K L B C:Rat}{u v:El 2}(hB:0<=B)(hC:0<=C)(hu:ClE K B u)(hv:ClE L C v):ClE (K*L) (B*C) (S2.mul u v):=fun hf=>by
 by_cases h1:u=S2.zero
 rw[h1,S2.zero_mul,zeA];exact zlS (Rat.mul_nonneg hB hC)
 by_cases h2:v=S2.zero
 ·rw[h2,S2.mul_zero,zeA];exact zlS (Rat.mul_nonneg hB hC)
 have g1:=zid hf h2;have g2:=zgf hf h1;rw[zjd g1 g2];exact(hu g1).mul (hv g2)
def ClE.up {K L B C:Rat}{v:El 2}(h:ClE K B v)(hL:isI L)(hc:ab L<=C):ClE (K*L) (B*C) v:=fun hf=>(h hf).up hL hc
def ClE.sm {K B:Rat}{f:Nat->El 2}(hB:0<=B):∀ {n:Nat},(∀ m,m<n->ClE K B (f m))->ClE K ((n:Rat)*B) (sm S2 n f)
 | 0,_=>zpH (by
  have e:((0:Nat):Rat)*B=0:=by
   have:((0:Nat):Rat)=0:=rfl;rw[this];grind
  rw[e];exact Rat.le_refl)
 | n+1,h=>by
  have ih:=ClE.sm hB (n:=n) (fun m hm=>h m (by omega));have h1:=ih.add (h n (by omega))
  have e:((n+1:Nat):Rat)*B=(n:Rat)*B+B:=by
   have:((n+1:Nat):Rat)=(n:Rat)+1:=by
    show(((n+1:Nat):Int):Rat)=((n:Int):Rat)+((1:Int):Rat);rw[<- Rat.intCast_add];rfl
   rw[this];grind
  rw[e];exact h1
def ClE.wide {K:Rat}{v:El 2}{w:Nat}(h:ClE K (zaO w) v)(hK:isI K)(h0:K≠0)(hk:ab K<=zaO w):zax (w+1) v.1:=by
 by_cases hf:zav v
 rw[zdV hf];exact(h hf).wide hK h0 hk;rw[zdi.1 hf];trivial
def dl_mem:∀ {l:List Rat} {x:Rat},x∈l->(∀ y∈l,0<=y)->Clr (dl l) (bl l) x
 | l,x,h,h0=>by
  have h1:isI (x*dl l):=by
   have:∀ (l:List Rat),x∈l->isI (x*dl l):=fun l=>by
    induction l with
    | nil=>intro h;cases h
    | cons y l ih =>
     intro h;show isI (x*((y.den:Rat)*dl l))
     by_cases e:x=y
     ·subst e
      have e2:x*((x.den:Rat)*dl l)=(x.num:Rat)*dl l:=(by rw[ziU x];grind);rw[e2];exact zcT ⟨x.num,rfl⟩ (zjz l)
     have hm:x∈l:=by
      rcases List.mem_cons.1 h with h|h;exact absurd h e;exact h
     have e2:x*((y.den:Rat)*dl l)=(y.den:Rat)*(x*dl l):=(by grind);rw[e2];exact zcT (zon y) (ih hm)
   exact this l h
  have hd:=zgn l;have hx:=h0 x h
  have hs:x<=sl l:=by
   have:∀ (l:List Rat),(∀ y∈l,0<=y)->x∈l->x<=sl l:=fun l=>by
    induction l with
    | nil=>intro _ h;cases h
    | cons y l ih =>
     intro h0 h;have hy:=h0 y (zqbm ..);have hl:=zeq (l:=l) (fun z hz=>h0 z (zqao _ hz));show x<=y+sl l;rcases List.mem_cons.1 h with h|h
     rw[h];grind;have:=ih (fun z hz=>h0 z (zqao _ hz)) h;grind
   exact this l h0 h
  refine⟨h1,?_⟩;rw[zgr (Rat.mul_nonneg hx (by grind))];have h2:=zlL h0;have h3:=zqai hs (show 0<=dl l by grind);grind
def zMs (l:List Rat)(h0:∀ y∈l,0<=y):ab (dl l)<=bl l:=by
 have hd:=zgn l;rw[zgr (by grind)];have h2:=zlL h0;have h3:=Rat.mul_nonneg (show 0<=dl l by grind) (zeq h0);grind
def zbL {m n:Nat}(h:m<=n):zaO m<=zaO n:=by
 have h1:=zqay (show 0<10 by omega) h;have h4:((10 ^ m:Nat):Int)<=((10 ^ n:Nat):Int):=Int.ofNat_le.2 h1;exact Rat.intCast_le_intCast.2 h4
open Go.RowKit
def zIy {A:Nat->Nat->El 2}{M:Nat->List (Nat×El 2)}{n s:Nat}
  (hA:∀ x y,x<n->y<n->A x y=cs S2 (M x) y) (hM:∀ x,x<n->∀ e∈M x,Sh4 e.2.1) (hc:ns n (fun x=>(M x).length)<=s) :
  ∃ K:Rat,isI K/\K≠0/\ab K<=zaO (4*s+n)/\∀ i j,i<n->j<n->ClE K (zaO (4*s+n+1)) (stM S2 A n i j):=by
 have hpos:∀ x,x<n->∀ y∈(fins (M x)).map (·.2),0<=y:=fun x hx y hy=>by
  obtain⟨e,he,rfl⟩:=zqbf.1 hy;exact(zdu (hM x hx) e he).1
 have hten:∀ x,x<n->bl ((fins (M x)).map (·.2))<=zaO (4*(M x).length):=fun x hx=>by
  have:=zuS (w:=4) (l:=(fins (M x)).map (·.2)) (fun y hy=>by
   obtain⟨e,he,rfl⟩:=zqbf.1 hy;exact zdu (hM x hx) e he)
  rw[zqbn] at this;exact zqar this (zbL (by have:=zkh (M x);omega))
 have zV:∀ x m,x<n->m<n->zav (A x m)->val (A x m)=sl (((fins (M x)).filter (fun e=>e.1==m)).map (·.2)):=fun x m hx hm hf=>by
  rw[hA x m hx hm] at hf ⊢;exact znj m hf
 have hsum:∀ x,x<n->rs n (fun m=>val (A x m))<=sl ((fins (M x)).map (·.2)):=fun x hx=>by
  refine zqar (zjX (fun m hm=>?_)) (zlN n (fun e he=>(zdu (hM x hx) e he).1))
  by_cases hf:zav (A x m)
  rw[zV x m hx hm hf];exact Rat.le_refl;have:val (A x m)=0:=by unfold val;rw[zdi.1 hf]
  rw[this];refine zeq (fun y hy=>?_);obtain⟨e,he,rfl⟩:=zqbf.1 hy;exact(zdu (hM x hx) e (List.mem_filter.1 he).1).1
 have hQ:∀ x,x<n->2*(dl ((fins (M x)).map (·.2))*(1+rs n (fun m=>val (A x m))))<=zaO (4*(M x).length+1):=fun x hx=>by
  have h1:=zlL (hpos x hx);have h2:=hten x hx;have h3:=hsum x hx;have h4:=zgn ((fins (M x)).map (·.2));have h5:=zqai h3 (show 0<=dl ((fins (M x)).map (·.2)) by grind);have h6:=zcf (4*(M x).length);rw[zcQ];have h7:zaO 1=10:=by unfold zaO;decide +kernel
  rw[h7];grind
 obtain⟨K,hK,hK0,hKb,hall⟩:=zLS (A:=A) (n:=n) (d:=fun x=>dl ((fins (M x)).map (·.2))) (Q:=fun x=>zaO (4*(M x).length+1)) (fun x _=>zgn _) (fun x _=>zjz _) (fun x y hx hy hf=>by
  rw[zV x y hx hy hf];exact zlM (fun z=>z==y) (fins (M x))) hQ
 have hP:rp n (fun x=>zaO (4*(M x).length+1))<=zaO (4*s+n):=by
  have h1:=zwp (f:=fun x=>zaO (4*(M x).length+1)) (g:=fun x=>4*(M x).length+1) (n:=n) (fun m _=>⟨zcf _,Rat.le_refl⟩);rw[zwq (fun x=>(M x).length) n] at h1;exact zqar h1 (zbL (by omega))
 refine⟨K,hK,hK0,zqar hKb hP,fun i j hi hj=>?_⟩
 have h1:ClE K (zaO (4*s+n)) (idm S2 i j):=by
  unfold idm;split
  ·intro _
   exact zsS hK (zqar hKb hP)
  exact zpH (zcf _)
 have h2:ClE K (zaO (4*s+n)) (el S2 A n i j):=fun hf=>by
  obtain⟨g1,g2⟩:=hall i j hi hj hf;exact⟨g1,zqar g2 hP⟩
 refine(h1.add h2).mono ?_;have h7:zaO 1=10:=by unfold zaO;decide +kernel
 have h6:=zcf (4*s+n);rw[zcQ (4*s+n) 1,h7];grind
variable {α:Type}
structure Szs (S:Sr α)(Fit:α->Prop) where
 I:Type
 op:I->I->I
 assoc:∀ a b c,op (op a b) c=op a (op b c)
 comm:∀ a b,op a b=op b a
 ok:I->Nat->Prop
 C:I->Nat->α->Prop
 okop:∀ {K L v w},ok K v->ok L w->ok (op K L) (v+w)
 okmono:∀ {K v w},ok K v->v<=w->ok K w
 mono:∀ {K v w a},C K v a->v<=w->C K w a
 zero:∀ {K w},ok K w->C K w S.zero
 mul:∀ {K L v w a b},C K v a->C L w b->C (op K L) (v+w+1) (S.mul a b)
 add:∀ {K w a b},C K w a->C K w b->C K (w+1) (S.add a b)
 sums:∀ {K w} {f:Nat->α} {n:Nat},ok K w->n<=9->(∀ m,m<n->C K w (f m))->C K (w+1) (sm S n f)
 up:∀ {K L w l a},C K w a->ok L l->C (op K L) (w+l) a
 fit:∀ {K w a},C K w a->w<400->Fit a
instance {S:Sr α} {Fit:α->Prop} (Z:Szs S Fit):Std.Associative Z.op:=⟨Z.assoc⟩
instance {S:Sr α} {Fit:α->Prop} (Z:Szs S Fit):Std.Commutative Z.op:=⟨Z.comm⟩
def Szs.cast {S:Sr α}{Fit:α->Prop}(Z:Szs S Fit){K L:Z.I}{w:Nat}{v:α}(h:Z.C K w v)(e:K=L):Z.C L w v:=e▸h
structure Base {S:Sr α}{Fit:α->Prop}(Z:Szs S Fit)(A b:Nat->Nat->α)(n m:Nat)(M:Nat->Z.I)(D Kb:Z.I)(wb:Nat):Prop where
 n5:n<=5
 okM:∀ t,t<=n->Z.ok (M t) 46
 st:∀ t,t<=n->∀ i j,i<t->j<t->Z.C (M t) 46 (stM S A t i j)
 okD:Z.ok D 41
 a:∀ x y,x<n->y<n->Z.C D 41 (A x y)
 okb:Z.ok Kb wb
 b:∀ x J,x<n->J<m->Z.C Kb wb (b x J)
 wb:wb<=201
def zLV (S:Sr α)(A b:Nat->Nat->α){n t x:Nat}(ht:t<=n)(hx:x<t)(j:Nat):el S (zbS A b n) t x j=sm S t (fun l=>S.mul (stM S A t x l) (zbS A b n l j)):=by
 rw[zgv,<- zmu S (fun l=>zbS A b n l j) hx,<- zfj];refine zat S (fun l hl=>?_);rw[zrM S A b ht (by omega)];unfold stM;rw[S.add_mul]
section
variable {S:Sr α} {Fit:α->Prop} {Z:Szs S Fit} {A b:Nat->Nat->α} {n m:Nat} {M:Nat->Z.I} {D Kb:Z.I} {wb:Nat}
structure Col (Z:Szs S Fit)(A b:Nat->Nat->α)(n j:Nat)(K:Z.I)(w:Nat):Prop where
 ok:Z.ok K w
 c:∀ x,x<n->Z.C K w (zbS A b n x j)
def Base.colA (B:Base Z A b n m M D Kb wb){j:Nat}(h:j<n):Col Z A b n j D 41:=⟨B.okD,fun x hx=>by unfold zbS;rw[if_pos h];exact B.a x j hx h⟩
def Base.colB (B:Base Z A b n m M D Kb wb){J:Nat}(h:J<m):Col Z A b n (n+J) Kb wb:=⟨B.okb,fun x hx=>by unfold zbS;rw[if_neg (by omega),Nat.add_sub_cancel_left];exact B.b x J hx h⟩
def Base.col (B:Base Z A b n m M D Kb wb){j:Nat}(hj:j<n+m):∃ K w,w<=201/\Col Z A b n j K w:=by
 by_cases h:j<n
 exact⟨D,41,by omega,B.colA h⟩;obtain⟨J,rfl⟩:∃ J,j=n+J:=⟨j-n,by omega⟩;exact⟨Kb,wb,B.wb,B.colB (by omega)⟩
def Base.low (B:Base Z A b n m M D Kb wb){j:Nat}{K:Z.I}{w:Nat}(hc:Col Z A b n j K w){t:Nat}(ht:t<=n){x:Nat}(hx:x<t):Z.C (Z.op (M t) K) (w+48) (el S (zbS A b n) t x j):=by
 rw[zLV S A b ht hx];have:=Z.sums (n:=t) (w:=46+w+1) (K:=Z.op (M t) K) (f:=fun l=>S.mul (stM S A t x l) (zbS A b n l j)) (Z.okmono (Z.okop (B.okM t ht) hc.ok) (by omega)) (by have:=B.n5;omega) (fun l hl=>Z.mul (B.st t ht x l hx hl) (hc.c l (by omega)));exact Z.mono this (by omega)
def Base.any (B:Base Z A b n m M D Kb wb){j:Nat}{K:Z.I}{w:Nat}(hc:Col Z A b n j K w){t:Nat}(ht:t<=n){x:Nat}(hx:x<n):Z.C (Z.op D (Z.op (M t) K)) (w+92) (el S (zbS A b n) t x j):=by
 rw[zcu];have hok:Z.ok (Z.op D (Z.op (M t) K)) (41+(46+w)):=Z.okop B.okD (Z.okop (B.okM t ht) hc.ok)
 have h1:=Z.sums (n:=t) (w:=41+(w+48)+1) (K:=Z.op D (Z.op (M t) K)) (f:=fun l=>S.mul (zbS A b n x l) (el S (zbS A b n) t l j)) (Z.okmono hok (by omega)) (by have:=B.n5;omega)
  (fun l hl=>Z.mul (by unfold zbS;rw[if_pos (by omega)];exact B.a x l hx (by omega)) (B.low hc ht hl))
 have h2:Z.C (Z.op D (Z.op (M t) K)) (w+91) (zbS A b n x j):=by
  have:=Z.up (Z.up (hc.c x hx) (B.okM t ht)) B.okD;exact Z.mono (Z.cast this (by ac_rfl)) (by omega)
 exact Z.add h2 (Z.mono h1 (by omega))
def Base.abs (B:Base Z A b n m M D Kb wb):zhD S Fit n m (zbS A b n) where
 st t ht:=by
  have e:S.star (el S (zbS A b n) t t t)=stM S A (t+1) t t:=by
   unfold stM idm;rw[if_pos rfl,zmv,zrM S A b (by omega) ht,S.mul_comm,S.star_law]
  rw[e];exact Z.fit (B.st (t+1) (by omega) t t (by omega) (by omega)) (by omega)
 row t ht j hj hm:=by
  obtain⟨K,w,hw,hc⟩:=B.col hm;exact Z.fit (B.low hc (t:=t+1) (by omega) (Nat.lt_succ_self t)) (by omega)
 pr t ht i hi hin j hj hm:=by
  obtain⟨K,w,hw,hc⟩:=B.col hm;exact Z.fit (Z.mul (B.any (B.colA ht) (t:=t) (by omega) hin) (B.low hc (t:=t+1) (by omega) (Nat.lt_succ_self t))) (by omega)
 en t ht i hi hin j hj hm:=by
  obtain⟨K,w,hw,hc⟩:=B.col hm;exact Z.fit (B.any hc (t:=t+1) (by omega) hin) (by omega)
 bp t ht l hl J hJ:=by
  have hw:=B.wb;exact Z.fit (Z.mul (B.low (B.colA hl) (t:=t+1) (by omega) (Nat.lt_succ_self t)) (B.low (B.colB hJ) (t:=n) (zqab n) hl)) (by omega)
 bs t ht l hl J hJ:=by
  have hw:=B.wb;have hok:Z.ok (Z.op (Z.op (M (t+1)) D) (Z.op (M n) Kb)) (46+41+(46+wb)):=Z.okop (Z.okop (B.okM _ (by omega)) B.okD) (Z.okop (B.okM n (zqab n)) B.okb)
  have h1:=Z.sums (n:=l+1) (w:=41+48+(wb+48)+1) (K:=Z.op (Z.op (M (t+1)) D) (Z.op (M n) Kb)) (f:=fun l=>S.mul (el S (zbS A b n) (t+1) t (t+1+l)) (el S (zbS A b n) n (t+1+l) (n+J)))
   (Z.okmono hok (by omega)) (by have:=B.n5;omega) (fun s hs=>Z.mul (B.low (B.colA (show t+1+s<n by omega)) (t:=t+1) (by omega) (Nat.lt_succ_self t)) (B.low (B.colB hJ) (t:=n) (zqab n) (by omega)))
  have h2:=Z.up (Z.up (B.low (B.colB hJ) (t:=t+1) (by omega) (Nat.lt_succ_self t)) B.okD) (B.okM n (zqab n));have h3:=Z.mono (Z.cast h2 (show _=Z.op (Z.op (M (t+1)) D) (Z.op (M n) Kb) by ac_rfl)) (show _<=41+48+(wb+48)+1+1 by omega);exact Z.fit (Z.add h3 h1) (by omega)
end
def zFh (S:Sr α){n:Nat}(κ:Nat->Nat)(d:Nat):∀ {l:List (Nat×α)},(∀ e∈l,e.1<n)->cs S (l.map (fun e=>(κ e.1,e.2))) d=mrg S n (cs S l) κ d
 | [],_=>by
  unfold mrg
  rw[zkK S (fun j _=>by
   by_cases h:κ j=d
   rw[if_pos h];rfl;rw[if_neg h])]
  rfl
 | e::l,h=>by
  have ih:=zFh S κ d (l:=l) (fun x hx=>h x (zqao _ hx));have he:=h e zqbm;show(if κ e.1=d then S.add e.2 (cs S (l.map (fun e=>(κ e.1,e.2))) d) else cs S (l.map (fun e=>(κ e.1,e.2))) d)=_;rw[ih]
  have e2:mrg S n (cs S (e::l)) κ d=S.add (sm S n (fun j=>if e.1=j then (if κ j=d then e.2 else S.zero) else S.zero)) (mrg S n (cs S l) κ d):=by
   unfold mrg;rw[<- zfj];refine zat S (fun j _=>?_);show(if κ j=d then (if e.1=j then S.add e.2 (cs S l j) else cs S l j) else S.zero)=_
   by_cases h1:κ j=d
   ·by_cases h2:e.1=j
    ·simp only[h1,h2,if_true]
    simp only[h1,h2,if_true,if_false];rw[S.zero_add]
   simp only[h1,if_false];rw[ite_self,S.add_zero]
  rw[e2,zyK S (fun j=>if κ j=d then e.2 else S.zero) he]
  by_cases h1:κ e.1=d
  rw[if_pos h1,if_pos h1];rw[if_neg h1,if_neg h1,S.zero_add]
def zsU (f:Nat->Nat)(r:List Nat):∀ k,k<=r.length->ns k (fun c=>f (r.getD c 0))=((r.take k).map f).sum
 | 0,_=>rfl
 | k+1,h=>by
  show ns k (fun c=>f (r.getD c 0))+f (r.getD k 0)=_;rw[zsU f r k (by omega),List.take_succ_eq_append_getElem (by omega),List.map_append,List.sum_append];congr 1;rw[zqaa,zqac (by omega)];simp
def zrq (f:Nat->Nat):∀ (n:Nat) (r:List Nat),r.Pairwise (· < ·)->(∀ x∈r,x<n)->(r.map f).sum<=ns n f
 | 0,r,_,h=>by
  rcases r with _|⟨x,r⟩;exact zqab _;exact absurd (h x zqbm) (by omega)
 | n+1,r,hp,h=>by
  rcases List.eq_nil_or_concat r with rfl|⟨q,x,rfl⟩;exact zqaw _;rw[List.concat_eq_append] at *;obtain⟨p1,_,p3⟩:=List.pairwise_append.1 hp;have hq:∀ y∈q,y<x:=fun y hy=>p3 y hy x (zqbk.2 rfl);have hx:x<n+1:=h x (by simp);show _<=ns n f+f n
  by_cases e:x=n
  ·subst e
   rw[List.map_append,List.sum_append];have:=zrq f x q p1 hq;simp;omega
  have:=zrq f n (q++[x]) hp (fun y hy=>by
   rcases zqbo.1 hy with g|g;have:=hq y g;omega;have:=zqbk.1 g;omega)
  omega
structure Few (S:Sr α)(Sh:α->Prop)(A:Nat->Nat->α)(n:Nat)(M:Nat->List (Nat×α)):Prop where
 n5:n<=5
 a:∀ x y,x<n->y<n->A x y=cs S (M x) y
 sh:∀ x,x<n->∀ e∈M x,Sh e.2
 lt:∀ x,x<n->∀ e∈M x,e.1<n
 ten:ns n (fun x=>(M x).length)<=10
def zFi (S:Sr α){n:Nat}{f g:Nat->α}(κ:Nat->Nat)(d:Nat)(h:∀ j,j<n->f j=g j):mrg S n f κ d=mrg S n g κ d:=zat S (fun j hj=>by rw[h j hj])
def Few.merged {S:Sr α}{Sh:α->Prop}{A:Nat->Nat->α}{n:Nat}{M:Nat->List (Nat×α)}(h:Few S Sh A n M) :
  Few S Sh (mrgA S n A) (repR n A).length (fun c=>(M ((repR n A).getD c 0)).map (fun e=>((clsR n A).getD e.1 0,e.2))):=by
 have hs:=zqb n A;refine⟨zqam hs.le h.n5,fun c d hc hd=>?_,fun c hc e he=>?_,fun c hc e he=>?_,?_⟩
 ·rw[zFh S (fun j=>(clsR n A).getD j 0) d (h.lt _ (hs.rl c hc))]
  exact zFi S _ d (fun j hj=>h.a _ j (hs.rl c hc) hj)
 ·obtain⟨x,hx,rfl⟩:=zqbf.1 he
  exact h.sh _ (hs.rl c hc) x hx
 ·obtain⟨x,hx,rfl⟩:=zqbf.1 he
  exact(hs.cl _ (h.lt _ (hs.rl c hc) x hx)).1
 have e1:(fun c=>((M ((repR n A).getD c 0)).map (fun e=>((clsR n A).getD e.1 0,e.2))).length)=fun c=>(fun x=>(M x).length) ((repR n A).getD c 0):=by
  funext c;rw[zqbn]
 rw[e1,zsU (fun x=>(M x).length) (repR n A) _ (zqab _),List.take_length];refine zqam (zrq _ n _ hs.up (fun x hx=>?_)) h.ten;obtain⟨i,hi,rfl⟩:=List.getElem_of_mem hx;have:=hs.rl i hi
 rwa [zqaa,zqac hi] at this
structure Facts {S:Sr α}{Fit:α->Prop}(Z:Szs S Fit)(A:Nat->Nat->α)(n:Nat):Prop where
 st:∃ M:Nat->Z.I,∀ t,t<=n->Z.ok (M t) 46/\∀ i j,i<t->j<t->Z.C (M t) 46 (stM S A t i j)
 a:∃ D:Z.I,Z.ok D 41/\∀ x y,x<n->y<n->Z.C D 41 (A x y)
def zlT {S:Sr α}{Fit:α->Prop}(Z:Szs S Fit){Sh:α->Prop}(hfew:∀ {A:Nat->Nat->α} {n:Nat} {M:Nat->List (Nat×α)},Few S Sh A n M->Facts Z A n)(m:Nat) :
  ∀ (s n:Nat) (A b:Nat->Nat->α) (M:Nat->List (Nat×α)) (Kb:Z.I) (wb:Nat),Few S Sh A n M->Z.ok Kb wb->(∀ x J,x<n->J<m->Z.C Kb wb (b x J))->wb+44*n<=245->n<=s->SolveFits S Fit s n m A b
 | 0,_,_,_,_,_,_,_,_,_,_,_=>trivial
 | s+1,n,A,b,M,Kb,wb,hF,hk,hb,hw,hs=>by
  obtain⟨⟨N,hN⟩,⟨D,hD,hA⟩⟩:=hfew hF;have h5:=hF.n5;have hrep:=zqb n A;unfold SolveFits
  by_cases h0:n=0
  ·subst h0
   have:(repR 0 A).length=0:=by have:=hrep.le;omega
   rw[if_pos this];trivial
  have B:Base Z A b n m N D Kb wb:=⟨h5,fun t ht=>(hN t ht).1,fun t ht=>(hN t ht).2,hD,hA,hk,hb,by omega⟩
  by_cases he:(repR n A).length=n
  ·rw[if_pos he]
   exact B.abs.all
  rw[if_neg he];have hlt:(repR n A).length<n:=by have:=hrep.le;omega
  have hsum:∀ c,c<(repR n A).length->∀ t,t<=n->∀ J,J<m->Z.C (Z.op D Kb) (wb+44) (zbk S (fun _=>S.zero) (A ((repR n A).getD c 0)) b t J):=by
   intro c hc t ht J hJ;have hok:=Z.okop hD hk;unfold zbk;have h1:=Z.sums (n:=t) (K:=Z.op D Kb) (w:=41+wb+1) (f:=fun s=>S.mul (A ((repR n A).getD c 0) s) (b s J)) (Z.okmono hok (by omega)) (by omega) (fun j hj=>Z.mul (hA _ j (hrep.rl c hc) (by omega)) (hb j J (by omega) hJ));exact Z.mono (Z.add (Z.zero (Z.okmono hok (by omega))) h1) (by omega)
  refine⟨fun c hc t ht=>?_,fun c hc t ht J hJ=>⟨?_,?_⟩,?_,fun i hi J hJ=>?_⟩
  ·refine Z.fit (Z.sums (n:=t+1) (K:=D) (w:=41) (f:=fun j=>if (clsR n A).getD j 0=(clsR n A).getD t 0 then A ((repR n A).getD c 0) j else S.zero) hD (by omega) (fun j hj=>?_)) (by omega)
   split;exact hA _ j (hrep.rl c hc) (by omega);exact Z.zero hD
  exact Z.fit (Z.mul (hA _ t (hrep.rl c hc) ht) (hb t J ht hJ)) (by omega);exact Z.fit (hsum c hc (t+1) ht J hJ) (by omega);exact zlT Z hfew m s _ _ _ _ (Z.op D Kb) (wb+44) hF.merged (Z.okmono (Z.okop hD hk) (by omega)) (fun c J hc hJ=>hsum c hc n (zqab n) J hJ) (by omega) (by omega);have e:=zgH S (s+1) n A b hs i J hi;unfold solveF at e;rw[if_neg he] at e;rw[e,<- zyJ S A b hi];exact Z.fit (B.low (B.colB hJ) (zqab n) hi) (by omega)
open Go.RowKit
def zKH:zaO 1=10:=by unfold zaO;decide +kernel
def zsV {A:Nat->Nat->El 2}{M:Nat->List (Nat×El 2)}{n:Nat}
  (hA:∀ x y,x<n->y<n->A x y=cs S2 (M x) y) (hM:∀ x,x<n->∀ e∈M x,Sh4 e.2.1):∀ t,t<=n ->
  ∃ D:Rat,isI D/\D≠0/\ab D<=zaO (4*ns t (fun x=>(M x).length))/\∀ x y,x<t->y<n->ClE D (zaO (4*ns t (fun x=>(M x).length))) (A x y)
 | 0,_=>⟨1,⟨1,rfl⟩,by grind,by rw[zgr (by grind)];unfold zaO;simp[ns],fun x y h=>absurd h (by omega)⟩
 | t+1,ht=>by
  obtain⟨D,hD,hD0,hDb,hall⟩:=zsV hA hM t (by omega);have htn:t<n:=ht
  have hpos:∀ y∈(fins (M t)).map (·.2),0<=y:=fun y hy=>by
   obtain⟨e,he,rfl⟩:=zqbf.1 hy;exact(zdu (hM t htn) e he).1
  have hten:bl ((fins (M t)).map (·.2))<=zaO (4*(M t).length):=by
   have:=zuS (w:=4) (l:=(fins (M t)).map (·.2)) (fun y hy=>by
    obtain⟨e,he,rfl⟩:=zqbf.1 hy;exact zdu (hM t htn) e he)
   rw[zqbn] at this;exact zqar this (zbL (by have:=zkh (M t);omega))
  have h1:=zgn ((fins (M t)).map (·.2));have hd:ab (dl ((fins (M t)).map (·.2)))<=zaO (4*(M t).length):=zqar (zMs _ hpos) hten;have e1:4*ns (t+1) (fun x=>(M x).length)=4*ns t (fun x=>(M x).length)+4*(M t).length:=by show 4*(ns t (fun x=>(M x).length)+(M t).length)=_;omega
  refine⟨D*dl ((fins (M t)).map (·.2)),zcT hD (zjz _),fun e=>?_,?_,fun x y hx hy=>?_⟩
  ·rcases Rat.mul_eq_zero.1 e with e|e
   ·exact hD0 e
   grind
  ·rw[e1,zcQ]
   exact ziw hDb hd
  rw[e1,zcQ]
  by_cases hxt:x<t
  exact(hall x y hxt hy).up (zjz _) hd;obtain rfl:x=t:=by omega
  intro hf;rw[hA x y htn hy] at hf ⊢;have hv:=znj y hf;have hp:=zlM (fun z=>z==y) (fins (M x))
  have hle:dl ((fins (M x)).map (·.2))*sl (((fins (M x)).filter (fun e=>e.1==y)).map (·.2))<=zaO (4*(M x).length):=by
   have h4:=zlL hpos
   have h5:sl (((fins (M x)).filter (fun e=>e.1==y)).map (·.2))<=sl ((fins (M x)).map (·.2)):=by
    have:=zlN (n:=y+1) (l:=fins (M x)) (fun e he=>(zdu (hM x htn) e he).1);refine zqar (zuR (f:=fun m=>sl (((fins (M x)).filter (fun e=>e.1==m)).map (·.2))) (n:=y+1) (j:=y) (fun m _=>?_) (Nat.lt_succ_self y)) this;exact zQbk
   have h6:=zqai h5 (show 0<=dl ((fins (M x)).map (·.2)) by grind);grind
  have h0:0<=sl (((fins (M x)).filter (fun e=>e.1==y)).map (·.2)):=by
   exact zQbk
  rw[hv]
  have hc:Clr (dl ((fins (M x)).map (·.2))) (zaO (4*(M x).length)) (sl (((fins (M x)).filter (fun e=>e.1==y)).map (·.2))):=by
   refine⟨by rw[Rat.mul_comm];exact hp,?_⟩;rw[Rat.mul_comm,zgr (Rat.mul_nonneg (by grind) h0)];exact hle
  have h7:=hc.up hD hDb;rw[Rat.mul_comm D,Rat.mul_comm (zaO (4*ns x (fun x=>(M x).length)))];exact h7
def zLW (f:Nat->Nat){t n:Nat}(h:t<=n):ns t f<=ns n f:=by
 induction n with
 | zero=>obtain rfl:t=0:=by omega
         exact zqab _
 | succ n ih =>
  by_cases e:t=n+1
  subst e;exact zqab _;exact zqam (ih (by omega)) (Nat.le_add_right _ _)
def zzE {w:Nat}{x:Rat}(h:x<=9*zaO w):x<=zaO (w+1):=by
 rw[zcQ,zKH];have:=zcf w;grind
def ztQ (w:Nat):1<=zaO w:=by
 unfold zaO;have:1<=10 ^ w:=Nat.pow_pos (by decide)
 exact_mod_cast this
def zwP:Szs S2 (fun v=>Fits v.1) where
 I := { K:Rat // isI K/\K≠0 }
 op a b:=⟨a.1*b.1,zcT a.2.1 b.2.1,fun e=>by rcases Rat.mul_eq_zero.1 e with h|h;exact a.2.2 h;exact b.2.2 h⟩
 assoc a b c:=Subtype.ext (Rat.mul_assoc _ _ _)
 comm a b:=Subtype.ext (Rat.mul_comm _ _)
 ok K w:=ab K.1<=zaO w
 C K w v:=ab K.1<=zaO w/\ClE K.1 (zaO w) v
 okop h1 h2:=by dsimp only;rw[zcQ];exact ziw h1 h2
 okmono h hw:=zqar h (zbL hw)
 mono h hw:=⟨zqar h.1 (zbL hw),h.2.mono (zbL hw)⟩
 zero h:=⟨h,zpH (zcf _)⟩
 mul h1 h2:=by
  refine⟨?_,?_⟩
  ·refine zqar ?_ (zbL (Nat.le_succ _))
   rw[zcQ];exact ziw h1.1 h2.1
  refine ClE.mono ?_ (zbL (Nat.le_succ _));rw[zcQ];exact ClE.mul (zcf _) (zcf _) h1.2 h2.2
 add h1 h2:=by
  refine⟨zqar h1.1 (zbL (Nat.le_succ _)),(h1.2.add h2.2).mono (zzE ?_)⟩;have:=zcf ‹_›;grind
 sums {K w f n} hk hn h:=by
  refine⟨zqar hk (zbL (Nat.le_succ _)),(ClE.sm (zcf w) (fun m hm=>(h m hm).2)).mono (zzE ?_)⟩;refine Rat.mul_le_mul_of_nonneg_right ?_ (zcf w)
  exact_mod_cast hn
 up {K L w l a} h hl:=by
  refine⟨?_,?_⟩;rw[zcQ];exact ziw h.1 hl;rw[zcQ];exact h.2.up L.2.1 hl
 fit {K w a} h hw:=(h.2.wide K.2.1 K.2.2 h.1).fits (by omega)
def ztR {k:Int}(hk:zad k)(h:k=1∨k=3){w:Nat}(hw:1<=w){f:Nat->El k}:∀ {n:Nat},(∀ m,m<n->zax w (f m).1)->zax w (sm (srE k hk) n f).1
 | 0,_=>(zdR k).mono hw
 | n+1,hf=>zis h (ztR hk h hw (fun m hm=>hf m (by omega))) (hf n (by omega))
def zwQ:∀ n,ns n (fun _=>1)=n
 | 0=>rfl
 | n+1=>by show ns n (fun _=>1)+1=n+1;rw[zwQ n]
def zJq {k:Int}(hk:zad k)(h:k=1∨k=3):Szs (srE k hk) (fun v=>Fits v.1) where
 I:=Unit
 op _ _:=()
 assoc _ _ _:=rfl
 comm _ _:=rfl
 ok _ w:=1<=w
 C _ w v:=1<=w/\zax w v.1
 okop h1 h2:=by omega
 okmono h1 h2:=by omega
 mono h hw:=⟨by omega,h.2.mono hw⟩
 zero {_ w} hw:=⟨hw,(zdR k).mono hw⟩
 mul h1 h2:=⟨by omega,zcj k h1.1 h1.2 h2.2⟩
 add h1 h2:=⟨by omega,(zis h h1.2 h2.2).mono (by omega)⟩
 sums {_ w f n} hw _ hf:=⟨by omega,(ztR hk h hw (fun m hm=>(hf m hm).2)).mono (by omega)⟩
 up h _:=⟨by omega,h.2.mono (by omega)⟩
 fit h hw:=h.2.fits (by omega)
def zLX {A:Nat->Nat->El 2}{n:Nat}{M:Nat->List (Nat×El 2)}(h:Few S2 (fun v=>Sh4 v.1) A n M):Facts zwP A n where
 st:=by
  have hex:∀ t,∃ K:zwP.I,t<=n->zwP.ok K 46/\∀ i j,i<t->j<t->zwP.C K 46 (stM S2 A t i j):=by
   intro t
   by_cases ht:t<=n
   ·obtain⟨K,k1,k2,k3,k4⟩:=zIy (A:=A) (M:=M) (n:=t) (s:=10) (fun x y hx hy=>h.a x y (by omega) (by omega)) (fun x hx=>h.sh x (by omega)) (zqam (zLW _ ht) h.ten)
    have h5:=h.n5;have g1:ab K<=zaO 46:=zqar k3 (zbL (by omega));exact⟨⟨K,k1,k2⟩,fun _=>⟨g1,fun i j hi hj=>⟨g1,(k4 i j hi hj).mono (zbL (by omega))⟩⟩⟩
   exact⟨⟨1,⟨1,rfl⟩,by grind⟩,fun h=>absurd h ht⟩
  obtain⟨f,hf⟩:=Classical.axiomOfChoice hex;exact⟨f,fun t ht=>hf t ht⟩
 a:=by
  obtain⟨D,d1,d2,d3,d4⟩:=zsV h.a h.sh n (zqab n);have ht:=h.ten;have g1:ab D<=zaO 41:=zqar d3 (zbL (by omega));exact⟨⟨D,d1,d2⟩,g1,fun x y hx hy=>⟨g1,(d4 x y hx hy).mono (zbL (by omega))⟩⟩
def zKI {k:Int}(hk:zad k)(h13:k=1∨k=3){A:Nat->Nat->El k}{n:Nat}{M:Nat->List (Nat×El k)}(h:Few (srE k hk) (fun v=>Sh4 v.1) A n M):Facts (zJq hk h13) A n:=by
 have h4:∀ x y,x<n->y<n->zax 4 (A x y).1:=fun x y hx hy=>by
  rw[h.a x y hx hy];exact zsG hk h13 y (h.sh x hx)
 refine⟨⟨fun _=>(),fun t ht=>⟨show 1<=46 by omega,fun i j hi hj=>?_⟩⟩,⟨(),show 1<=41 by omega,fun x y hx hy=>⟨by omega,(h4 x y hx hy).mono (by omega)⟩⟩⟩;have h5:=h.n5;have h1:=zIs hk h13 (A:=A) (n:=t) (w:=4) (by omega) (fun x y hx hy=>h4 x y (by omega) (by omega)) hi hj
 have h2:zax 46 (idm (srE k hk) i j).1:=by
  unfold idm;split;exact(zhp k).mono (by omega);exact(zdR k).mono (by omega)
 have:(4+1)*(t+1)+1<=46:=by omega
 exact⟨by omega,zis h13 h2 (h1.mono this)⟩
def ztS {A b:Nat->Nat->El 2}{n m s:Nat}{M:Nat->List (Nat×El 2)}(h:Few S2 (fun v=>Sh4 v.1) A n M){K:Rat}(hK:isI K)(h0:K≠0)(hk:ab K<=zaO 24)
  (hb:∀ x J,x<n->J<m->ClE K (zaO 24) (b x J)) (hs:n<=s):SolveFits S2 (fun v=>Fits v.1) s n m A b:=by
 have h5:=h.n5;exact zlT zwP (Sh:=fun v=>Sh4 v.1) (fun hF=>zLX hF) m s n A b M ⟨K,hK,h0⟩ 24 h hk (fun x J hx hJ=>⟨hk,hb x J hx hJ⟩) (by omega) hs
def ziV {k:Int}(hk:zad k)(h13:k=1∨k=3){A b:Nat->Nat->El k}{n m s:Nat}{M:Nat->List (Nat×El k)}(h:Few (srE k hk) (fun v=>Sh4 v.1) A n M)
  (hb:∀ x J,x<n->J<m->zax 25 (b x J).1) (hs:n<=s):SolveFits (srE k hk) (fun v=>Fits v.1) s n m A b:=by
 have h5:=h.n5;exact zlT (zJq hk h13) (Sh:=fun v=>Sh4 v.1) (fun hF=>zKI hk h13 hF) m s n A b M () 25 h (show 1<=25 by omega) (fun x J hx hJ=>⟨by omega,hb x J hx hJ⟩) (by omega) hs
def zFj {k:Int}(hk:zad k){A:Nat->Nat->El k}{n s:Nat}{M:Nat->List (Nat×El k)}(h:Few (srE k hk) (fun v=>Sh4 v.1) A n M)(hs:n<=s) :
  SolveFits (srE k hk) (fun v=>Fits v.1) s n n A (idm (srE k hk)):=by
 have hw:∀ x J,zax 1 (idm (srE k hk) x J).1:=fun x J=>by
  unfold idm;split;exact zhp k;exact zdR k
 rcases hk with rfl|rfl|rfl;exact ziV _ (.inl rfl) h (fun x J _ _=>(hw x J).mono (by omega)) hs
 ·refine ztS h (K:=1) ⟨1,rfl⟩ (by grind) (by rw[zgr (by grind)];exact ztQ 24) (fun x J _ _ hf=>?_) hs
  show Clr 1 (zaO 24) (val (idm S2 x J));unfold idm;split;exact zsS ⟨1,rfl⟩ (by rw[zgr (by grind)];exact ztQ 24);rw[zeA];exact zlS (zcf 24)
 exact ziV _ (.inr rfl) h (fun x J _ _=>(hw x J).mono (by omega)) hs
def zwR {k:Int}(hk:zad k){A:Nat->Nat->El k}{F:Nat->El k}{n s:Nat}{M:Nat->List (Nat×El k)}(h:Few (srE k hk) (fun v=>Sh4 v.1) A n M)(hF:∀ x,x<n->Sh4 (F x).1)(hs:n<=s) :
  SolveFits (srE k hk) (fun v=>Fits v.1) s n 1 A (fun x _=>F x):=by
 have h5:=h.n5;rcases hk with rfl|rfl|rfl
 exact ziV _ (.inl rfl) h (fun x J hx _=>((hF x hx).wide).mono (by omega)) hs
 ·have hc:=zwQ n
  obtain⟨D,d1,d2,d3,d4⟩:=zsV (A:=fun x y=>if 0=y then F x else S2.zero) (M:=fun x=>[(0,F x)]) (n:=n) (fun x y hx hy=>by
   show(if 0=y then F x else S2.zero)=if 0=y then S2.add (F x) S2.zero else S2.zero
   rw[S2.add_zero]) (fun x hx e he=>by
   obtain rfl:=zqbk.1 he;exact hF x hx) n (zqab n)
  have e1:4*ns n (fun x=>([(0,F x)]:List (Nat×El 2)).length)<=24:=by
   show 4*ns n (fun _=>1)<=24;omega
  refine ztS h d1 d2 (zqar d3 (zbL e1)) (fun x J hx hJ=>?_) hs;have:=d4 x 0 hx (by omega);rw[if_pos rfl] at this;exact this.mono (zbL e1)
 exact ziV _ (.inr rfl) h (fun x J hx _=>((hF x hx).wide).mono (by omega)) hs
end Go.Proofs.YtiblmbpfcmcccaaGreatDoor
