/- Part. -/
import Derived.Test.YtaogepcaoogpgaaGreatDoorKF11
import Derived.Shelf.SlicesE.DeleteFunc
import Derived.Shelf.SortM.Plain
import Derived.Shelf.SortM.SortNone
import Derived.Shelf.SlSortCmp.NoneTotal
import Derived.Lib.SmallJoins
set_option linter.unusedVariables false
set_option linter.unusedSimpArgs false
set_option maxRecDepth 100000
set_option maxHeartbeats 16000000
namespace Go.Proofs.YtaogepcaoogpgaaGreatDoor
open Go.RowKit
theorem zmT {w:World}{B n k:Nat}{e:TypeId}{v:Value}{xs:List Value}(h:w.ownsRow B e k v n xs):∃ A cap,v=.slice A n cap/\Reads w w.heap.size k A n xs:=by
 have hlt:=h.lt;rcases h.2 with⟨rfl,rfl⟩|⟨g,cap,cur,rfl,hb,hg,hnc,hcm,hcs,ht⟩
 ·exact⟨none,0,rfl,h.1,fun h0=>absurd h0 (by omega)⟩
 ·exact⟨_,cap,rfl,h.1,fun h0=>⟨_,rfl,(hlt g rfl).2,fun j u hu=>h.cells (g:=g) rfl j u hu⟩⟩
theorem zxC {w:World}{B:Nat}{v:Value}{l:List zaN}(h:w.ownsRow B 59 4 v l.length (l.flatMap zeB)):zdr w v l:=by
 obtain⟨A,cap,hv,hr⟩:=zmT h;exact⟨A,cap,hv,hr⟩
theorem zoQ {α β:Type}(f:α->List β)(n:Nat)(hn:∀ a,(f a).length=n):∀ (l:List α) (k j:Nat) (a a':α) (b:β),l[k]?=some a->j<n->f a'=(f a).set j b->(l.set k a').flatMap f=(l.flatMap f).set (k*n+j) b
 | [],k,j,a,a',b,h,_,_=>by simp at h
 | x::l,0,j,a,a',b,h,hj,hf=>by
  simp only[List.getElem?_cons_zero,Option.some.injEq] at h;subst h;rw[List.set_cons_zero,List.flatMap_cons,List.flatMap_cons,Nat.zero_mul,zqat,hf,List.set_append_left _ _ (by rw[hn];exact hj)]
 | x::l,k+1,j,a,a',b,h,hj,hf=>by
  rw[List.getElem?_cons_succ] at h;rw[List.set_cons_succ,List.flatMap_cons,List.flatMap_cons,List.set_append_right _ _ (by rw[hn,Nat.succ_mul];omega),hn,show(k+1)*n+j-n=k*n+j by rw[Nat.succ_mul];omega];rw[zoQ f n hn l k j a a' b h hj hf]
theorem zsc {α β:Type}:∀ (l:List α) (us:List β) (k:Nat) (a:α) (b:β),(l.set k a).zip (us.set k b)=(l.zip us).set k (a,b)
 | [],us,k,a,b=>by simp
 | x::l,[],k,a,b=>by cases k <;> simp
 | x::l,u::us,0,a,b=>by simp
 | x::l,u::us,k+1,a,b=>by simp[zsc l us k a b]
theorem zHA:(Tryz.prog.info? 59).map (fun i=>(i.zero,i.size,i.bytes))=some (some (.agg #[.int .i64 0,.int .i64 0,.string ByteArray.empty,.int .i64 0]),4,40):=by kernel_rfl
open Go.RowKit
end Go.Proofs.YtaogepcaoogpgaaGreatDoor
namespace Go.Proofs
open Go.Shelf
def Tryz.laysSlH10_f68_ren:Go.Shelf.Ren:=⟨fun|10=>185|6=>220|n=>n,fun|22=>51|23=>3|25=>67|3=>3|4=>4|0=>0|n=>n,fun|n=>n⟩
theorem Tryz.laysSlH10_f68:Go.Proofs.SlLaysH.n10 Tryz.prog Tryz.laysSlH10_f68_ren := {
 mixed:=by kernel_rfl
 f6:=⟨Tryz.f220.name,by decide,Tryz.func220.trans (zqbz some (by kernel_rfl))⟩
 f10:=⟨Tryz.f185.name,by decide,Tryz.func185.trans (zqbz some (by kernel_rfl))⟩
 t0:=Tryz.underlying0
 a0:=Tryz.isAgg0
 z0:=Tryz.sizeOf0
 v0:=Tryz.zeroValue0
 t3:=Tryz.underlying3
 a3:=Tryz.isAgg3
 z3:=Tryz.sizeOf3
 v3:=Tryz.zeroValue3
 t4:=Tryz.underlying4
 a4:=Tryz.isAgg4
 z4:=Tryz.sizeOf4
 v4:=Tryz.zeroValue4
 t22:=Tryz.underlying51
 a22:=Tryz.isAgg51
 z22:=Tryz.sizeOf51
 v22:=Tryz.zeroValue51
 a23:=Tryz.isAgg3
 z23:=Tryz.sizeOf3
 t25:=Tryz.underlying67
 a25:=Tryz.isAgg67
 z25:=Tryz.sizeOf67
 v25:=Tryz.zeroValue67 }
open Go.RowKit Go.Lib Go.Sort in
theorem Tryz.slices_DeleteFunc {α:Type}[Inhabited α](enc:α->Value)(hO:OneCell enc)(p:α->Bool)(g:Nat)(lb:Array Value)(eg:∀ args w,(callFunc g args).run Tryz.prog w=.ok (.enter g args) w)(zr:α)(v23:∀ w,(zeroValue 3).run Tryz.prog w=.ok (enc zr) w)(blk off cap:Nat)(d:Array α)(w:World)(hp:PredAt Tryz.prog g lb enc p w)(hpo:PredOver Tryz.prog g lb enc p blk off d.size w)(hH:Holds enc w blk off d)(hsz:d.size<=9223372036854775807)(hcap:d.size<=cap) :
  Calls Tryz.prog 185 #[.slice (some ⟨blk,off,none⟩) d.size cap,.func (.func g) #[] lb] w fun e w'=>e=.returned (.slice (some ⟨blk,off,none⟩) (d.toList.filter fun x => !p x).length cap)/\∃ q,w'=putRow enc (Sort.ahead w q) blk off ((d.toList.filter fun x => !p x)++List.replicate (d.size-(d.toList.filter fun x => !p x).length) zr).toArray:=AnyE.slices_DeleteFunc Tryz.laysSlH10_f68 enc hO p g lb eg zr v23 blk off cap d w hp hpo hH hsz hcap
def Tryz.laysSlM5_f70_ren:Go.Shelf.Ren:=⟨fun|5=>187|8=>222|7=>221|19=>245|20=>246|10=>236|11=>237|12=>238|13=>239|14=>240|15=>241|16=>242|17=>243|18=>244|30=>259|31=>260|32=>261|33=>262|34=>263|35=>195|40=>277|n=>n,fun|23=>51|25=>3|3=>3|32=>159|22=>51|0=>0|44=>178|46=>181|4=>4|36=>199|35=>198|41=>122|5=>5|9=>9|53=>217|57=>221|63=>229|64=>230|n=>n,fun|n=>n⟩
theorem Tryz.laysSlM5_f70:Go.Proofs.SlLaysM.n5 Tryz.prog Tryz.laysSlM5_f70_ren := {
 mixed:=by kernel_rfl
 f5:=⟨Tryz.f187.name,by decide,Tryz.func187.trans (zqbz some (by kernel_rfl))⟩
 f7:=⟨Tryz.f221.name,by decide,Tryz.func221.trans (zqbz some (by kernel_rfl))⟩
 f8:=Tryz.func222.trans (zqbz some (by kernel_rfl))
 f10:=⟨Tryz.f236.name,by decide,Tryz.func236.trans (zqbz some (by kernel_rfl))⟩
 f11:=⟨Tryz.f237.name,by decide,Tryz.func237.trans (zqbz some (by kernel_rfl))⟩
 f12:=⟨Tryz.f238.name,by decide,Tryz.func238.trans (zqbz some (by kernel_rfl))⟩
 f13:=⟨Tryz.f239.name,by decide,Tryz.func239.trans (zqbz some (by kernel_rfl))⟩
 f14:=⟨Tryz.f240.name,by decide,Tryz.func240.trans (zqbz some (by kernel_rfl))⟩
 f15:=⟨Tryz.f241.name,by decide,Tryz.func241.trans (zqbz some (by kernel_rfl))⟩
 f16:=⟨Tryz.f242.name,by decide,Tryz.func242.trans (zqbz some (by kernel_rfl))⟩
 f17:=⟨Tryz.f243.name,by decide,Tryz.func243.trans (zqbz some (by kernel_rfl))⟩
 f18:=⟨Tryz.f244.name,by decide,Tryz.func244.trans (zqbz some (by kernel_rfl))⟩
 f19:=Tryz.func245.trans (zqbz some (by kernel_rfl))
 f20:=Tryz.func246.trans (zqbz some (by kernel_rfl))
 f30:=⟨Tryz.f259.name,by decide,Tryz.func259.trans (zqbz some (by kernel_rfl))⟩
 f31:=Tryz.func260.trans (zqbz some (by kernel_rfl))
 f32:=Tryz.func261.trans (zqbz some (by kernel_rfl))
 f33:=⟨Tryz.f262.name,by decide,Tryz.func262.trans (zqbz some (by kernel_rfl))⟩
 f34:=⟨Tryz.f263.name,by decide,Tryz.func263.trans (zqbz some (by kernel_rfl))⟩
 f35:=⟨Tryz.f195.name,by decide,Tryz.func195.trans (zqbz some (by kernel_rfl))⟩
 f40:=⟨Tryz.f277.name,by decide,Tryz.func277.trans (zqbz some (by kernel_rfl))⟩
 t0:=Tryz.underlying0
 a0:=Tryz.isAgg0
 z0:=Tryz.sizeOf0
 v0:=Tryz.zeroValue0
 t3:=Tryz.underlying3
 a3:=Tryz.isAgg3
 z3:=Tryz.sizeOf3
 v3:=Tryz.zeroValue3
 t4:=Tryz.underlying4
 a4:=Tryz.isAgg4
 z4:=Tryz.sizeOf4
 v4:=Tryz.zeroValue4
 t5:=Tryz.underlying5
 a5:=Tryz.isAgg5
 z5:=Tryz.sizeOf5
 v5:=Tryz.zeroValue5
 t9:=Tryz.underlying9
 a9:=Tryz.isAgg9
 z9:=Tryz.sizeOf9
 v9:=Tryz.zeroValue9
 t22:=Tryz.underlying51
 a22:=Tryz.isAgg51
 z22:=Tryz.sizeOf51
 v22:=Tryz.zeroValue51
 t23:=Tryz.underlying51
 a23:=Tryz.isAgg51
 z23:=Tryz.sizeOf51
 v23:=Tryz.zeroValue51
 t25:=Tryz.underlying3
 a25:=Tryz.isAgg3
 z25:=Tryz.sizeOf3
 v25:=Tryz.zeroValue3
 t32:=Tryz.underlying159
 a32:=Tryz.isAgg159
 z32:=Tryz.sizeOf159
 v32:=Tryz.zeroValue159
 t35:=Tryz.underlying198
 a35:=Tryz.isAgg198
 z35:=Tryz.sizeOf198
 v35:=Tryz.zeroValue198
 t36:=Tryz.underlying199
 a36:=Tryz.isAgg199
 z36:=Tryz.sizeOf199
 v36:=Tryz.zeroValue199
 t41:=Tryz.underlying122
 a41:=Tryz.isAgg122
 z41:=Tryz.sizeOf122
 v41:=Tryz.zeroValue122
 t44:=Tryz.underlying178
 a44:=Tryz.isAgg178
 z44:=Tryz.sizeOf178
 v44:=Tryz.zeroValue178
 t46:=Tryz.underlying181
 a46:=Tryz.isAgg181
 z46:=Tryz.sizeOf181
 v46:=Tryz.zeroValue181
 t53:=Tryz.underlying217
 a53:=Tryz.isAgg217
 z53:=Tryz.sizeOf217
 v53:=Tryz.zeroValue217
 t57:=Tryz.underlying221
 a57:=Tryz.isAgg221
 z57:=Tryz.sizeOf221
 v57:=Tryz.zeroValue221
 t63:=Tryz.underlying229
 a63:=Tryz.isAgg229
 z63:=Tryz.sizeOf229
 v63:=Tryz.zeroValue229
 t64:=Tryz.underlying230
 a64:=Tryz.isAgg230
 z64:=Tryz.sizeOf230
 v64:=Tryz.zeroValue230 }
open Go.Sort Go.RowKit in
theorem Tryz.slices_Sort_int (blk off cap:Nat)(zs:List Int)(w:World)(hH:Holds (Value.int .i64) w blk off zs.toArray)(hblk:blk<w.heap.size)(hsz:zs.length<4611686018427387904) :
  Calls Tryz.prog 187 #[.slice (some ⟨blk,off,none⟩) zs.length cap] w fun e w' =>
   e=.returned (.tuple #[])/\∃ n os,w'=grow (putRow (Value.int .i64) (Sort.ahead w n) blk off (zs.mergeSort fun x y=>decide (x<=y)).toArray) os:=AnyM.slices_Sort_int Tryz.laysSlM5_f70 blk off cap zs w hH hblk hsz
end Go.Proofs
namespace Go.Proofs.YtaogepcaoogpgaaGreatDoor
open Go.ChangeShapes Go.WideShapes Go.ChangeAt Go.RowKit Go.Lib Go.Joins
theorem zEk:Tryz.prog.cellsOf 9=1:=by kernel_rfl
section
variable {H:Type} {enc:TypeId×Value->H} {w:World}
end
open Go.RowKit
instance:Inhabited zaN:=⟨⟨0,0,ByteArray.empty,0⟩⟩
theorem zjl {α:Type}[Inhabited α](enc:α->Value)(w:World)(blk off n:Nat)(d:Array α)(os:Array Obj):w.grownBy (Go.Sort.grow (Go.Sort.putRow enc (Go.Sort.ahead w n) blk off d) os) (some blk):=by
 refine⟨rfl,rfl,rfl,by simp,fun k hk hne=>?_⟩;rw[Go.Sort.heap_grow_old _ _ (by simpa using hk)];show((Go.Sort.ahead w n).heap.modify blk _)[k]?=w.heap[k]?;rw[Array.getElem?_modify,if_neg (fun e=>hne (by rw[e]))];rfl
open Go.RowKit
theorem zhE {W:World}{g:Nat}{m n:zak}{u v:Value}(h:zav W g m u) :
  zav ((((W.setCell ⟨g,0,none⟩ (.int .i64 n.kind)).setCell ⟨g,1,none⟩ (.int .i64 n.start)).setCell ⟨g,2,none⟩ (.string n.lead)).setCell ⟨g,3,none⟩ v) g n v /\
  W.grownBy ((((W.setCell ⟨g,0,none⟩ (.int .i64 n.kind)).setCell ⟨g,1,none⟩ (.int .i64 n.start)).setCell ⟨g,2,none⟩ (.string n.lead)).setCell ⟨g,3,none⟩ v) (some g):=by
 have g1:=zac W ⟨g,0,none⟩ (.int .i64 n.kind);have g2:=zac (W.setCell ⟨g,0,none⟩ (.int .i64 n.kind)) ⟨g,1,none⟩ (.int .i64 n.start);have g3:=zac ((W.setCell ⟨g,0,none⟩ (.int .i64 n.kind)).setCell ⟨g,1,none⟩ (.int .i64 n.start)) ⟨g,2,none⟩ (.string n.lead);have g4:=zac (((W.setCell ⟨g,0,none⟩ (.int .i64 n.kind)).setCell ⟨g,1,none⟩ (.int .i64 n.start)).setCell ⟨g,2,none⟩ (.string n.lead)) ⟨g,3,none⟩ v;exact⟨h.set,World.grownBy.trans g1 (World.grownBy.trans g2 (World.grownBy.trans g3 g4))⟩
open Go.RowKit
open Go.RowKit
section
variable {k:Int}
theorem zAL (hk:zad k)(gc:Nat)(fin:ByteArray)(Au:Option Addr)(nu cu:Nat)(w:World)(hf:fin=⟨#[]⟩∨∃ v,Val k fin v)(hcal:zcR w gc k) :
  Calls Tryz.prog 95 #[.agg #[.string fin,.slice Au nu cu],.pointer (some ⟨gc,0,none⟩)] w fun e w'=>∃ g,e=.returned (.slice (some ⟨g,0,none⟩) 1 1)/\w.heap.size<=g/\zaq w' g 0 1 (txs (fun _=>finE hk fin))/\w.grownBy w' none:=by
 have hW:=zGA w (.cells #[.string fin,.slice Au nu cu] 57) none;have b0:=zao w #[.string fin,.slice Au nu cu] 57 (j:=0) rfl;have c0:=hW.cell hcal.1 (by simp);have c1:=hW.cell hcal.2.1 (by simp);have c2:=hW.cell hcal.2.2 (by simp);have hz:=fun w'=>zgI k 1 w' (by omega);have HZ:=zHd hz;have HW:=zHd hW;clear hz hcal;unfold zbi at *
 by_cases he:fin=⟨#[]⟩
 ·have hv:finE hk fin=(srE k hk).zero:=by unfold finE;rw[if_pos he]
  have f1:(fin.toList==[])=true:=by rw[he,Lib.toList_data];rfl
  have HV:=zHd hv;clear hv he hf hW;go_enter Tryz.func95,Tryz.ntmps95;go_wp2_with fail;refine(HZ.out _).mono ?_;rintro e w1 ⟨g,rfl,hgW,hrow,hg1⟩;have H1:=zHd (zAI hgW (zAI hrow hg1));clear hgW hrow hg1;go_wp2;go_ret;obtain⟨hgW,hrow,hg1⟩:=H1.out;have:=HW.out.size;refine⟨g,rfl,by omega,⟨(zkv hrow).1,fun j hj=>((zkv hrow).2 j hj).trans ?_⟩,zaa HW.out hg1⟩;unfold txs;rw[HV.out,zdG]
 ·have hval:∃ v,Val k fin v:=hf.resolve_left he
  have hv:finE hk fin=vE hk fin:=by unfold finE;rw[if_neg he]
  have f1:(fin.toList==[])=false:=by
   rw[Bool.eq_false_iff];intro h;have h2:=eq_of_beq h;rw[Lib.toList_data] at h2;exact he (ByteArray.ext (Array.toList_inj.1 (by rw[h2])))
  have HV:=zHd (zAI hv (znF hk hval).1);clear hv he hf hval hW;go_enter Tryz.func95,Tryz.ntmps95;go_wp2;go_ret;refine⟨w.heap.size+1,by simp,by omega,?_,zaa HW.out (zGA _ _ none)⟩;have h:=zrO (w.alloc (.cells #[.string fin,.slice Au nu cu] 57)) (.string fin) 9;rw[show(w.alloc (.cells #[.string fin,.slice Au nu cu] 57)).heap.size=w.heap.size+1 by simp] at h;refine⟨h.1,fun j hj=>(h.2 j hj).trans ?_⟩;unfold txs;rw[HV.out.1,<- HV.out.2]
theorem zsd (gc:Nat)(v:Value)(fin:ByteArray)(Au:Option Addr)(nu cu:Nat)(hk:zad k)(w:World)(hcal:zcR w gc k) :
  Calls Tryz.prog 98 #[.agg #[.string fin,.slice Au nu cu],.pointer (some ⟨gc,0,none⟩)] w fun e w'=>∃ g,e=.returned (.slice (some ⟨g,0,none⟩) 1 1)/\w.heap.size<=g/\zaq w' g 0 1 (txs (fun _=>(srE k hk).zero))/\w.grownBy w' none:=by
 have hW:=zGA w (.cells #[.string fin,.slice Au nu cu] 57) none;have c0:=hW.cell hcal.1 (by simp);have c1:=hW.cell hcal.2.1 (by simp);have c2:=hW.cell hcal.2.2 (by simp);have hz:=fun w'=>zgI k 1 w' (by omega);have HZ:=zHd hz;have HW:=zHd hW;clear hz hcal hW;unfold zbi at *;go_enter Tryz.func98,Tryz.ntmps98;go_wp2_with fail;refine(HZ.out _).mono ?_;rintro e w1 ⟨g,rfl,hgW,hrow,hg1⟩;have H1:=zHd (zAI hgW (zAI hrow hg1));clear hgW hrow hg1;go_wp2;go_ret;obtain⟨hgW,hrow,hg1⟩:=H1.out;have:=HW.out.size;refine⟨g,rfl,by omega,⟨(zkv hrow).1,fun j hj=>((zkv hrow).2 j hj).trans ?_⟩,zaa HW.out hg1⟩;unfold txs;rw[zdG]
def zeR (w:World)(g:Nat)(kd st:Int)(ld:ByteArray)(As:Option Addr)(n cs:Nat):Prop :=
 w.cell? ⟨g,0,none⟩=some (.int .i64 kd)/\w.cell? ⟨g,1,none⟩=some (.int .i64 st)/\w.cell? ⟨g,2,none⟩=some (.string ld)/\w.cell? ⟨g,3,none⟩=some (.slice As n cs)
theorem zeR.grown {w w':World}{g:Nat}{kd st:Int}{ld:ByteArray}{As:Option Addr}{n cs:Nat}(h:zeR w g kd st ld As n cs)(hg:w.grownBy w' none):zeR w' g kd st ld As n cs :=
 ⟨hg.cell h.1 (by simp),hg.cell h.2.1 (by simp),hg.cell h.2.2.1 (by simp),hg.cell h.2.2.2 (by simp)⟩
theorem zeR.new (w:World)(kd st:Int)(ld:ByteArray)(As:Option Addr)(n cs:Nat):zeR (w.alloc (.cells #[.int .i64 kd,.int .i64 st,.string ld,.slice As n cs] 31)) w.heap.size kd st ld As n cs:=⟨zao w _ _ rfl,zao w _ _ rfl,zao w _ _ rfl,zao w _ _ rfl⟩
noncomputable def toE (hk:zad k)(l:List zai)(i:Nat):El k:=zbP (srE k hk) (arcM hk l) l.length (finM hk l) i
def zif (hk:zad k)(l:List zai):Prop:=zhB hk l/\SolveFits (srE k hk) zam l.length l.length 1 (arcM hk l) (fun x _=>finM hk l x)
theorem zAM (hk:zad k)(l:List zai)(us:List Value)(As:Option Addr)(cs gc:Nat)(w:World)(hok:zdA k l)(hst:zhA w l us As cs)(hcal:zcR w gc k) :
  Calls Tryz.prog 94 #[.slice As l.length cs,.func (.func 95) #[] #[.pointer (some ⟨gc,0,none⟩)]] w fun e w'=>∃ zs,e=.returned (.slice (some ⟨w.heap.size,0,none⟩) l.length l.length)/\zfs w' w.heap.size w.heap.size l.length 1 zs (fun i=>txs (fun _=>finM hk l i))/\w.grownBy w' none:=by
 have h:=ziq 95 ztT #[] #[.pointer (some ⟨gc,0,none⟩)] l us As cs 1 (fun _=>True) (fun i=>txs (fun _=>finM hk l i)) w (by have:=hok.n60;omega) hst (fun i s u hs hu w' hw' ha=>by
  obtain⟨Au,cu,rfl,_⟩:=ha;have hil:=(zqae.1 hs).1;have h1:=zAL hk gc s.fin Au s.arcs.length cu w' (by have:=hok.fins i hil;rw[zky hs] at this;exact this) (hcal.grown hw');refine h1.mono (fun e w3 h=>?_);obtain⟨g,e1,q1,q2,q3⟩:=h;refine .inl ⟨trivial,_,e1,⟨g,0,1,rfl,zqab _,by unfold maxLen;omega,.inr q1,?_⟩,q3⟩;show zaq w3 g 0 1 (txs (fun _=>finM hk l i));unfold finM;rw[zky hs];exact q2)
 refine h.mono (fun e w3 h=>?_);rcases h with⟨_,v,e1,⟨zs,rfl,q1,_⟩,q3⟩|⟨hn,_⟩
 ·exact⟨zs,e1,q1,q3⟩
 ·exact absurd (fun _ _=>trivial) hn
theorem zth (hk:zad k)(l:List zai)(us:List Value)(As:Option Addr)(cs:Nat)(st:Int)(ld:ByteArray)(w:World)(hok:zdA k l)(hst:zhA w l us As cs) :
  Calls Tryz.prog 53 #[.agg #[.int .i64 k,.int .i64 st,.string ld,.slice As l.length cs]] w (zbO (zif hk l) (fun v w'=>∃ g,v=.slice (some ⟨g,0,none⟩) l.length l.length/\w.heap.size<=g/\zaq w' g 0 l.length (txs (toE hk l))) w):=by
 have hmf := @zMF Tryz.prog;have hof:=fun w'=>znA k w';have hfin:=fun(gc:Nat) (w':World) (hg:w.grownBy w' none) (hcal:zcR w' gc k)=>zAM hk l us As cs gc w' hok (hst.grown hg) hcal;have hsteps:=fun(w':World) (hg:w.grownBy w' none)=>ztf hk l us As cs k st ld w' hok (hst.grown hg)
 have hsolve:=fun(av bv:Value) (w':World) (ha:zbv w' av l.length l.length (arcM hk l)) (hb:zbv w' bv l.length 1 (fun i _=>finM hk l i)) (hf:zhB hk l)=>zjK hk 1 (zqab _) l.length l.length (arcM hk l) (fun x _=>finM hk l x) av bv w' (zqab _) (by have:=hok.n60;omega)
  ⟨ha,hb,fun i hi j _=>zvU hk hf hi j,fun i hi j _=>zHt hk (hok.fins i hi)⟩
 have hcol:=fun(v:Value) (w':World) (hv:zbv w' v l.length 1 (solveF (srE k hk) l.length l.length (arcM hk l) (fun x _=>finM hk l x))) =>
  (show Calls Tryz.prog 96 #[v] w' (fun e w2=>∃ u,e=.returned u/\u=.slice (some ⟨w'.heap.size,0,none⟩) l.length l.length/\zaq w2 w'.heap.size 0 l.length (fun i=>.string (tx (solveF (srE k hk) l.length l.length (arcM hk l) (fun x _=>finM hk l x) i 0)))/\w'.grownBy w2 none) from by
   obtain⟨rs,h1,h2⟩:=hv;exact zqx l.length 1 rs (fun i=>txs (solveF (srE k hk) l.length l.length (arcM hk l) (fun x _=>finM hk l x) i)) _ v w' (by have:=hok.n60;omega) (by omega) h1 (fun i hi=>(h2 i hi).row) (fun i hi=>rfl))
 have hval:∀ i,i<l.length->solveF (srE k hk) l.length l.length (arcM hk l) (fun x _=>finM hk l x) i 0=toE hk l i:=fun i hi=>zgv _ _ _ _ _ (zqab _) i 0 hi;have HO:=zHd hof;have HF:=zHd hfin;have HT:=zHd hsteps;have HS:=zHd hsolve;have HC:=zHd hcol;have HV:=zHd hval;have HN:=zHd hok.n60;have hal:=zGA w (.cells #[.int .i64 k,.int .i64 st,.string ld,.slice As l.length cs] 31) none;obtain⟨x0,x1,x2,x3⟩:=zeR.new w k st ld As l.length cs;have HW:=zHd hal;clear hof hfin hsteps hsolve hcol hval hok hst hal;unfold zbi at *;go_enter Tryz.func53,Tryz.ntmps53;go_wp2_with fail;refine(HO.out _).mono ?_;rintro e w1 ⟨rfl,hg1⟩;have hal:=zGA w1 (.cells #[.int .i64 k,.string (zae k),.string (zal k)] 64) none;have hg2:=zaa hg1 hal;have y0:=hg2.cell x0 (by simp);have y1:=hg2.cell x1 (by simp);have y2:=hg2.cell x2 (by simp);have y3:=hg2.cell x3 (by simp);have xc:zcR (w1.alloc (.cells #[.int .i64 k,.string (zae k),.string (zal k)] 64)) w1.heap.size k:=⟨zao w1 _ _ rfl,zao w1 _ _ rfl,zao w1 _ _ rfl⟩;have HG2:=zHd (zaa HW.out hg2);have HXC:=zHd xc;clear x0 x1 x2 x3 hg1 hal hg2 xc HO HW;go_wp2_with fail;refine(HF.out w1.heap.size _ HG2.out HXC.out).mono ?_;rintro e w3 ⟨zs,rfl,hzs,hg3⟩;have z0:=hg3.cell y0 (by simp);have z1:=hg3.cell y1 (by simp);have z2:=hg3.cell y2 (by simp);have z3:=hg3.cell y3 (by simp);obtain⟨c0,c1,c2⟩:=HXC.out.grown hg3;have hfm:=hzs.mat (F:=fun i _=>finM hk l i) (by have:=HN.out;omega);rw[show(w1.alloc (.cells #[.int .i64 k,.string (zae k),.string (zal k)] 64)).heap.size=w1.heap.size+1 by simp] at hfm;have HG3:=zHd (zaa HG2.out hg3);have HFM:=zHd hfm;clear y0 y1 y2 y3 hzs hfm hg3 HXC HF;have S3:(fun W':World=>W'.cell? ⟨w1.heap.size,0,none⟩=some (.int .i64 k)/\W'.cell? ⟨w1.heap.size,1,none⟩=some (.string (zae k))/\W'.cell? ⟨w1.heap.size,2,none⟩=some (.string (zal k))/\W'.cell? ⟨w.heap.size,0,none⟩=some (.int .i64 k)/\W'.cell? ⟨w.heap.size,1,none⟩=some (.int .i64 st)/\W'.cell? ⟨w.heap.size,2,none⟩=some (.string ld)/\W'.cell? ⟨w.heap.size,3,none⟩=some (.slice As l.length cs)) w3.drew:=⟨c0,c1,c2,z0,z1,z2,z3⟩;have HGD:=zHd (zaa HG3.out (zag w3 none));clear c0 c1 c2 z0 z1 z2 z3;go_upto_region 3 with(fail)
 go_region_held2 (fun W'=>W'.cell? ⟨w1.heap.size,0,none⟩=some (.int .i64 k)/\W'.cell? ⟨w1.heap.size,1,none⟩=some (.string (zae k))/\W'.cell? ⟨w1.heap.size,2,none⟩=some (.string (zal k))/\W'.cell? ⟨w.heap.size,0,none⟩=some (.int .i64 k)/\W'.cell? ⟨w.heap.size,1,none⟩=some (.int .i64 st)/\W'.cell? ⟨w.heap.size,2,none⟩=some (.string ld)/\W'.cell? ⟨w.heap.size,3,none⟩=some (.slice As l.length cs)) (first|exact S3|exact S5|exact S6|exact S7|go_keep)
  (first
  | (go_at_call 97;refine(HT.out _ HGD.out).mono ?_;rintro e w5 (⟨hp,v5,rfl,hm5,hg5⟩|⟨hn,rfl,hg5⟩);rotate_left 1;(exact⟨rfl,.inr ⟨fun h=>hn h.1,rfl,zaa HGD.out hg5⟩⟩);obtain⟨A5,e5,rfl⟩:=hm5.shape;have S5:(fun W':World=>W'.cell? ⟨w1.heap.size,0,none⟩=some (.int .i64 k)/\W'.cell? ⟨w1.heap.size,1,none⟩=some (.string (zae k))/\W'.cell? ⟨w1.heap.size,2,none⟩=some (.string (zal k))/\W'.cell? ⟨w.heap.size,0,none⟩=some (.int .i64 k)/\W'.cell? ⟨w.heap.size,1,none⟩=some (.int .i64 st)/\W'.cell? ⟨w.heap.size,2,none⟩=some (.string ld)/\W'.cell? ⟨w.heap.size,3,none⟩=some (.slice As l.length cs)) w5:=⟨hg5.cell S3.1 (by simp),hg5.cell S3.2.1 (by simp),hg5.cell S3.2.2.1 (by simp),hg5.cell S3.2.2.2.1 (by simp),hg5.cell S3.2.2.2.2.1 (by simp),hg5.cell S3.2.2.2.2.2.1 (by simp),hg5.cell S3.2.2.2.2.2.2 (by simp)⟩;have H5:=zHd (zAI hp (zAI hm5 hg5));clear hp hm5 hg5)
  | (go_at_call 43;refine(HS.out _ _ w5 H5.out.2.1 ((HFM.out.grown (zag w3 none)).grown H5.out.2.2) H5.out.1).mono ?_;rintro e w6 (⟨hp,v6,rfl,hm6,hg6⟩|⟨hn,rfl,hg6⟩);rotate_left 1;(exact⟨rfl,.inr ⟨fun h=>hn h.2,rfl,zaa (zaa HGD.out H5.out.2.2) hg6⟩⟩);obtain⟨A6,e6,rfl⟩:=hm6.shape;have S6:(fun W':World=>W'.cell? ⟨w1.heap.size,0,none⟩=some (.int .i64 k)/\W'.cell? ⟨w1.heap.size,1,none⟩=some (.string (zae k))/\W'.cell? ⟨w1.heap.size,2,none⟩=some (.string (zal k))/\W'.cell? ⟨w.heap.size,0,none⟩=some (.int .i64 k)/\W'.cell? ⟨w.heap.size,1,none⟩=some (.int .i64 st)/\W'.cell? ⟨w.heap.size,2,none⟩=some (.string ld)/\W'.cell? ⟨w.heap.size,3,none⟩=some (.slice As l.length cs)) w6:=⟨hg6.cell S5.1 (by simp),hg6.cell S5.2.1 (by simp),hg6.cell S5.2.2.1 (by simp),hg6.cell S5.2.2.2.1 (by simp),hg6.cell S5.2.2.2.2.1 (by simp),hg6.cell S5.2.2.2.2.2.1 (by simp),hg6.cell S5.2.2.2.2.2.2 (by simp)⟩;have H6:=zHd (zAI hp (zAI hm6 hg6));clear hp hm6 hg6)
  | (go_at_call 96;refine(HC.out _ w6 H6.out.2.1).mono ?_;rintro e w7 ⟨u7,rfl,rfl,hr7,hg7⟩;have S7:(fun W':World=>W'.cell? ⟨w1.heap.size,0,none⟩=some (.int .i64 k)/\W'.cell? ⟨w1.heap.size,1,none⟩=some (.string (zae k))/\W'.cell? ⟨w1.heap.size,2,none⟩=some (.string (zal k))/\W'.cell? ⟨w.heap.size,0,none⟩=some (.int .i64 k)/\W'.cell? ⟨w.heap.size,1,none⟩=some (.int .i64 st)/\W'.cell? ⟨w.heap.size,2,none⟩=some (.string ld)/\W'.cell? ⟨w.heap.size,3,none⟩=some (.slice As l.length cs)) w7:=⟨hg7.cell S6.1 (by simp),hg7.cell S6.2.1 (by simp),hg7.cell S6.2.2.1 (by simp),hg7.cell S6.2.2.2.1 (by simp),hg7.cell S6.2.2.2.2.1 (by simp),hg7.cell S6.2.2.2.2.2.1 (by simp),hg7.cell S6.2.2.2.2.2.2 (by simp)⟩;have H7:=zHd (zAI hr7 hg7);clear hr7 hg7))
 all_goals
  go_wp2;go_ret;refine .inl ⟨⟨H5.out.1,H6.out.1⟩,_,rfl,⟨w6.heap.size,rfl,?_,H7.out.1.1,fun j hj=>(H7.out.1.2 j hj).trans ?_⟩,zaa (zaa (zaa HGD.out H5.out.2.2) H6.out.2.2) H7.out.2⟩
  ·have h1:=HGD.out.size
   have h2:=H5.out.2.2.size;have h3:=H6.out.2.2.size;omega
  ·unfold txs
   rw[<- HV.out j hj]
end
open Go.RowKit
def zer (m:zak)(k j x:Nat):List Nat:=(List.range k).flatMap (fun i=>(zaV m i).filterMap (fun t=>if t=x then some i else none))++((zaV m k).take j).filterMap (fun t=>if t=x then some k else none)
def zef (m:zak)(n k j:Nat):List (List Nat):=(List.range n).map (zer m k j)
theorem zmU (m:zak)(n k j:Nat):(zef m n k j).length=n:=by simp[zef]
theorem zmV {m:zak}{n k j x:Nat}(h:x<n):(zef m n k j)[x]?=some (zer m k j x):=by unfold zef;rw[zqaj,zqbe h];rfl
theorem zAN {m:zak}{k j y:Nat}(h:(zaV m k)[j]?=some y)(x:Nat):zer m k (j+1) x=if x=y then zer m k j x++[k] else zer m k j x:=by
 unfold zer;rw[zdL h,List.filterMap_append]
 by_cases e:x=y
 ·subst e
  rw[if_pos rfl,zqbj];congr 2;simp
 ·rw[if_neg e]
  congr 1;have:([y].filterMap (fun t=>if t=x then some k else none))=[]:=by simp[Ne.symm e]
  rw[this,List.append_nil]
theorem zAO {m:zak}{n k j y:Nat}(h:(zaV m k)[j]?=some y)(hy:y<n):(zef m n k j).set y (zer m k j y++[k])=zef m n k (j+1):=by
 apply List.ext_getElem?;intro i
 by_cases hi:i<n
 ·rw[zmV hi,zAN h]
  by_cases e:i=y
  ·subst e
   rw[zqbi (by rw[zmU];exact hi),if_pos rfl]
  ·rw[zqbl (Ne.symm e),zmV hi,if_neg e]
 ·rw[zqas (by rw[List.length_set,zmU];omega),zqas (by rw[zmU];omega)]
theorem zAP (m:zak)(k x:Nat){j:Nat}(h:(zaV m k).length<=j):zer m k j x=zer m (k+1) 0 x:=by
 unfold zer;rw[zqaf h,List.range_succ,List.flatMap_append,List.take_zero];simp
theorem zAQ (m:zak)(n k:Nat){j:Nat}(h:(zaV m k).length<=j):zef m n k j=zef m n (k+1) 0:=by
 unfold zef;apply List.map_congr_left;intro x _;exact zAP m k x h
theorem zti (m:zak)(x:Nat):zer m m.states.length 0 x=zbl m x:=by unfold zer zbl;simp
theorem zxD (m:zak)(n:Nat):zef m n 0 0=List.replicate n []:=by
 unfold zef;apply List.ext_getElem?;intro i;rw[zqaj,zqbg]
 by_cases hi:i<n
 ·rw[zqbe hi,if_pos hi];simp[zer]
 ·rw[zqas (by rw[List.length_range];omega),if_neg hi];rfl
structure zfg (W:World)(C r n:Nat)(vals:List Value)(rows:List (List Nat)):Prop where
 row:W.heap[r]?=some (.cells vals.toArray 51 (0,0))
 vl:vals.length=n
 rl:rows.length=n
 own:∀ (k:Nat) (v:Value) (q:List Nat),vals[k]?=some v->rows[k]?=some q->W.ownsRow C 3 1 v q.length (nvL q)
 dis:∀ (i j:Nat) (v v':Value),i≠j->vals[i]?=some v->vals[j]?=some v'->v.ownBlock=none∨v.ownBlock≠v'.ownBlock
 hr:r<C
 hC:C<=W.heap.size
theorem zfg.next {W W':World}{C r n:Nat}{vals:List Value}{rows:List (List Nat)}(h:zfg W C r n vals rows)(hg:W.grownBy W' none):zfg W' C r n vals rows :=
 ⟨(hg.block r (by have:=h.hr;have:=h.hC;omega) (by simp)).trans h.row,h.vl,h.rl,fun k v q hv hq=>(h.own k v q hv hq).kept hg (by cases e:v.ownBlock <;> simp),h.dis,h.hr,by have:=hg.size;have:=h.hC;omega⟩
theorem zfg.at_ {W:World}{C r n:Nat}{vals:List Value}{rows:List (List Nat)}(h:zfg W C r n vals rows){y:Nat}(hy:y<n):∃ v q,vals[y]?=some v/\rows[y]?=some q/\W.cell? ⟨r,y,none⟩=some v/\W.frozen? ⟨r,y,none⟩=false/\W.ownsRow C 3 1 v q.length (nvL q):=by
 have h1:vals[y]?=some (vals[y]'(by rw[h.vl];exact hy)):=zqac (by rw[h.vl];exact hy);have h2:rows[y]?=some (rows[y]'(by rw[h.rl];exact hy)):=zqac (by rw[h.rl];exact hy);refine⟨_,_,h1,h2,?_,zqbx W r y _ _ h.row,h.own y _ _ h1 h2⟩;rw[zqbw W r y _ _ (0,0) h.row,zqap];exact h1
theorem zfg.push {W w1:World}{C r n y i g c:Nat}{vals:List Value}{rows:List (List Nat)}{v:Value}{q:List Nat}(h:zfg W C r n vals rows)(hv:vals[y]?=some v)(hq:rows[y]?=some q)
  (hown:w1.ownsRow C 3 1 (.slice (some ⟨g,0,none⟩) (q.length+1) c) (q.length+1) (nvL q++[.int .i64 (i:Int)])) (hg:W.grownBy w1 v.ownBlock) (hat:v.ownBlock=some g∨g=W.heap.size) :
  zfg (w1.setCell ⟨r,y,none⟩ (.slice (some ⟨g,0,none⟩) (q.length+1) c)) C r n (vals.set y (.slice (some ⟨g,0,none⟩) (q.length+1) c)) (rows.set y (q++[i])):=by
 have hyl:y<n:=by have:=(zqae.1 hv).1;rw[h.vl] at this;exact this
 have hvo:=(h.own y v q hv hq).lt;have hr:=h.hr;have hC:=h.hC;have h1:w1.heap[r]?=some (.cells vals.toArray 51 (0,0)):=(hg.block r (by omega) (fun e=>by have:=(hvo r e.symm).1;omega)).trans h.row;have gs:=zac w1 ⟨r,y,none⟩ (.slice (some ⟨g,0,none⟩) (q.length+1) c)
 have hgC:C<=g:=by
  have:=(hown.lt g rfl).1;exact this
 refine⟨?_,by rw[List.length_set];exact h.vl,by rw[List.length_set];exact h.rl,fun k u p hu hp=>?_,fun a b u u' hne hu hu'=>?_,hr,by have:=hg.size;simp;omega⟩
 ·rw[heap_setCell_same w1 r y _ _ _ h1];simp
 ·by_cases e:k=y
  ·subst e
   rw[zqbi (by rw[h.vl];exact hyl)] at hu;rw[zqbi (by rw[h.rl];exact hyl)] at hp;cases hu;cases hp;have hh:=hown.kept gs (.inr (by show some g≠some r;intro e;cases e;omega));rw[zqag,zqbq];unfold nvL;rw[List.map_append];exact hh
  ·rw[zqbl (Ne.symm e)] at hu hp
   have ho:=h.own k u p hu hp
   have h2:w1.ownsRow C 3 1 u p.length (nvL p):=ho.kept hg (by
    rcases h.dis k y u v e hu hv with h|h
    ·exact .inl h
    ·exact .inr h)
   exact h2.kept gs (by
    cases eb:u.ownBlock with
    | none=>exact .inl rfl
    | some b=>exact .inr (by have:=(ho.lt b eb).1;show some b≠some r;intro e;cases e;omega))
 ·have hlt:∀ (k:Nat) (z:Value),vals[k]?=some z->z.ownBlock≠some W.heap.size:=fun k z hz e=>by
   obtain⟨p,hp⟩:∃ p,rows[k]?=some p:=⟨_,zqac (by have:=(zqae.1 hz).1;rw[h.rl,<- h.vl];exact this)⟩;have:=((h.own k z p hz hp).lt _ e).2;omega
  by_cases ea:a=y
  ·subst ea
   rw[zqbi (by rw[h.vl];exact hyl)] at hu;rw[zqbl hne] at hu';cases hu;right;show some g≠u'.ownBlock;rcases hat with e|e
   ·intro e2
    rcases h.dis a b v u' hne hv hu' with h3|h3
    ·rw[e] at h3;cases h3
    ·exact h3 (e.trans e2)
   ·intro e2;exact hlt b u' hu' (by rw[<- e2,e])
  ·rw[zqbl (Ne.symm ea)] at hu
   by_cases eb:b=y
   ·subst eb
    rw[zqbi (by rw[h.vl];exact hyl)] at hu';cases hu';show u.ownBlock=none∨u.ownBlock≠some g;rcases hat with e|e
    ·rcases h.dis a b u v hne hu hv with h3|h3
     ·exact .inl h3
     ·exact .inr (by rw[<- e];exact h3)
    ·exact .inr (by rw[e];exact hlt a u hu)
   ·rw[zqbl (Ne.symm eb)] at hu'
    exact h.dis a b u u' hne hu hu'
theorem zfg.start {W:World}{B g n:Nat}{l:List Value}(hc:W.heap[g]?=some (.cells (List.replicate n (Value.slice none 0 0)).toArray 51 (0,0))):zfg W W.heap.size g n (List.replicate n (.slice none 0 0)) (List.replicate n []):=by
 refine⟨hc,by simp,by simp,fun k v q hv hq=>?_,fun i j v v' _ hv _=>?_,lt_of_block hc,zqab _⟩
 ·rw[zqbg] at hv hq
  split at hv
  ·cases hv
   rw[if_pos (by assumption)] at hq;cases hq;exact World.ownsRow_nil _ _ _ _
  ·cases hv
 ·rw[zqbg] at hv
  split at hv
  ·cases hv;exact .inl rfl
  ·cases hv
theorem ztj:(Tryz.prog.info? 3).map (fun i=>(i.zero,i.size,i.bytes))=some (some (.int .i64 0),1,8):=by kernel_rfl
theorem zEl:(Tryz.prog.info? 51).map (fun i=>(i.zero,i.size,i.bytes))=some (some (.slice none 0 0),1,24):=by kernel_rfl
open Go.RowKit
theorem zxE:Enters 219:=enters_of Tryz.func219 (by kernel_rfl) rfl
structure zkA (w0:World)(p n:Nat)(f:Nat->List Nat):Prop where
 ex:∃ r,w0.heap[p]?=some (.cells #[.slice (some ⟨r,0,none⟩) n n] 82 (0,0))/\r<w0.heap.size/\∀ x,x<n->∃ v,w0.cell? ⟨r,x,none⟩=some v/\NSl w0 v (f x)
theorem zAR {w:World}{B n:Nat}{v:Value}{xs:List Value}(h:w.ownsRow B 3 1 v n xs):∃ A cap,v=.slice A n cap/\Reads w w.heap.size 1 A n xs:=zmT h
theorem zkA.of {W:World}{C r p n:Nat}{vals:List Value}{f:Nat->List Nat}(h:zfg W C r n vals ((List.range n).map f))(hp:W.heap[p]?=some (.cells #[.slice (some ⟨r,0,none⟩) n n] 82 (0,0))):zkA W p n f:=by
 refine⟨r,hp,by have:=h.hr;have:=h.hC;omega,fun x hx=>?_⟩;obtain⟨v,q,h1,h2,h3,_,h5⟩:=h.at_ hx;rw[zqaj,zqbe hx] at h2;simp at h2;subst h2;obtain⟨A,cap,hv,hr⟩:=zAR h5;exact⟨v,h3,A,cap,hv,hr⟩
theorem zAS {w0:World}{p:Nat}{m:zak}(hbk:zkA w0 p m.states.length (zbl m))(hm:Small m)(hlen:∀ x,(zbl m x).length<=1000000000):Steps w0 219 p m.states.length (zbl m):=by
 intro W B C s r t x o v hB0 hBB hmem hx hnd hlt;obtain⟨rb,hp,hrb,hrow⟩:=hbk;obtain⟨vx,hcx,hns⟩:=hrow x hx;obtain⟨x0,_⟩:=one_cell ((hB0.block p (lt_of_block hp)).trans hp);have y0:=(hB0.cell (p:=⟨rb,x,none⟩) hrb).trans hcx;obtain⟨A,cap,rfl,hr⟩:=hns;have n1:(0:Int)<=(x:Int):=by omega
 have n2:(x:Int)<(m.states.length:Int):=by omega
 have hln:=hlen x;have hn3:=hm.n;have HMEM:=zHd hmem;have HR:=zHd hr;have HB0:=zHd hB0;have HND:=zHd hnd;have HLT:=zHd hlt;clear hp hrb hrow hcx hmem hr hm hnd hlt hB0 hlen;go_enter Tryz.func219,Tryz.ntmps219;go_wp2;clear x0 y0
 go_loopw [12] (fun i wr=>∃ (j:Nat) (v:Value),i=.int .i64 j/\j<=(zbl m x).length/\zeQ wr B C s r t m.states.length (((zbl m x).take j).foldl zbe o) v/\Below B W wr) (fun i _=>(zbl m x).length-(intOf i).toNat)
 case atStart=>exact⟨0,v,rfl,by omega,HMEM.out,Below.refl _ _⟩
 case round =>
  obtain⟨j,v',rfl,hj,hmem,hb⟩:=hrel;have HMEM2:=zHd hmem;have HB:=zHd hb;have hB1:Below w0.heap.size w0 wr:=HB0.out.trans (hb.mono hBB);clear hmem hb
  by_cases hjl:j<(zbl m x).length
  ·obtain⟨ad,y,hA,hst,hc⟩:=zic ((HR.out.below hB1).more hB1.size) hjl
   subst hA;have hyn:y<m.states.length:=zhg x y (zqak hst)
   have htk:((zbl m x).take (j+1)).foldl zbe o=zbe (((zbl m x).take j).foldl zbe o) y:=by
    rw[zdL hst,zlo]
   have hlen:(((zbl m x).take j).foldl zbe o).length<=1000000:=by
    have:=short_list (zcs (l:=(zbl m x).take j) HND.out) (zdE (l:=(zbl m x).take j) HLT.out (fun z hz=>zhg x z (zqau hz)));omega
   have n3:(j:Int)<((zbl m x).length:Int):=by omega
   have n4:IntKind.i64.wrap ((j:Int)+1)=(j:Int)+1:=by rw[zqah];omega
   have HTK:=zHd htk;have HRR:=zHd (zmN HMEM2.out hyn hlen);clear hst htk hB1;go_wp2_with fail;refine HRR.out.mono ?_;rintro e w5 ⟨rfl,⟨v5,hm5⟩,hb5⟩;have HM5:=zHd hm5;have HB5:=zHd (HB.out.trans hb5);clear hm5 hb5 hc;go_wp2
   go_roundw
   case rel=>exact⟨j+1,v5,by go_num,by omega,by rw[HTK.out];exact HM5.out,HB5.out⟩
   case measure=>simp[intOf];omega
  ·have n3:¬ (j:Int)<((zbl m x).length:Int):=by omega
   have e:(zbl m x).take j=zbl m x:=zqaf (by omega);rw[e] at HMEM2;clear hB1;go_wp2
   go_end0
   exact⟨rfl,⟨v',HMEM2.out⟩,HB.out⟩
def zHB (m:zak)(w:World)(e:Ending)(w':World):Prop:=∃ p,e=.returned (.func (.func 219) #[] #[.pointer (some ⟨p,0,none⟩)])/\zkA w' p m.states.length (zbl m)/\w.grownBy w' none
theorem zwc {w:World}{B g n:Nat}{e:TypeId}{l:List Value}(h:w.ownsRow B e 1 (.slice (some ⟨g,0,none⟩) n n) n l):w.heap[g]?=some (.cells l.toArray e (0,0)):=by
 rcases h.2 with⟨h',_⟩|⟨g',cap',cur,h',hb,hg,_,_,hs,ht⟩
 ·simp at h'
 ·simp only[Value.slice.injEq,Option.some.injEq,Addr.mk.injEq,and_true,true_and] at h'
  obtain⟨rfl,rfl⟩:=h';rw[zqaf (by rw[zqbs,hs];exact zqab _)] at ht;subst ht;rw[hg]
theorem zdh {W3 w1:World}{ob:Obj}{v:Value}{a:Addr}{x:Value}(h:W3.cell? a=some x)(hg:((W3.alloc ob).drew).grownBy w1 v.ownBlock)(hne:some a.block≠v.ownBlock):w1.cell? a=some x :=
 hg.cell (show(W3.alloc ob).cell? a=some x from(zGA W3 ob none).cell h (by simp)) hne
theorem ztk {W3 w1:World}{ob:Obj}{v:Value}{a:Addr}(hlt:a.block<W3.heap.size)(h:W3.frozen? a=false)(hg:((W3.alloc ob).drew).grownBy w1 v.ownBlock)(hne:some a.block≠v.ownBlock):w1.frozen? a=false :=
 (World.frozen?_of_block ((hg.block a.block (by show a.block<(W3.alloc ob).heap.size;simp;omega) hne).trans ((zGA W3 ob none).block a.block hlt (by simp)))).trans h
theorem zeS {W3:World}{ob:Obj}{a:Addr}{x:Value}(h:W3.cell? a=some x):((W3.alloc ob).drew).cell? a=some x:=(zGA W3 ob none).cell h (by simp)
theorem zwd {m:zak}(hm:Small m):∀ k j x,(zer m k j x).length<=(k+1)*30000:=by
 have hs:∀ i,(zaV m i).length<=30000:=fun i=>by
  unfold zaV;split
  ·rename_i s h
   rw[zqbn];exact hm.a s (zqak h)
  ·simp
 intro k j x;unfold zer;rw[zqag]
 have h1:((List.range k).flatMap (fun i=>(zaV m i).filterMap (fun t=>if t=x then some i else none))).length<=k*30000:=by
  induction k with
  | zero=>simp
  | succ k ih =>
   rw[List.range_succ,List.flatMap_append,zqag];have:=List.length_filterMap_le (fun t=>if t=x then some k else none) (zaV m k);have:=hs k;simp only[List.flatMap_cons,List.flatMap_nil,List.append_nil];omega
 have h2:=List.length_filterMap_le (fun t=>if t=x then some k else none) ((zaV m k).take j);have h3:=hs k;rw[zqan] at h2;omega
theorem zoR {w:World}{v:Value}{m:zak}(hv:zdo w v m)(hm:Small m):Calls Tryz.prog 184 #[v] w (zHB m w):=by
 obtain⟨i0,hi,hz0,hz1,hz2⟩:=zdb zEl;obtain⟨i1,hj,hy0,hy1,hy2⟩:=zdb ztj;obtain⟨u,rfl,hst0⟩:=hv;obtain⟨A,cap,us,rfl,hS0⟩:=zdR.of hst0;have hg:w.grownBy (w.alloc (.cells #[.int .i64 m.kind,.int .i64 m.start,.string m.lead,.slice A m.states.length cap] 31)) none:=zGA _ _ _;have hbx:=zav.new w m (.slice A m.states.length cap);have HS:=zHd hS0;have HBX:=zHd hbx;have HG:=zHd hg;have HM:=zHd hm;have hn3:=hm.n;obtain⟨x0,x1,x2,x3⟩:=hbx.cells;clear hbx hg hst0 hS0 hm;go_enter Tryz.func184,Tryz.ntmps184;go_wp2_with (at_make;refine wpList_make_full _ rfl _ _ 82 rfl (w.heap.size+1) 51 i0 (.slice none 0 0) 1 Tryz.underlying82 hi hz0 hz1 _ _ _ _ m.states.length rfl rfl rfl rfl (by rw[hz2];omega) (by unfold maxLen;omega) (by simp) ?_);intro w1 hown hgr;have hrow:=zwc hown;rw[toList_madeCells_one] at hrow;have hga:=zGA w1 (.cells #[.slice (some ⟨w.heap.size+1,0,none⟩) m.states.length m.states.length] 82) none
 have hpv:(w1.alloc (.cells #[.slice (some ⟨w.heap.size+1,0,none⟩) m.states.length m.states.length] 82)).heap[w1.heap.size]?=some (.cells #[.slice (some ⟨w.heap.size+1,0,none⟩) m.states.length m.states.length] 82 (0,0)):=by
  show(w1.heap.push _)[w1.heap.size]?=_;rw[zqaz]
 have hr1:=zfg.start (B:=0) (l:=[]) ((hga.block _ (lt_of_block hrow) (by simp)).trans hrow);have hbx1:=(HBX.out.grown hgr).grown hga;obtain⟨y0,y1,y2,y3⟩:=hbx1.cells;have HG1:=zHd (zaa HG.out (zaa hgr hga));have hsz:(w1.alloc (.cells #[.slice (some ⟨w.heap.size+1,0,none⟩) m.states.length m.states.length] 82)).heap.size=w1.heap.size+1:=by simp
 rw[hsz] at hr1;rw[<- zxD m] at hr1;have HPV:=zHd hpv;have HR1:=zHd hr1;have hlt1:w.heap.size+1<w1.heap.size:=lt_of_block hrow;clear hown hgr hrow hga hpv hr1 hbx1 hsz x0 x1 x2 x3;go_wp2;generalize hW:w1.alloc (.cells #[.slice (some ⟨w.heap.size+1,0,none⟩) m.states.length m.states.length] 82)=W at *;clear hW y0 y1 y2 y3
 go_loopw [15] (fun i wr=>∃ (k:Nat) (vals:List Value),i=.int .i64 k/\k<=m.states.length/\zfg wr (w1.heap.size+1) (w.heap.size+1) m.states.length vals (zef m m.states.length k 0) /\
  wr.heap[w1.heap.size]?=some (.cells #[.slice (some ⟨w.heap.size+1,0,none⟩) m.states.length m.states.length] 82 (0,0))/\Below w.heap.size w wr) (fun i _=>m.states.length-(intOf i).toNat)
 case atStart=>exact⟨0,_,rfl,by omega,HR1.out,HPV.out,zbj HG1.out⟩
 case round =>
  obtain⟨k,vals,rfl,hk,hrows,hpv,hb⟩:=hrel;have HROWS:=zHd hrows;have HPV2:=zHd hpv;have HB:=zHd hb;clear hrows hpv hb
  by_cases hlt:k<m.states.length
  ·obtain⟨ad,s,Br,cb,hA,hs,hu,hc,hra⟩:=(HS.out.below HB.out).at_ hlt
   subst hA;obtain⟨z0,z1⟩:=hc;have hal:=HM.out.a s (zqak hs);have n1:(k:Int)<(m.states.length:Int):=by omega
   have n2:IntKind.i64.wrap ((k:Int)+1)=(k:Int)+1:=by rw[zqah];omega
   have hga:=zGA wr (.cells #[.string s.fin,.slice Br s.arcs.length cb] 57) none;have HSS:=zHd hs;have HU:=zHd hu;have HR2:=zHd (HROWS.out.next hga);have HP2:=zHd ((hga.block _ (lt_of_block HPV2.out) (by simp)).trans HPV2.out);have HB2:=zHd (zbc HB.out |> fun h=>zbj (zaa h hga));clear hs hu hra hga;go_wp2;generalize hW2:wr.alloc (.cells #[.string s.fin,.slice Br s.arcs.length cb] 57)=W2 at *;clear hW2 z0 z1;generalize wr=w4 at *
   go_loopw [23] (fun i wr=>∃ (j:Nat) (vals:List Value),i=.int .i64 j/\j<=s.arcs.length/\zfg wr (w1.heap.size+1) (w.heap.size+1) m.states.length vals (zef m m.states.length k j) /\
    wr.heap[w1.heap.size]?=some (.cells #[.slice (some ⟨w.heap.size+1,0,none⟩) m.states.length m.states.length] 82 (0,0))/\Below w.heap.size w wr) (fun i _=>s.arcs.length-(intOf i).toNat)
   case atStart=>exact⟨0,vals,rfl,by omega,HR2.out,HP2.out,HB2.out⟩
   case round =>
    obtain⟨j,vals2,rfl,hj2,hrows,hpv,hb⟩:=hrel;have HROWS3:=zHd hrows;have HPV3:=zHd hpv;have HB3:=zHd hb;clear hrows hpv hb
    by_cases hjl:j<s.arcs.length
    ·obtain⟨ad2,a,hBr,hab,haj,hat⟩:=zkw ((HS.out.below HB3.out).arcs_at HSS.out HU.out) hjl
     subst hBr;obtain⟨z0,z1,z2,z3⟩:=hat;have harc:=HM.out.wf.arcs s (zqak HSS.out) a (zqak haj);obtain⟨y,hy⟩:∃ y:Nat,a.t=(y:Int):=⟨a.t.toNat,by omega⟩;have hyn:y<m.states.length:=(by omega);have hst:(zaV m k)[j]?=some y:=(by rw[zjI HSS.out,zqaj,haj];simp[hy]);have hnx:=zAO hst hyn;rw[hy] at z3;have n3:(j:Int)<(s.arcs.length:Int):=(by omega);have n4:IntKind.i64.wrap ((j:Int)+1)=(j:Int)+1:=(by rw[zqah];omega);have n5:(0:Int)<=(y:Int):=(by omega);have n6:(y:Int)<(m.states.length:Int):=(by omega);have hga:=zGA wr (.cells #[.int .i64 a.i,.int .i64 a.o,.string a.w,.int .i64 (y:Int)] 59) none;have hr4:=HROWS3.out.next hga;obtain⟨vy,q,hvy,hq,c3,f3,hown⟩:=hr4.at_ hyn;have hqe:q=zer m k j y:=(by rw[zmV hyn] at hq;exact(Option.some.inj hq).symm);have hql:q.length<=3001*30000:=(by rw[hqe];exact zqam (zwd HM.out k j y) (Nat.mul_le_mul_right _ (by omega)));have hownr:=HROWS3.out.own y vy q hvy hq;obtain⟨c1,_⟩:=one_cell ((hga.block _ (lt_of_block HPV3.out) (by simp)).trans HPV3.out);have HNX:=zHd (by rw[hqe];exact hnx:(zef m m.states.length k j).set y (q++[k])=zef m m.states.length k (j+1));have HB4:=zHd (zbj (zaa (zbc HB3.out) hga));have HR4:=zHd hr4;have HVY:=zHd hvy;have HQ:=zHd hq;have HOWN:=zHd hown;have N1:some w1.heap.size≠vy.ownBlock:=fun e=>by have:=(hown.lt _ e.symm).1;omega
     have N2:some wr.heap.size≠vy.ownBlock:=fun e=>by have:=(hownr.lt _ e.symm).2;omega
     have N3:some (w.heap.size+1)≠vy.ownBlock:=fun e=>by have:=(hown.lt _ e.symm).1;omega
     have hlt3:=HROWS3.out.hC;have HPV4:=zHd ((hga.block _ (lt_of_block HPV3.out) (by simp)).trans HPV3.out);have HC1:=zHd c1;have HC3:=zHd c3;have HF3:=zHd f3;have HN1:=zHd N1;have HN2:=zHd N2;have HN3:=zHd N3;clear haj harc hy hst hnx hr4 hvy hq hqe hownr hga hown c1 c3 f3 N1 N2 N3;go_upto_region 8 with(fail);have c2:=(zyz wr ⟨a.i,a.o,a.w,(y:Int)⟩).c3;simp only[zqat] at c2;have hsz4:(wr.alloc (.cells #[.int .i64 a.i,.int .i64 a.o,.string a.w,.int .i64 (y:Int)] 59)).heap.size=wr.heap.size+1:=(by simp);generalize hW3:wr.alloc (.cells #[.int .i64 a.i,.int .i64 a.o,.string a.w,.int .i64 (y:Int)] 59)=W3 at *;clear hW3 z0 z1 z2 z3;have c1:=HC1.out;have c3:=HC3.out;have f3:=HF3.out;have N1:=HN1.out;have N2:=HN2.out;have N3:=HN3.out;have q1:=World.new_ne W3 _ c1;have q2:=World.new_ne W3 _ c2;have q3:=World.new_ne W3 _ c3;have HSZ4:=zHd hsz4;have hle4:w1.heap.size+1<=W3.heap.size:=(by omega);clear hsz4;refine zex (e:=12) (n:=12) (fun W'=>W'.cell? ⟨w1.heap.size,0,none⟩=some (.slice (some ⟨w.heap.size+1,0,none⟩) m.states.length m.states.length)/\W'.cell? ⟨wr.heap.size,3,none⟩=some (.int .i64 (y:Int))/\W'.cell? ⟨w.heap.size+1,y,none⟩=some vy) (by kernel_rfl) (by kernel_rfl) rfl ?_;have hS0:(fun W':World=>W'.cell? ⟨w1.heap.size,0,none⟩=some (.slice (some ⟨w.heap.size+1,0,none⟩) m.states.length m.states.length)/\W'.cell? ⟨wr.heap.size,3,none⟩=some (.int .i64 (y:Int))/\W'.cell? ⟨w.heap.size+1,y,none⟩=some vy) W3.drew:=⟨c1,c2,c3⟩;refine zTk 0 (.slice (some ⟨w.heap.size+1,0,none⟩) m.states.length m.states.length) rfl hS0 ?_;(try simp only[zS,Act.put]);refine zTk 1 (.pointer (some ⟨wr.heap.size,3,none⟩)) rfl hS0 ?_;(try simp only[zS,Act.put]);refine zTk 2 (.int .i64 (y:Int)) rfl hS0 ?_;(try simp only[zS,Act.put]);refine zTk 3 (.slice (some ⟨w.heap.size+1,0,none⟩) m.states.length m.states.length) rfl hS0 ?_;(try simp only[zS,Act.put]);refine zTk 4 (.pointer (some ⟨wr.heap.size,3,none⟩)) rfl hS0 ?_;(try simp only[zS,Act.put]);refine zTk 5 (.int .i64 (y:Int)) rfl hS0 ?_;(try simp only[zS,Act.put]);refine zTk 6 (.pointer (some ⟨w.heap.size+1,y,none⟩)) rfl hS0 ?_;(try simp only[zS,Act.put]);refine zTk 7 (vy) rfl hS0 ?_;(try simp only[zS,Act.put]);refine zTk 8 (.int .i64 (k:Int)) rfl hS0 ?_;(try simp only[zS,Act.put]);refine zqcc (rs:=[9]) (by kernel_rfl) (by simp) ?_;refine AllReadyH.cons rfl (fun K hK=>?_) AllReadyH.nil;go_simp;refine hK.out _ _ ⟨zeS c1,zeS c2,zeS c3⟩ (fun hHeld=>?_);refine zqcc (rs:=[10]) (by kernel_rfl) (by simp) ?_;refine AllReadyH.cons rfl (fun K hK=>?_) AllReadyH.nil;refine step_append_lies _ (by rfl) _ _ _ (by rfl) (w1.heap.size+1) 3 i1 (.int .i64 0) 1 8 Tryz.underlying51 hj hy0 hy1 hy2 rfl (by omega) vy q.length (nvL q) (by rfl) ((HOWN.out.alloc _).drew) ⟨W3.heap.size,0,none⟩ 1 1 [.int .i64 (k:Int)] (by rfl) (by rfl) (World.news_of_block (cs:=#[.int .i64 (k:Int)]) (t:=3) (fr:=(0,0)) (zqce W3 _)) (by simp[Value.oneCell']) (by omega) (by unfold maxLen;omega) (by omega) (by simp;omega) (W3.heap.size+1) (by simp) ?_;intro gg cc w6 hown6 hgrow hat hlt6;refine hK.out _ _ ⟨zdh c1 hgrow N1,zdh c2 hgrow N2,zdh c3 hgrow N3⟩ (fun hHeld=>?_);have s4:=ztk (a:=⟨w.heap.size+1,y,none⟩) (by show w.heap.size+1<W3.heap.size;omega) f3 hgrow N3;have s3:=zdh c3 hgrow N3;refine zTk 11 (.pointer (some ⟨w.heap.size+1,y,none⟩)) rfl hHeld ?_;(try simp only[zS,Act.put]);refine wpAnyH_done (by kernel_rfl) ?_ _;refine zfL (by rfl) (fun K hK=>?_);go_simp;refine hK _ _ ?_
     iterate 1
      have hX:W3.grownBy (W3.alloc (.cells #[.int .i64 (k:Int)] 3)).drew none:=zaa (zGA _ _ _) (zag _ _);have hr7:=(HR4.out.next hX).push HVY.out HQ.out hown6 hgrow (by first|exact hat|(simp;exact hat)|simpa using hat);have HR7:=zHd hr7
      have HP7:Hid ((w6.setCell ⟨w.heap.size+1,y,none⟩ (.slice (some ⟨gg,0,none⟩) (q.length+1) cc)).heap[w1.heap.size]?=some (.cells #[.slice (some ⟨w.heap.size+1,0,none⟩) m.states.length m.states.length] 82 (0,0))) :=
       zHd (((zac w6 ⟨w.heap.size+1,y,none⟩ _).block _ (by have:=hgrow.size;have:W3.heap.size<=(W3.alloc (.cells #[.int .i64 (k:Int)] 3)).drew.heap.size:=hX.size;omega) (by simp;omega)).trans ((hgrow.block _ (by have:W3.heap.size<=(W3.alloc (.cells #[.int .i64 (k:Int)] 3)).drew.heap.size:=hX.size;omega) N1).trans ((hX.block _ (by omega) (by simp)).trans HPV4.out)))
      have hb7:Below w.heap.size w (w6.setCell ⟨w.heap.size+1,y,none⟩ (.slice (some ⟨gg,0,none⟩) (q.length+1) cc)) :=
       ((zbj (zaa (zbc HB4.out) hX)).grown hgrow (by have:=hX.size;omega) (fun b e=>by have:=(HOWN.out.lt b e).1;omega)).grown (zac w6 ⟨w.heap.size+1,y,none⟩ _) (by have:=hgrow.size;have:=hX.size;omega) (fun b e=>by cases e;show w.heap.size<=w.heap.size+1;omega)
      have HB7:=zHd hb7;clear hX hr7 hb7 hown6 hgrow hat s3 s4 c1 c2 c3 f3 q1 q2 q3 N1 N2 N3;go_wp2
      go_roundw
      case rel=>exact⟨j+1,_,by go_num,by omega,by rw[<- HNX.out];exact HR7.out,HP7.out,HB7.out⟩
      case measure=>simp[intOf];omega
    ·have n3:¬ (j:Int)<(s.arcs.length:Int):=by omega
     have he:=zAQ m m.states.length k (j:=j) (by rw[zjI HSS.out,zqbn];omega);have hr5:=HROWS3.out;rw[he] at hr5;have HR5:=zHd hr5;clear he hr5;go_wp2
     go_roundw
     case rel=>exact⟨k+1,vals2,by go_num,by omega,HR5.out,HPV3.out,HB3.out⟩
     case measure=>simp[intOf];omega
  ·have n1:¬ (k:Int)<(m.states.length:Int):=by omega
   have hke:k=m.states.length:=by omega
   have hbk:=zkA.of (f:=zbl m) (by
    have h:=HROWS.out;rw[hke,show zef m m.states.length m.states.length 0=(List.range m.states.length).map (zbl m) by unfold zef;apply List.map_congr_left;intro x _;exact zti m x] at h;exact h) HPV2.out
   have HBK:=zHd hbk;clear hbk;go_wp2;go_ret;exact⟨_,rfl,HBK.out,zbc HB.out⟩
open Go.RowKit
def zdp (W:World)(g n:Nat)(f:Nat->Int):Prop:=W.heap[g]?=some (.cells ((List.range n).map (fun x=>Value.int .i64 (f x))).toArray 3 (0,0))
theorem zdp.lt {W:World}{g n:Nat}{f:Nat->Int}(h:zdp W g n f):g<W.heap.size:=lt_of_block h
theorem zdp.cell {W:World}{g n x:Nat}{f:Nat->Int}(h:zdp W g n f)(hx:x<n):W.cell? ⟨g,x,none⟩=some (.int .i64 (f x)):=by
 rw[zqbw W g x _ _ (0,0) h,zqap,zqaj,zqbe hx];rfl
theorem zdp.free {W:World}{g n:Nat}{f:Nat->Int}(h:zdp W g n f)(x:Nat):W.frozen? ⟨g,x,none⟩=false:=zqbx W g x _ _ h
theorem zdp.congr {W:World}{g n:Nat}{f f':Nat->Int}(h:zdp W g n f)(he:∀ x,x<n->f x=f' x):zdp W g n f':=by
 unfold zdp at *;rw[h];congr 3;apply List.map_congr_left;intro x hx;rw[he x (List.mem_range.1 hx)]
theorem zdp.set {W:World}{g n x:Nat}{f:Nat->Int}(h:zdp W g n f)(v:Int):zdp (W.setCell ⟨g,x,none⟩ (.int .i64 v)) g n (fun y=>if y=x then v else f y):=by
 unfold zdp;rw[heap_setCell_same W g x _ _ _ h];congr 3;apply Array.ext';rw[Array.toList_setIfInBounds];apply List.ext_getElem?;intro i;rw[List.getElem?_set]
 by_cases e:x=i
 ·subst e
  rw[if_pos rfl]
  by_cases hx:x<n
  ·rw[if_pos (by simpa using hx),zqaj,zqbe hx];simp
  ·rw[if_neg (by simpa using hx),zqas (by simpa using hx)]
 ·rw[if_neg e]
  simp only[zqaj]
  by_cases hi:i<n
  ·rw[zqbe hi]
   simp[Ne.symm e]
  ·rw[zqas (by simpa using hi)];rfl
theorem zdp.kept {W W':World}{g n:Nat}{f:Nat->Int}{r:Option Nat}(h:zdp W g n f)(hg:W.grownBy W' r)(hr:some g≠r):zdp W' g n f:=(hg.block g h.lt hr).trans h
theorem zdp.of_full {w:World}{B g n:Nat}(h:w.ownsRow B 3 1 (.slice (some ⟨g,0,none⟩) n n) n (madeCells #[Value.int .i64 0] n).toList):zdp w g n (fun _=>0):=by
 have h1:=zwc h;rw[toList_madeCells_one] at h1;unfold zdp;rw[h1];congr 3;apply List.ext_getElem?;intro i;rw[zqbg,zqaj]
 by_cases hi:i<n
 ·rw[zqbe hi,if_pos hi];rfl
 ·rw[zqas (by simpa using hi),if_neg hi];rfl
structure zcS (W:World)(C g:Nat)(ss:List zai)(us:List Value):Prop where
 row:W.heap[g]?=some (.cells ((ss.zip us).flatMap stC).toArray 57 (0,0))
 len:us.length=ss.length
 own:∀ (k:Nat) (s:zai) (x:Value),ss[k]?=some s->us[k]?=some x->W.ownsRow C 59 4 x s.arcs.length (s.arcs.flatMap zeB)
 dis:∀ (i j:Nat) (v v':Value),i≠j->us[i]?=some v->us[j]?=some v'->v.ownBlock=none∨v.ownBlock≠v'.ownBlock
 hr:g<C
 hC:C<=W.heap.size
theorem zcS.next {W W':World}{C g:Nat}{ss:List zai}{us:List Value}(h:zcS W C g ss us)(hg:W.grownBy W' none):zcS W' C g ss us :=
 ⟨(hg.block g (by have:=h.hr;have:=h.hC;omega) (by simp)).trans h.row,h.len,fun k v q hv hq=>(h.own k v q hv hq).kept hg (by cases e:q.ownBlock <;> simp),h.dis,h.hr,by have:=hg.size;have:=h.hC;omega⟩
theorem zcS.other {W W':World}{C g b:Nat}{ss:List zai}{us:List Value}(h:zcS W C g ss us)(hg:W.grownBy W' (some b))(hb:b<C)(hne:b≠g):zcS W' C g ss us :=
 ⟨(hg.block g (by have:=h.hr;have:=h.hC;omega) (by simpa using Ne.symm hne)).trans h.row,h.len,fun k v q hv hq=>(h.own k v q hv hq).kept hg (by
   cases e:q.ownBlock with
   | none=>exact .inl rfl
   | some c=>exact .inr (by have:=((h.own k v q hv hq).lt c e).1;intro e2;cases e2;omega)),h.dis,h.hr,by have:=hg.size;have:=h.hC;omega⟩
theorem zcS.at_ {W:World}{C g k:Nat}{ss:List zai}{us:List Value}(h:zcS W C g ss us){s:zai}(hs:ss[k]?=some s) :
  ∃ x,us[k]?=some x/\W.cell? ⟨g,k*2,none⟩=some (.string s.fin)/\W.cell? ⟨g,k*2+1,none⟩=some x/\(∀ j,W.frozen? ⟨g,j,none⟩=false)/\W.ownsRow C 59 4 x s.arcs.length (s.arcs.flatMap zeB):=by
 have hk:=(zqae.1 hs).1;have hu:us[k]?=some (us[k]'(by rw[h.len];exact hk)):=zqac (by rw[h.len];exact hk);have hz:(ss.zip us)[k]?=some (s,us[k]'(by rw[h.len];exact hk)):=by rw[List.getElem?_zip_eq_some];exact⟨hs,hu⟩
 have h0:=flat_get stC 2 zfR (ss.zip us) k 0 _ hz (by omega);have h1:=flat_get stC 2 zfR (ss.zip us) k 1 _ hz (by omega);rw[Nat.add_zero] at h0;refine⟨_,hu,?_,?_,fun j=>zqbx W g j _ _ h.row,h.own k s _ hs hu⟩
 ·rw[zqbw W g _ _ _ (0,0) h.row,zqap];exact h0
 ·rw[zqbw W g _ _ _ (0,0) h.row,zqap];exact h1
theorem zcS.set_fin {W:World}{C g k:Nat}{ss:List zai}{us:List Value}(h:zcS W C g ss us){s:zai}(hs:ss[k]?=some s)(f:ByteArray) :
  zcS (W.setCell ⟨g,k*2,none⟩ (.string f)) C g (ss.set k ⟨f,s.arcs⟩) us:=by
 have hk:=(zqae.1 hs).1;have hu:us[k]?=some (us[k]'(by rw[h.len];exact hk)):=zqac (by rw[h.len];exact hk);have hz:(ss.zip us)[k]?=some (s,us[k]'(by rw[h.len];exact hk)):=by rw[List.getElem?_zip_eq_some];exact⟨hs,hu⟩
 have hself:us.set k (us[k]'(by rw[h.len];exact hk))=us:=by simp
 have hfl:=zoQ stC 2 zfR (ss.zip us) k 0 _ (⟨f,s.arcs⟩,us[k]'(by rw[h.len];exact hk)) (.string f) hz (by omega) rfl;rw[Nat.add_zero,<- zsc,hself] at hfl;have gs:=zac W ⟨g,k*2,none⟩ (.string f);refine⟨?_,by rw[List.length_set];exact h.len,fun i t x hi hx=>?_,h.dis,h.hr,by have:=h.hC;simp;exact this⟩
 ·rw[heap_setCell_same W g _ _ _ _ h.row,hfl];simp
 ·have hne:x.ownBlock=none∨x.ownBlock≠some g:=by
   cases eb:x.ownBlock with
   | none=>exact .inl rfl
   | some b =>
    right;intro e;cases e;obtain⟨t2,ht2⟩:∃ t2,ss[i]?=some t2:=⟨_,zqac (by have:=(zqae.1 hx).1;rw[h.len] at this;exact this)⟩;have:=((h.own i t2 x ht2 hx).lt _ eb).1;have:=h.hr;omega
  by_cases e:i=k
  ·subst e
   rw[zqbi hk] at hi;cases hi;exact(h.own i s x hs hx).kept gs hne
  ·rw[zqbl (Ne.symm e)] at hi
   exact(h.own i t x hi hx).kept gs hne
theorem zcS.push {W w1:World}{C g y gg c:Nat}{ss:List zai}{us:List Value}{s:zai}{v:Value}{a:zaN}(h:zcS W C g ss us)(hs:ss[y]?=some s)(hv:us[y]?=some v)
  (hown:w1.ownsRow C 59 4 (.slice (some ⟨gg,0,none⟩) (s.arcs.length+1) c) (s.arcs.length+1) (s.arcs.flatMap zeB++zeB a)) (hg:W.grownBy w1 v.ownBlock) (hat:v.ownBlock=some gg∨gg=W.heap.size) :
  zcS (w1.setCell ⟨g,y*2+1,none⟩ (.slice (some ⟨gg,0,none⟩) (s.arcs.length+1) c)) C g (ss.set y ⟨s.fin,s.arcs++[a]⟩) (us.set y (.slice (some ⟨gg,0,none⟩) (s.arcs.length+1) c)):=by
 have hyl:=(zqae.1 hs).1;have hyu:=(zqae.1 hv).1;have hvo:=(h.own y s v hs hv).lt;have hr:=h.hr;have hC:=h.hC;have h1:w1.heap[g]?=some (.cells ((ss.zip us).flatMap stC).toArray 57 (0,0)):=(hg.block g (by omega) (fun e=>by have:=(hvo g e.symm).1;omega)).trans h.row;have gs:=zac w1 ⟨g,y*2+1,none⟩ (.slice (some ⟨gg,0,none⟩) (s.arcs.length+1) c);have hgC:C<=gg:=(hown.lt gg rfl).1;have hz:(ss.zip us)[y]?=some (s,v):=by rw[List.getElem?_zip_eq_some];exact⟨hs,hv⟩
 have hfl:=zoQ stC 2 zfR (ss.zip us) y 1 _ (⟨s.fin,s.arcs++[a]⟩,.slice (some ⟨gg,0,none⟩) (s.arcs.length+1) c) (.slice (some ⟨gg,0,none⟩) (s.arcs.length+1) c) hz (by omega) rfl;rw[<- zsc] at hfl;refine⟨?_,by rw[List.length_set,List.length_set];exact h.len,fun k t u ht hu=>?_,fun i j u u' hne hu hu'=>?_,hr,by have:=hg.size;simp;omega⟩
 ·rw[heap_setCell_same w1 g _ _ _ _ h1,hfl];simp
 ·by_cases e:k=y
  ·subst e
   rw[zqbi hyu] at hu;rw[zqbi hyl] at ht;cases hu;cases ht;have hh:=hown.kept gs (.inr (by show some gg≠some g;intro e;cases e;omega));show World.ownsRow _ _ _ _ _ (s.arcs++[a]).length ((s.arcs++[a]).flatMap zeB);rw[zqag,zqbq,List.flatMap_append,List.flatMap_singleton];exact hh
  ·rw[zqbl (Ne.symm e)] at hu ht
   have ho:=h.own k t u ht hu
   have h2:=ho.kept hg (by
    rcases h.dis k y u v e hu hv with h|h
    ·exact .inl h
    ·exact .inr h)
   exact h2.kept gs (by
    cases eb:u.ownBlock with
    | none=>exact .inl rfl
    | some b=>exact .inr (by have:=(ho.lt b eb).1;show some b≠some g;intro e;cases e;omega))
 ·have hlt:∀ (k:Nat) (z:Value),us[k]?=some z->z.ownBlock≠some W.heap.size:=fun k z hz e=>by
   obtain⟨p,hp⟩:∃ p,ss[k]?=some p:=⟨_,zqac (by have:=(zqae.1 hz).1;rw[h.len] at this;exact this)⟩;have:=((h.own k p z hp hz).lt _ e).2;omega
  by_cases ea:i=y
  ·subst ea
   rw[zqbi hyu] at hu;rw[zqbl hne] at hu';cases hu;right;show some gg≠u'.ownBlock;rcases hat with e|e
   ·intro e2
    rcases h.dis i j v u' hne hv hu' with h3|h3
    ·rw[e] at h3;cases h3
    ·exact h3 (e.trans e2)
   ·intro e2;exact hlt j u' hu' (by rw[<- e2,e])
  ·rw[zqbl (Ne.symm ea)] at hu
   by_cases eb:j=y
   ·subst eb
    rw[zqbi hyu] at hu';cases hu';show u.ownBlock=none∨u.ownBlock≠some gg;rcases hat with e|e
    ·rcases h.dis i j u v hne hu hv with h3|h3
     ·exact .inl h3
     ·exact .inr (by rw[<- e];exact h3)
    ·exact .inr (by rw[e];exact hlt i u hu)
   ·rw[zqbl (Ne.symm eb)] at hu'
    exact h.dis i j u u' hne hu hu'
theorem zcS.reads {W:World}{C g:Nat}{ss:List zai}{us:List Value}(h:zcS W C g ss us):Reads W W.heap.size 2 (some ⟨g,0,none⟩) ss.length ((ss.zip us).flatMap stC):=by
 refine⟨?_,fun _=>⟨_,rfl,lt_of_block h.row,fun j u hu=>?_⟩⟩
 ·rw[List.length_flatMap]
  have:(ss.zip us).length=ss.length:=by rw[List.length_zip,h.len,Nat.min_self]
  rw[<- this];generalize ss.zip us=z
  induction z with
  | nil=>rfl
  | cons a z ih=>simp[zfR] at ih ⊢;omega
 ·have hadd:Addr.add ⟨g,0,none⟩ j=⟨g,0+j,none⟩:=by unfold Addr.add;split <;> simp_all
  rw[hadd,zqat,zqbw W g _ _ _ (0,0) h.row,zqap];exact hu
theorem zcS.stN {W:World}{C g cap B:Nat}{ss:List zai}{us:List Value}(h:zcS W C g ss us)(hC:B<=C)(hg:B<=g):StN W B (.slice (some ⟨g,0,none⟩) ss.length cap) ss:=by
 refine⟨_,cap,us,rfl,h.len,?_,fun _ ad hA=>by cases hA;exact hg,fun k s x hs hx=>⟨zxC (h.own k s x hs hx),fun h0 b hb=>zqam hC ((h.own k s x hs hx).lt b hb).1⟩⟩;exact h.reads
theorem zcS.start {W:World}{g n:Nat}(hc:W.heap[g]?=some (.cells ((List.replicate n (⟨ByteArray.empty,[]⟩,Value.slice none 0 0)).flatMap stC).toArray 57 (0,0))):zcS W W.heap.size g (List.replicate n ⟨ByteArray.empty,[]⟩) (List.replicate n (.slice none 0 0)):=by
 refine⟨?_,by simp,fun k v q hv hq=>?_,fun i j v v' _ hv _=>?_,lt_of_block hc,zqab _⟩
 ·rw[hc,List.zip_replicate']
 ·rw[zqbg] at hv hq
  split at hv
  ·cases hv
   rw[if_pos (by assumption)] at hq;cases hq;exact World.ownsRow_nil _ _ _ _
  ·cases hv
 ·rw[zqbg] at hv
  split at hv
  ·cases hv;exact .inl rfl
  ·cases hv
open Go.RowKit
def zkc (l:List Nat)(j x:Nat):Int:=if x∈l.take j then (l.idxOf x:Int) else -1
def zff (l:List Nat)(x:Nat):Int:=if x∈l then (l.idxOf x:Int) else -1
theorem zEm (l:List Nat)(x:Nat):zkc l 0 x = -1:=by unfold zkc;simp
theorem zHC {l:List Nat}{j:Nat}(h:l.length<=j)(x:Nat):zkc l j x=zff l x:=by unfold zkc zff;rw[zqaf h]
theorem zEn {l:List Nat}(hn:l.Nodup){j y:Nat}(h:l[j]?=some y)(x:Nat):(if x=y then (j:Int) else zkc l j x)=zkc l (j+1) x:=by
 unfold zkc;rw[zdL h]
 by_cases e:x=y
 ·subst e
  rw[if_pos rfl,if_pos (by simp),zJv hn h]
 ·rw[if_neg e]
  simp[e]
def st0:zai:=⟨ByteArray.empty,[]⟩
def ssP (m:zak)(l:List Nat)(k:Nat)(s:zai):List zai:=(l.take k).map (fun x=>zjj l (zhy m x))++s::List.replicate (l.length-k-1) st0
def ssR (m:zak)(l:List Nat)(k:Nat):List zai:=(l.take k).map (fun x=>zjj l (zhy m x))++List.replicate (l.length-k) st0
theorem zHD (m:zak)(l:List Nat):ssR m l 0=List.replicate l.length st0:=by unfold ssR;simp
theorem zJx {m:zak}{l:List Nat}{k:Nat}(h:l.length<=k):ssR m l k=(zba m l).states:=by
 unfold ssR;rw[zqaf h,show l.length-k=0 by omega];simp[zba]
theorem ztl {m:zak}{l:List Nat}{k:Nat}(h:k<l.length):ssR m l k=ssP m l k st0:=by
 unfold ssR ssP;rw[show l.length-k=(l.length-k-1)+1 by omega,List.replicate_succ];congr 3
theorem znJ {m:zak}{l:List Nat}{k:Nat}{s:zai}(h:k<l.length):(ssP m l k s)[k]?=some s:=by
 unfold ssP;rw[zqaq (by simp;omega)];simp[Nat.min_eq_left (Nat.le_of_lt h)]
theorem zyL {m:zak}{l:List Nat}{k:Nat}{s s':zai}(h:k<l.length):(ssP m l k s).set k s'=ssP m l k s':=by
 unfold ssP;rw[List.set_append_right _ _ (by simp;omega)];simp[Nat.min_eq_left (Nat.le_of_lt h)]
theorem zHE {m:zak}{l:List Nat}{k x:Nat}(h:l[k]?=some x):ssP m l k (zjj l (zhy m x))=ssR m l (k+1):=by
 unfold ssP ssR;rw[zdL h,List.map_append,zqbj,Nat.sub_sub];rfl
def zeT (l:List Nat)(as':List zaN)(j:Nat):List zaN:=(as'.take j).filterMap (zdy l)
theorem zAT {l:List Nat}{as':List zaN}{j:Nat}{a:zaN}(h:as'[j]?=some a)(hn:zdy l a=none):zeT l as' (j+1)=zeT l as' j:=by
 unfold zeT;rw[zdL h,List.filterMap_append];simp[hn]
theorem zAU {l:List Nat}{as':List zaN}{j:Nat}{a b:zaN}(h:as'[j]?=some a)(hn:zdy l a=some b):zeT l as' (j+1)=zeT l as' j++[b]:=by
 unfold zeT;rw[zdL h,List.filterMap_append];simp[hn]
theorem zEo {l:List Nat}{as':List zaN}{j:Nat}(h:as'.length<=j):zeT l as' j=as'.filterMap (zdy l):=by unfold zeT;rw[zqaf h]
theorem zEp (l:List Nat)(as':List zaN)(j:Nat):(zeT l as' j).length<=as'.length:=by
 unfold zeT;exact zqam (List.length_filterMap_le _ _) (by simp;omega)
structure zir (w W0 W:World)(C gr:Nat)(ss:List zai)(us:List Value):Prop where
 rows:zcS W C gr ss us
 kp:∀ b,b<C->b≠gr->W.heap[b]?=W0.heap[b]?
 bel:Below w.heap.size w W
 lt:w.heap.size<gr
theorem zir.next {w W0 W W':World}{C gr:Nat}{ss:List zai}{us:List Value}(h:zir w W0 W C gr ss us)(hg:W.grownBy W' none):zir w W0 W' C gr ss us :=
 ⟨h.rows.next hg,fun b hb hne=>(hg.block b (by have:=h.rows.hC;omega) (by simp)).trans (h.kp b hb hne),zbj (zaa (zbc h.bel) hg),h.lt⟩
theorem zir.set_fin {w W0 W:World}{C gr j:Nat}{ss:List zai}{us:List Value}{s:zai}(h:zir w W0 W C gr ss us)(hs:ss[j]?=some s)(f:ByteArray) :
  zir w W0 (W.setCell ⟨gr,j*2,none⟩ (.string f)) C gr (ss.set j ⟨f,s.arcs⟩) us:=by
 have gs:=zac W ⟨gr,j*2,none⟩ (.string f);have hl:=h.lt;have hC:=h.rows.hC;exact⟨h.rows.set_fin hs f,fun b hb hne=>(gs.block b (by omega) (by simpa using hne)).trans (h.kp b hb hne),h.bel.grown gs h.bel.size (fun b e=>by cases e;show w.heap.size<=gr;omega),hl⟩
theorem zir.push {w W0 W w1:World}{C gr y gg c:Nat}{ss:List zai}{us:List Value}{s:zai}{v:Value}{a:zaN}(h:zir w W0 W C gr ss us)(hs:ss[y]?=some s)(hv:us[y]?=some v)
  (hown:w1.ownsRow C 59 4 (.slice (some ⟨gg,0,none⟩) (s.arcs.length+1) c) (s.arcs.length+1) (s.arcs.flatMap zeB++zeB a)) (hg:W.grownBy w1 v.ownBlock) (hat:v.ownBlock=some gg∨gg=W.heap.size) :
  zir w W0 (w1.setCell ⟨gr,y*2+1,none⟩ (.slice (some ⟨gg,0,none⟩) (s.arcs.length+1) c)) C gr (ss.set y ⟨s.fin,s.arcs++[a]⟩) (us.set y (.slice (some ⟨gg,0,none⟩) (s.arcs.length+1) c)):=by
 have gs:=zac w1 ⟨gr,y*2+1,none⟩ (.slice (some ⟨gg,0,none⟩) (s.arcs.length+1) c);have hl:=h.lt;have hC:=h.rows.hC;have hr:=h.rows.hr;have hvo:=(h.rows.own y s v hs hv).lt;have h1:=h.bel.grown hg h.bel.size (fun b e=>by have:=(hvo b e).1;omega)
 exact⟨h.rows.push hs hv hown hg hat,fun b hb hne=>((gs.block b (by have:=hg.size;omega) (by simpa using hne)).trans (hg.block b (by omega) (fun e=>by have:=(hvo b e.symm).1;omega))).trans (h.kp b hb hne),
  h1.grown gs h1.size (fun b e=>by cases e;show w.heap.size<=gr;omega),hl⟩
open Go.RowKit
theorem zxF (n:Nat):madeCells (Value.agg #[.string ByteArray.empty,.slice none 0 0]).cells (n*2)=((List.replicate n (st0,Value.slice none 0 0)).flatMap stC).toArray:=by
 have hc:(Value.agg #[.string ByteArray.empty,.slice none 0 0]).cells=#[.string ByteArray.empty,.slice none 0 0]:=by simp[Value.cells]
 rw[hc];apply Array.ext';apply List.ext_getElem?;intro j;unfold madeCells;rw[Array.toList_map,Array.toList_range,zqaj]
 by_cases hj:j<n*2
 ·rw[zqbe hj]
  have hx:(List.replicate n (st0,Value.slice none 0 0))[j/2]?=some (st0,Value.slice none 0 0):=by rw[zqbg,if_pos (by omega)]
  have h1:=flat_get stC 2 zfR (List.replicate n (st0,Value.slice none 0 0)) (j/2) (j%2) _ hx (by omega);rw[show j/2*2+j%2=j by omega] at h1;refine Eq.trans ?_ h1.symm;have:j%2=0∨j%2=1:=by omega
  rcases this with e|e <;> simp[e,stC,st0]
 ·rw[zqas (by simpa using hj),zqas]
  ·rfl
  ·have hl:∀ n:Nat,((List.replicate n (st0,Value.slice none 0 0)).flatMap stC).length=n*2:=fun n=>by
    induction n with
    | zero=>rfl
    | succ n ih=>rw[List.replicate_succ,List.flatMap_cons,zqag,ih,zfR];omega
   rw[hl];omega
theorem zEq {n:Nat}(hn:n<=3000):∃ mk:World->World,(∀ w:World,(Instr.makeSlice 29 (.int .i64 (n:Int)) (.int .i64 (n:Int))).run Tryz.prog w=.ok (.slice (some ⟨w.heap.size,0,none⟩) n n) (mk w))/\(∀ w:World,w.grownBy (mk w) none)/\(∀ w:World,(mk w).heap.size=w.heap.size+1) /\
  ∀ w:World,(mk w).heap[w.heap.size]?=some (.cells ((List.replicate n (st0,Value.slice none 0 0)).flatMap stC).toArray 57 (0,0)):=by
 obtain⟨i0,hi,hz0,hz1,hz2⟩:=zdb zyA;refine⟨fun w=>w.alloc (.cells ((List.replicate n (st0,Value.slice none 0 0)).flatMap stC).toArray 57),fun w=>?_,fun w=>zGA _ _ _,fun w=>by simp,fun w=>by show(w.heap.push _)[w.heap.size]?=_;rw[zqaz]⟩;have h:=run_makeSlice (w:=w) 29 57 i0 _ Tryz.underlying29 hi hz0 .i64 .i64 (n:Int) (n:Int) (by omega) (by omega) (by rw[hz1];simp;omega) (by rw[hz2];omega) (by omega);rw[hz1,show((n:Int).toNat)=n by simp,zxF] at h;exact h
theorem zHF {w:World}{v lv:Value}{m:zak}{l:List Nat}(hv:zdo w v m)(hm:Small m)(hl:NSl w lv l)(hn:l.Nodup)(hb:∀ x∈l,x<m.states.length)(hs0:m.start.toNat∈l):Calls Tryz.prog 147 #[v,lv] w (zmH (zba m l) w):=by
 obtain⟨u,rfl,hst0⟩:=hv;obtain⟨A,cap,us,rfl,hS0⟩:=zdR.of hst0;obtain⟨Al,capl,rfl,hrl⟩:=hl;have hll:=short_list hn hb;have g1:w.grownBy (w.alloc (.cells #[.int .i64 m.kind,.int .i64 m.start,.string m.lead,.slice A m.states.length cap] 31)) none:=zGA _ _ _;have b1:=zav.new w m (.slice A m.states.length cap);have e1:(w.alloc (.cells #[.int .i64 m.kind,.int .i64 m.start,.string m.lead,.slice A m.states.length cap] 31)).heap.size=w.heap.size+1:=by simp
 have g2:=zGA (w.alloc (.cells #[.int .i64 m.kind,.int .i64 m.start,.string m.lead,.slice A m.states.length cap] 31)) (.cells #[.int .i64 0,.int .i64 0,.string ByteArray.empty,.slice none 0 0] 31) none;have b2:=zav.new (w.alloc (.cells #[.int .i64 m.kind,.int .i64 m.start,.string m.lead,.slice A m.states.length cap] 31)) zbk (.slice none 0 0);rw[e1] at b2;have e2:((w.alloc (.cells #[.int .i64 m.kind,.int .i64 m.start,.string m.lead,.slice A m.states.length cap] 31)).alloc (.cells #[.int .i64 0,.int .i64 0,.string ByteArray.empty,.slice none 0 0] 31)).heap.size=w.heap.size+2:=by simp
 have hb1:=b1.grown g2;have hg:=zaa g1 g2;have HG:=zHd hg;have HB1:=zHd hb1;have HB2:=zHd b2;have HS:=zHd hS0;have HM:=zHd hm;have HRL:=zHd hrl;have HND:=zHd hn;have HBL:=zHd hb;have HS0:=zHd hs0;have hn3:=hm.n;obtain⟨i0,hi,hz0,hz1,hz2⟩:=zdb ztj;obtain⟨x0,x1,x2,x3⟩:=hb1.cells;clear hst0 hS0 hrl g1 g2 b1 b2 e1 hb1 hg hm hn hb hs0;go_enter Tryz.func147,Tryz.ntmps147;go_wp2_with (at_make;refine wpList_make_full _ rfl _ _ 51 rfl (w.heap.size+2) 3 i0 (.int .i64 0) 1 Tryz.underlying51 hi hz0 hz1 _ _ _ _ m.states.length rfl rfl rfl rfl (by rw[hz2];omega) (by unfold maxLen;omega) (by simp) ?_);intro W hown hgr;have ht:=zdp.of_full hown;have hlt:=ht.lt;have HT:=zHd ht;have HG1:=zHd (zaa HG.out hgr);have HB1a:=zHd (HB1.out.grown hgr);have HB2a:=zHd (HB2.out.grown hgr);clear x0 x1 x2 x3 hown hgr ht;go_wp2
 go_loopw [20] (fun i wr=>∃ k:Nat,i=.int .i64 k/\k<=m.states.length/\zdp wr (w.heap.size+1+1) m.states.length (fun x=>if x<k then -1 else 0)/\W.grownBy wr (some (w.heap.size+1+1))) (fun i _=>m.states.length-(intOf i).toNat)
 case atStart=>exact⟨0,rfl,by omega,HT.out.congr (fun x hx=>by simp),World.grownBy.refl _ _⟩
 case round =>
  obtain⟨k,rfl,hk,ht,hgr⟩:=hrel;have HT2:=zHd ht;have HGR:=zHd hgr;clear ht hgr
  by_cases hlt2:k<m.states.length
  ·have c0:=HT2.out.cell hlt2
   have c1:=HT2.out.free k;have n1:(k:Int)<(m.states.length:Int):=by omega
   have n2:IntKind.i64.wrap ((k:Int)+1)=(k:Int)+1:=by rw[zqah];omega
   have n3:(0:Int)<=(k:Int):=by omega
   have HT3:=zHd ((HT2.out.set (x:=k) (-1)).congr (f':=fun x=>if x<k+1 then -1 else 0) (fun x hx=>by
    by_cases e:x=k
    ·simp[e]
    ·by_cases e2:x<k
     ·simp[e,e2];omega
     ·simp[e,e2];omega))
   have HG2:=zHd (World.grownBy.trans HGR.out (zac wr ⟨w.heap.size+1+1,k,none⟩ (.int .i64 (-1))));go_wp2
   go_roundw
   case rel=>exact⟨k+1,by go_num,by omega,HT3.out,HG2.out⟩
   case measure=>simp[intOf];omega
  ·have n1:¬ (k:Int)<(m.states.length:Int):=by omega
   have HT3:=zHd (HT2.out.congr (f':=zkc l 0) (fun x hx=>by rw[zEm,if_pos (by omega)]));generalize wr=w4 at *;go_wp2
   go_loopw [29] (fun i wr=>∃ j:Nat,i=.int .i64 j/\j<=l.length/\zdp wr (w.heap.size+1+1) m.states.length (zkc l j)/\W.grownBy wr (some (w.heap.size+1+1))) (fun i _=>l.length-(intOf i).toNat)
   case atStart=>exact⟨0,rfl,by omega,HT3.out,HGR.out⟩
   case round =>
    obtain⟨j,rfl,hj,ht,hgr⟩:=hrel;have HT4:=zHd ht;have HGR2:=zHd hgr;have HBW:=zHd (zbj (zaj (g:=w.heap.size+1+1) HG1.out hgr (by omega)));clear ht hgr
    by_cases hjl:j<l.length
    ·obtain⟨ad,x,hA,hx,hcx⟩:=zic ((HRL.out.below HBW.out).more HBW.out.size) hjl
     subst hA;have hxn:=HBL.out x (zqak hx);have c0:=HT4.out.cell hxn;have c1:=HT4.out.free x;have n4:(j:Int)<(l.length:Int):=(by omega);have n5:IntKind.i64.wrap ((j:Int)+1)=(j:Int)+1:=(by rw[zqah];omega);have n6:(0:Int)<=(x:Int):=(by omega);have n7:(x:Int)<(m.states.length:Int):=(by omega);have HT5:=zHd ((HT4.out.set (x:=x) (j:Int)).congr (f':=zkc l (j+1)) (fun y hy=>zEn HND.out hx y));have HG5:=zHd (World.grownBy.trans HGR2.out (zac wr ⟨w.heap.size+1+1,x,none⟩ (.int .i64 (j:Int))));clear hx;go_wp2
     go_roundw
     case rel=>exact⟨j+1,by go_num,by omega,HT5.out,HG5.out⟩
     case measure=>simp[intOf];omega
    ·have n4:¬ (j:Int)<(l.length:Int):=by omega
     have HT6:=zHd (HT4.out.congr (fun x hx=>zHC (by omega) x));have HB1b:=zHd ((HGR2.out.block _ HB1a.out.lt (by simp;omega)).trans HB1a.out);have HB2b:=zHd ((HGR2.out.block _ HB2a.out.lt (by simp)).trans HB2a.out);obtain⟨y0,y1,y2,y3⟩:=zav.cells HB1b.out;have hst:=HM.out.wf.start;have c0:=HT6.out.cell (x:=m.start.toNat) (by omega);generalize wr=w5 at *;go_upto_region 12 with(fail);have d0:w5.drew.cell? ⟨w.heap.size,0,none⟩=some (.int .i64 m.kind):=y0;have d1:w5.drew.cell? ⟨w.heap.size,1,none⟩=some (.int .i64 m.start):=y1;have d2:w5.drew.cell? ⟨w.heap.size,2,none⟩=some (.string m.lead):=y2;have d3:w5.drew.cell? ⟨w.heap.size+1+1,m.start.toNat,none⟩=some (.int .i64 (zff l m.start.toNat)):=c0;have q0:=World.new_ne w5 _ y0;have q1:=World.new_ne w5 _ c0;obtain⟨mk,hmk,hmg,hms,hmh⟩:=zEq (n:=l.length) (by omega);have HMG:=zHd hmg;have HMH:=zHd hmh;have p0:=(hmg w5.drew).cell d0 (by simp);have p1:=(hmg w5.drew).cell d1 (by simp);have p2:=(hmg w5.drew).cell d2 (by simp);have p3:=(hmg w5.drew).cell d3 (by simp);have hal:w5.drew.grownBy (w5.alloc (.cells #[.int .i64 0,.int .i64 0,.string ⟨#[]⟩,.slice none 0 0] 31)).drew none:=zGA w5.drew _ none;have hbn:zav (mk (w5.alloc (.cells #[.int .i64 0,.int .i64 0,.string ⟨#[]⟩,.slice none 0 0] 31)).drew) w5.heap.size zbk (.slice none 0 0):=(zav.new w5.drew zbk (.slice none 0 0)).grown (hmg (w5.alloc (.cells #[.int .i64 0,.int .i64 0,.string ⟨#[]⟩,.slice none 0 0] 31)).drew);have HBN:=zHd hbn;obtain⟨t0,t1,t2,t3⟩:=hbn.cells;have f0:=hbn.free 0;have f1:=hbn.free 1;have f2:=hbn.free 2;have f3:=hbn.free 3;simp only[zbk] at t0 t1 t2;have hmg2:=zaa hal (hmg (w5.alloc (.cells #[.int .i64 0,.int .i64 0,.string ⟨#[]⟩,.slice none 0 0] 31)).drew);have r0:=hmg2.cell d0 (by simp);have r1:=hmg2.cell d1 (by simp);have r2:=hmg2.cell d2 (by simp);have r3:=hmg2.cell d3 (by simp);have q2:=World.new_ne (mk w5.drew) _ p0;have q3:=World.new_ne (mk w5.drew) _ p3;clear hmg hmh hal hmg2 hbn
     go_cut [9] from 39 to 51 (fun b wx=>∃ g r:Nat,b=.pointer (some ⟨g,0,none⟩)/\w5.grownBy wx none/\g≠r/\w5.heap.size<=g/\w5.heap.size<=r/\zav wx g ⟨m.kind,zff l m.start.toNat,m.lead,[]⟩ (.slice (some ⟨r,0,none⟩) l.length l.length)/\wx.heap[r]?=some (.cells ((List.replicate l.length (st0,Value.slice none 0 0)).flatMap stC).toArray 57 (0,0)))
     case first =>
      go_region_held3 (fun W'=>W'.cell? ⟨w.heap.size,0,none⟩=some (.int .i64 m.kind)/\W'.cell? ⟨w.heap.size,1,none⟩=some (.int .i64 m.start)/\W'.cell? ⟨w.heap.size,2,none⟩=some (.string m.lead)/\W'.cell? ⟨w.heap.size+1+1,m.start.toNat,none⟩=some (.int .i64 (zff l m.start.toNat))) (go_keep) (fail)
      ·go_wp2_with (fail)
       go_meet
       case rel =>
        have hga:=zGA (mk w5.drew) (.cells #[.int .i64 m.kind,.int .i64 (zff l m.start.toNat),.string m.lead,.slice (some ⟨w5.heap.size,0,none⟩) l.length l.length] 31) none;have hsz:(mk w5.drew).heap.size=w5.heap.size+1:=hms w5.drew;have hbn:=zav.new (mk w5.drew) ⟨m.kind,zff l m.start.toNat,m.lead,[]⟩ (.slice (some ⟨w5.heap.size,0,none⟩) l.length l.length);rw[hsz] at hbn;exact⟨w5.heap.size+1,w5.heap.size,rfl,zaa (zaa (zag w5 none) (HMG.out w5.drew)) hga,by omega,by omega,by omega,hbn,(hga.block w5.heap.size (by omega) (by simp)).trans (HMH.out w5.drew)⟩
      ·go_wp2_with (fail)
       go_meet
       case rel =>
        obtain⟨hbf,hgf⟩:=zhE (n:=⟨m.kind,zff l m.start.toNat,m.lead,[]⟩) (v:=.slice (some ⟨w5.heap.size+1,0,none⟩) l.length l.length) HBN.out;have hsz:=hms (w5.alloc (.cells #[.int .i64 0,.int .i64 0,.string ⟨#[]⟩,.slice none 0 0] 31)).drew;have hsz2:(w5.alloc (.cells #[.int .i64 0,.int .i64 0,.string ⟨#[]⟩,.slice none 0 0] 31)).drew.heap.size=w5.heap.size+1:=(by simp);have hrw:=HMH.out (w5.alloc (.cells #[.int .i64 0,.int .i64 0,.string ⟨#[]⟩,.slice none 0 0] 31)).drew;rw[hsz2] at hsz hrw;exact⟨w5.heap.size,w5.heap.size+1,rfl,zaj (g:=w5.heap.size) (zaa (zaa (zGA w5 _ none) (zag _ none)) (HMG.out _)) hgf (by omega),by omega,by omega,by omega,hbf,(hgf.block _ (by omega) (by simp)).trans hrw⟩
     case rest =>
      obtain⟨g,r,rfl,hgc,hgr,hg0,hr0,hbox,hrow⟩:=hcut;have hro:=zcS.start hrow;rw[show List.replicate l.length (⟨ByteArray.empty,[]⟩:zai)=ssR m l 0 from(zHD m l).symm] at hro;have hw5:w.heap.size+1+1<w5.heap.size:=HT6.out.lt;have hgw:=zaj (g:=w.heap.size+1+1) HG1.out HGR2.out (by omega);have HI0:Hid (zir w wc wc wc.heap.size r (ssR m l 0) (List.replicate l.length (.slice none 0 0))):=zHd ⟨hro,fun _ _ _=>rfl,zbj (zaa hgw hgc),by omega⟩;have HBX:=zHd hbox;have HB1c:=zHd (zav.grown HB1b.out hgc);have HB2c:=zHd (zav.grown HB2b.out hgc);have HT7:=zHd (HT6.out.kept hgc (by simp));have hgC:=hbox.lt;have hsC:=hgc.size;have hrC:=hro.hr;clear hgc hbox hrow hro hgw y0 y1 y2 y3 c0 hmk hms HMG HMH HBN d0 d1 d2 d3 q0 q1 q2 q3 p0 p1 p2 p3 r0 r1 r2 r3 t0 t1 t2 t3 f0 f1 f2 f3;go_wp2
      go_loopw [54] (fun i wr=>∃ (k:Nat) (us':List Value),i=.int .i64 k/\k<=l.length/\zir w wc wr wc.heap.size r (ssR m l k) us') (fun i _=>l.length-(intOf i).toNat)
      case atStart=>exact⟨0,_,rfl,by omega,HI0.out⟩
      case round =>
       obtain⟨k,us',rfl,hk,hinv⟩:=hrel;have HINV:=zHd hinv;have HB1d:=zHd ((hinv.kp w.heap.size (by omega) (by omega)).trans HB1c.out);have HBXd:=zHd ((hinv.kp g hgC hgr).trans HBX.out);have HB2d:=zHd ((hinv.kp (w.heap.size+1) (by omega) (by omega)).trans HB2c.out)
       by_cases hlt3:k<l.length
       ·obtain⟨ad,x,hA,hx,hcx⟩:=zic ((HRL.out.below hinv.bel).more hinv.bel.size) hlt3
        subst hA;have hxn:=HBL.out x (zqak hx);obtain⟨ad2,s,Br,cb,hA2,hs,hu,hc,hra⟩:=(HS.out.below hinv.bel).at_ hxn;subst hA2;obtain⟨z0,z1⟩:=hc
        have hadb:ad2.block<w.heap.size:=by
         obtain⟨ad',e,hb',_⟩:=HS.out.row.2 (by omega);cases e;exact hb'
        have hsg:=znJ (m:=m) (s:=st0) hlt3;rw[<- ztl hlt3] at hsg;obtain⟨x',hux,w0,w1,hfree,_⟩:=hinv.rows.at_ hsg;have n10:(k:Int)<(l.length:Int):=(by omega);have n11:IntKind.i64.wrap ((k:Int)+1)=(k:Int)+1:=(by rw[zqah];omega);have n12:(0:Int)<=(k:Int):=(by omega);have n13:(0:Int)<=(x:Int):=(by omega);have n14:(x:Int)<(m.states.length:Int):=(by omega);obtain⟨_,_,_,y3⟩:=zav.cells HB1d.out;obtain⟨_,_,_,b3⟩:=zav.cells HBXd.out;have f0:=hfree (k*2);have hset:=hinv.set_fin hsg s.fin;rw[ztl hlt3,zyL hlt3] at hset;have HI1:=zHd hset;have HSS:=zHd hs;have HU:=zHd hu;have HX:=zHd hx;have hal:=HM.out.a s (zqak hs);simp only[st0] at w0;clear hinv hx hs hu hra hset hsg hux hfree w1;go_upto_region 16 with(fail);have d1:g≠r:=hgr;have d2:w.heap.size≠r:=(by omega);have d3:(ad2.add (x*2)).block≠r:=(by rw[zgS];omega);have d4:ad2.block≠r:=(by omega);have hgs:=zac wr ⟨r,k*2,none⟩ (.string s.fin);have e3:(wr.setCell ⟨r,k*2,none⟩ (.string s.fin)).drew.cell? ⟨g,3,none⟩=some (.slice (some ⟨r,0,none⟩) l.length l.length):=hgs.cell b3 (by simp;omega);have e4:(wr.setCell ⟨r,k*2,none⟩ (.string s.fin)).drew.cell? ⟨w.heap.size,3,none⟩=some (.slice (some ad2) m.states.length cap):=hgs.cell y3 (by simp;omega);have e5:(wr.setCell ⟨r,k*2,none⟩ (.string s.fin)).drew.cell? (ad2.add (x*2))=some (.string s.fin):=hgs.cell z0 (by rw[zgS];simp;omega)
        go_region_held3 (fun W'=>W'.cell? ⟨g,3,none⟩=some (.slice (some ⟨r,0,none⟩) l.length l.length)/\W'.cell? ⟨w.heap.size,3,none⟩=some (.slice (some ad2) m.states.length cap)/\W'.cell? (ad2.add (x*2))=some (.string s.fin)) (go_keep) (fail)
        clear y3 b3 w0 z0 z1 f0;clear e3 e4 e5 hgs d3 d4;have HI2:=zHd (HI1.out.next (zag _ none));generalize hWa:(wr.setCell ⟨r,k*2,none⟩ (.string s.fin)).drew=Wa at *;clear hWa HINV HB1d HBXd HB2d HI1;have hb1:=(HI2.out.kp w.heap.size (by omega) (by omega)).trans HB1c.out;obtain⟨_,_,_,y3⟩:=zav.cells hb1;obtain⟨ad3,s3,Br3,cb3,hA3,hs3,hu3,hc3,_⟩:=(HS.out.below HI2.out.bel).at_ hxn;cases hA3;rw[HSS.out] at hs3;cases hs3;rw[HU.out] at hu3;cases hu3;obtain⟨z0,z1⟩:=hc3;clear hb1;go_wp2;clear y3 z0 z1;generalize Wa=wa at *
        go_loopw [77] (fun i wr=>∃ (j:Nat) (us':List Value),i=.int .i64 j/\j<=s.arcs.length/\zir w wc wr wc.heap.size r (ssP m l k ⟨s.fin,zeT l s.arcs j⟩) us') (fun i _=>s.arcs.length-(intOf i).toNat)
        case atStart=>exact⟨0,_,rfl,by omega,HI2.out⟩
        case round =>
         obtain⟨j,us2,rfl,hj,hinv⟩:=hrel;have HINV:=zHd hinv;clear hinv
         by_cases hjl:j<s.arcs.length
         ·obtain⟨ad5,a,hBr,hab,haj,hat⟩:=zkw ((HS.out.below HINV.out.bel).arcs_at HSS.out HU.out) hjl
          subst hBr;obtain⟨z0,z1,z2,z3⟩:=hat;have harc:=HM.out.wf.arcs s (zqak HSS.out) a (zqak haj);obtain⟨y,hy⟩:∃ y:Nat,a.t=(y:Int):=⟨a.t.toNat,by omega⟩;have hyn:y<m.states.length:=(by omega);have hyt:a.t.toNat=y:=(by omega);have c0:=zdp.cell (show zdp wr (w.heap.size+1+1) m.states.length (zff l) from(HINV.out.kp _ (by omega) (by omega)).trans HT7.out) hyn;rw[hy] at z3;have n15:(j:Int)<(s.arcs.length:Int):=(by omega);have n16:IntKind.i64.wrap ((j:Int)+1)=(j:Int)+1:=(by rw[zqah];omega);have n17:(0:Int)<=(y:Int):=(by omega);have n18:(y:Int)<(m.states.length:Int):=(by omega);have HAJ:=zHd haj;have HY:=zHd hy;have HYT:=zHd hyt;clear haj harc hy hyt
          by_cases hyl:y∈l
          ·have hnum:zff l y=(l.idxOf y:Int):=by unfold zff;rw[if_pos hyl]
           rw[hnum] at c0;have n19:¬ ((l.idxOf y:Int)<0):=(by omega);have c0b:=(zGA wr (.cells #[.int .i64 a.i,.int .i64 a.o,.string a.w,.int .i64 (y:Int)] 59) none).cell c0 (by simp);have hkeep:zdy l a=some ⟨a.i,a.o,a.w,(l.idxOf y:Int)⟩:=(by unfold zdy;rw[HYT.out,if_pos hyl]);have HK:=zHd (zAU HAJ.out hkeep);have hga:=zGA wr (.cells #[.int .i64 a.i,.int .i64 a.o,.string a.w,.int .i64 (l.idxOf y:Int)] 59) none;have hi4:=HINV.out.next hga;have HI4:=zHd hi4;obtain⟨vy,hvy,_,c3,hfr,hown⟩:=hi4.rows.at_ (znJ (m:=m) (s:=⟨s.fin,zeT l s.arcs j⟩) hlt3);have HVY:=zHd hvy;have HOWN:=zHd hown;obtain⟨_,_,_,c1⟩:=zav.cells ((hi4.kp g hgC hgr).trans HBX.out);have HC1:=zHd c1;have HC3:=zHd c3;have HF3:=zHd (hfr (k*2+1));have HAR:=zHd (zyz wr ⟨a.i,a.o,a.w,(l.idxOf y:Int)⟩);have hCr:=HINV.out.rows.hC;have hlo:=fun b (e:vy.ownBlock=some b)=>(hown.lt b e).1;obtain⟨vx,hvx,_,_,_,hownx⟩:=HINV.out.rows.at_ (znJ (m:=m) (s:=⟨s.fin,zeT l s.arcs j⟩) hlt3);rw[hvy] at hvx;cases hvx;have N1:some g≠vy.ownBlock:=fun e=>by have:=hlo _ e.symm;omega
           have N2:some wr.heap.size≠vy.ownBlock:=fun e=>by have:=(hownx.lt _ e.symm).2;omega
           have N3:some r≠vy.ownBlock:=fun e=>by have:=hlo _ e.symm;omega
           have HN1:=zHd N1;have HN2:=zHd N2;have HN3:=zHd N3;have hql:=zEp l s.arcs j;have hsz4:(wr.alloc (.cells #[.int .i64 a.i,.int .i64 a.o,.string a.w,.int .i64 (l.idxOf y:Int)] 59)).heap.size=wr.heap.size+1:=(by simp);obtain⟨i1,hj1,hy0,hy1,hy2⟩:=zdb zHA;clear hnum hkeep hi4 hvy hown hownx c1 c3 hfr N1 N2 N3 hlo hga hyl;go_upto_region 22 with(fail);generalize hW3:wr.alloc (.cells #[.int .i64 a.i,.int .i64 a.o,.string a.w,.int .i64 (l.idxOf y:Int)] 59)=W3 at *;clear hW3 z0 z1 z2 z3 c0 c0b;have HSZ4:=zHd hsz4;have hle4:wc.heap.size<=W3.heap.size:=(by omega);clear hsz4;have c1:=HC1.out;have c3:=HC3.out;have f3:=HF3.out;have hA:=HAR.out;obtain⟨a0,a1,a2,a3⟩:=hA;simp only[zqat] at a1 a2 a3;have N1:=HN1.out;have N2:=HN2.out;have N3:=HN3.out;have q1:=World.new_ne W3 _ c1;have q2:=World.new_ne W3 _ a0;have q3:=World.new_ne W3 _ c3;refine zpz (e:=14) (n:=14) (fun W'=>W'.cell? ⟨g,3,none⟩=some (.slice (some ⟨r,0,none⟩) l.length l.length)/\W'.cell? ⟨wr.heap.size,0,none⟩=some (.int .i64 a.i)/\W'.cell? ⟨wr.heap.size,1,none⟩=some (.int .i64 a.o)/\W'.cell? ⟨wr.heap.size,2,none⟩=some (.string a.w)/\W'.cell? ⟨wr.heap.size,3,none⟩=some (.int .i64 (l.idxOf y:Int))/\W'.cell? ⟨r,k*2+1,none⟩=some vy) (by kernel_rfl) (by kernel_rfl) rfl ?_;have hS0:(fun W':World=>W'.cell? ⟨g,3,none⟩=some (.slice (some ⟨r,0,none⟩) l.length l.length)/\W'.cell? ⟨wr.heap.size,0,none⟩=some (.int .i64 a.i)/\W'.cell? ⟨wr.heap.size,1,none⟩=some (.int .i64 a.o)/\W'.cell? ⟨wr.heap.size,2,none⟩=some (.string a.w)/\W'.cell? ⟨wr.heap.size,3,none⟩=some (.int .i64 (l.idxOf y:Int))/\W'.cell? ⟨r,k*2+1,none⟩=some vy) W3.drew:=⟨c1,a0,a1,a2,a3,c3⟩;refine zTk 0 (.pointer (some ⟨g,3,none⟩)) rfl hS0 ?_;(try simp only[zS,Act.put]);refine zTk 1 (.slice (some ⟨r,0,none⟩) l.length l.length) rfl hS0 ?_;(try simp only[zS,Act.put]);refine zTk 2 (.int .i64 (k:Int)) rfl hS0 ?_;(try simp only[zS,Act.put]);refine zTk 3 (.pointer (some ⟨g,3,none⟩)) rfl hS0 ?_;(try simp only[zS,Act.put]);refine zTk 4 (.slice (some ⟨r,0,none⟩) l.length l.length) rfl hS0 ?_;(try simp only[zS,Act.put]);refine zTk 5 (.int .i64 (k:Int)) rfl hS0 ?_;(try simp only[zS,Act.put]);refine zTk 6 (.pointer (some ⟨r,k*2,none⟩)) rfl hS0 ?_;(try simp only[zS,Act.put]);refine zTk 7 (.pointer (some ⟨r,k*2+1,none⟩)) rfl hS0 ?_;(try simp only[zS,Act.put]);refine zTk 8 (vy) rfl hS0 ?_;(try simp only[zS,Act.put]);refine zTk 9 (.agg #[.int .i64 a.i,.int .i64 a.o,.string a.w,.int .i64 (l.idxOf y:Int)]) rfl hS0 ?_;(try simp only[zS,Act.put]);refine zqcc (rs:=[10]) (by kernel_rfl) (by simp) ?_;refine AllReadyH.cons rfl (fun K hK=>?_) AllReadyH.nil;go_simp;refine hK.out _ _ ⟨zeS c1,zeS a0,zeS a1,zeS a2,zeS a3,zeS c3⟩ (fun hHeld=>?_);refine zqcc (rs:=[11]) (by kernel_rfl) (by simp) ?_;refine AllReadyH.cons rfl (fun K hK=>?_) AllReadyH.nil;refine step_append_lies _ (by rfl) _ _ _ (by rfl) wc.heap.size 59 i1 (.agg #[.int .i64 0,.int .i64 0,.string ByteArray.empty,.int .i64 0]) 4 40 Tryz.underlying55 hj1 hy0 hy1 hy2 rfl (by omega) vy (zeT l s.arcs j).length ((zeT l s.arcs j).flatMap zeB) (by rfl) ((HOWN.out.alloc _).drew) ⟨W3.heap.size,0,none⟩ 1 1 [.int .i64 a.i,.int .i64 a.o,.string a.w,.int .i64 (l.idxOf y:Int)] (by rfl) (by rfl) (World.news_of_block (cs:=#[.int .i64 a.i,.int .i64 a.o,.string a.w,.int .i64 (l.idxOf y:Int)]) (t:=59) (fr:=(0,0)) (zqce W3 _)) (by simp[Value.oneCell']) (by omega) (by unfold maxLen;omega) (by omega) (by simp;omega) (W3.heap.size+1) (by simp) ?_;intro gg cc w6 hown6 hgrow hat hlt6;refine hK.out _ _ ⟨zdh c1 hgrow N1,zdh a0 hgrow N2,zdh a1 hgrow N2,zdh a2 hgrow N2,zdh a3 hgrow N2,zdh c3 hgrow N3⟩ (fun hHeld=>?_);have s4:=ztk (a:=⟨r,k*2+1,none⟩) (by show r<W3.heap.size;omega) f3 hgrow N3;have s3:=zdh c3 hgrow N3;refine zTk 12 (.pointer (some ⟨r,k*2,none⟩)) rfl hHeld ?_;(try simp only[zS,Act.put]);refine zTk 13 (.pointer (some ⟨r,k*2+1,none⟩)) rfl hHeld ?_;(try simp only[zS,Act.put]);refine wpAnyH_done (by kernel_rfl) ?_ _;refine zfL (by rfl) (fun K hK=>?_);go_simp;refine hK _ _ ?_;have hX:W3.grownBy (W3.alloc (.cells #[.int .i64 a.i,.int .i64 a.o,.string a.w,.int .i64 (l.idxOf y:Int)] 59)).drew none:=zaa (zGA _ _ _) (zag _ _);have hr7:=(HI4.out.next hX).push (a:=⟨a.i,a.o,a.w,(l.idxOf y:Int)⟩) (znJ hlt3) HVY.out hown6 hgrow (by first|exact hat|(simp;exact hat)|simpa using hat);rw[zyL hlt3] at hr7;simp only[] at hr7;rw[<- HK.out] at hr7;have HR7:=zHd hr7;clear hX hr7 hown6 hgrow hat s3 s4 c1 c3 f3 q1 q2 q3 N1 N2 N3;go_wp2
           go_roundw
           case rel=>exact⟨j+1,_,by go_num,by omega,HR7.out⟩
           case measure=>simp[intOf];omega
          ·have hnum:zff l y = -1:=by unfold zff;rw[if_neg hyl]
           rw[hnum] at c0;have hkeep:zdy l a=none:=(by unfold zdy;rw[HYT.out,if_neg hyl]);have he:=zAT HAJ.out hkeep;have c0b:=(zGA wr (.cells #[.int .i64 a.i,.int .i64 a.o,.string a.w,.int .i64 (y:Int)] 59) none).cell c0 (by simp);have hga:=zGA wr (.cells #[.int .i64 a.i,.int .i64 a.o,.string a.w,.int .i64 (y:Int)] 59) none;have hi4:=HINV.out.next hga;rw[<- he] at hi4;have HI4:=zHd hi4;clear hnum hkeep he hga hi4;go_wp2
           go_roundw
           case rel=>exact⟨j+1,us2,by go_num,by omega,HI4.out⟩
           case measure=>simp[intOf];omega
         ·have n15:¬ (j:Int)<(s.arcs.length:Int):=by omega
          have hinv:=HINV.out;rw[zEo (by omega),show(⟨s.fin,s.arcs.filterMap (zdy l)⟩:zai)=zjj l (zhy m x) by rw[zhz HSS.out];rfl,zHE HX.out] at hinv;have HI5:=zHd hinv;clear hinv;go_wp2
          go_roundw
          case rel=>exact⟨k+1,us2,by go_num,by omega,HI5.out⟩
          case measure=>simp[intOf];omega
       ·have n10:¬ (k:Int)<(l.length:Int):=by omega
        rw[zJx (by omega)] at hinv;have hlr:(zba m l).states.length=l.length:=(by simp[zba]);obtain⟨r0,r1,r2,r3⟩:=zav.cells HBXd.out;obtain⟨v0,v1,v2,v3⟩:=zav.cells HB2d.out;simp only[zbk] at v0 v1 v2;have f0:=zav.free HB2d.out 0;have f1:=zav.free HB2d.out 1;have f2:=zav.free HB2d.out 2;have f3:=zav.free HB2d.out 3;obtain⟨hbf,hgf⟩:=zhE (n:=⟨m.kind,zff l m.start.toNat,m.lead,[]⟩) (v:=.slice (some ⟨r,0,none⟩) l.length l.length) HB2d.out;have HGF:=zHd (zaj (g:=w.heap.size+1) (zbc hinv.bel) hgf (by omega));have hsl:=(hinv.rows.other hgf (by omega) (by omega)).stN (cap:=l.length) (B:=w.heap.size) (by omega) (by omega);rw[hlr] at hsl;have HSL:=zHd hsl;obtain⟨c0,c1,c2,c3⟩:=hbf.cells;have hst:zff l m.start.toNat=(l.idxOf m.start.toNat:Int):=(by unfold zff;rw[if_pos HS0.out]);have HST:=zHd hst;clear hbf hgf hsl hinv hst;go_wp2_with fail;generalize (((wr.setCell ⟨w.heap.size+1,0,none⟩ (.int .i64 m.kind)).setCell ⟨w.heap.size+1,1,none⟩ (.int .i64 (zff l m.start.toNat))).setCell ⟨w.heap.size+1,2,none⟩ (.string m.lead)).setCell ⟨w.heap.size+1,3,none⟩ (.slice (some ⟨r,0,none⟩) l.length l.length)=WW at *;exact zqby (v:=.agg #[.int .i64 m.kind,.int .i64 (zff l m.start.toNat),.string m.lead,.slice (some ⟨r,0,none⟩) l.length l.length]) (by simp[results,Tryz.results147,go_sem,c0,c1,c2,c3]) rfl ⟨_,rfl,⟨_,by rw[HST.out];rfl,HSL.out⟩,HGF.out⟩
end Go.Proofs.YtaogepcaoogpgaaGreatDoor
