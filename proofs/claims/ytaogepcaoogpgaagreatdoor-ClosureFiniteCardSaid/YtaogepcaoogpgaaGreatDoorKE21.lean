/- WE24 WE30 WE31 WE76 WE29 -/
import Derived.Shelf.SlicesE.DeleteFunc
import Derived.Shelf.SortM.Plain
import Derived.Shelf.SortM.SortNone
import Derived.Shelf.SlSortCmp.NoneTotal
import Derived.Test.YtaogepcaoogpgaaGreatDoorKE20
import Derived.Lib.SmallJoins
set_option linter.unusedVariables false
set_option linter.unusedSimpArgs false
set_option maxRecDepth 100000
set_option maxHeartbeats 16000000
namespace Go.Proofs.YtaogepcaoogpgaaGreatDoor
open Go.RowKit
theorem zkH {w:World}{B n k:Nat}{e:TypeId}{v:Value}{xs:List Value}(h:w.ownsRow B e k v n xs):∃ A cap,v = .slice A n cap∧Reads w w.heap.size k A n xs:=by
 have hlt:=h.lt;rcases h.2 with⟨rfl,rfl⟩|⟨g,cap,cur,rfl,hb,hg,hnc,hcm,hcs,ht⟩
 ·exact⟨none,0,rfl,h.1,fun h0=>absurd h0 (by omega)⟩
 ·exact⟨_,cap,rfl,h.1,fun h0=>⟨_,rfl,(hlt g rfl).2,fun j u hu=>h.cells (g:=g) rfl j u hu⟩⟩
theorem zuM {w:World}{B:Nat}{v:Value}{l:List MArc}(h:w.ownsRow B 59 4 v l.length (l.flatMap arcC)):zct w v l:=by
 obtain⟨A,cap,hv,hr⟩:=zkH h;exact⟨A,cap,hv,hr⟩
theorem zmy {α β:Type}(f:α→List β)(n:Nat)(hn:∀ a,(f a).length=n):∀ (l:List α) (k j:Nat) (a a':α) (b:β),l[k]? = some a→j<n→f a'=(f a).set j b→(l.set k a').flatMap f=(l.flatMap f).set (k * n+j) b
 | [],k,j,a,a',b,h,_,_=>by simp at h
 | x::l,0,j,a,a',b,h,hj,hf=>by
  simp only[List.getElem?_cons_zero,Option.some.injEq] at h;subst h;rw[List.set_cons_zero,List.flatMap_cons,List.flatMap_cons,Nat.zero_mul,Nat.zero_add,hf,List.set_append_left _ _ (by rw[hn];exact hj)]
 | x::l,k+1,j,a,a',b,h,hj,hf=>by
  rw[List.getElem?_cons_succ] at h;rw[List.set_cons_succ,List.flatMap_cons,List.flatMap_cons,List.set_append_right _ _ (by rw[hn,Nat.succ_mul];omega),hn,show(k+1) * n+j - n=k * n+j by rw[Nat.succ_mul];omega];rw[zmy f n hn l k j a a' b h hj hf]
theorem zpy {α β:Type}:∀ (l:List α) (us:List β) (k:Nat) (a:α) (b:β),(l.set k a).zip (us.set k b)=(l.zip us).set k (a,b)
 | [],us,k,a,b=>by simp
 | x::l,[],k,a,b=>by cases k <;> simp
 | x::l,u::us,0,a,b=>by simp
 | x::l,u::us,k+1,a,b=>by simp[zpy l us k a b]
theorem zDQ:(Tryz.prog.info? 59).map (fun i=>(i.zero,i.size,i.bytes))=some (some (.agg #[.int .i64 0,.int .i64 0,.string ByteArray.empty,.int .i64 0]),4,40):=by kernel_rfl
open Go.RowKit
end Go.Proofs.YtaogepcaoogpgaaGreatDoor
namespace Go.Proofs
open Go.Shelf
def Tryz.laysSlH10_f68_ren:Go.Shelf.Ren:=⟨fun|10=>185|6=>220|n=>n,fun|22=>51|23=>3|25=>67|3=>3|4=>4|0=>0|n=>n,fun|n=>n⟩
theorem Tryz.laysSlH10_f68:Go.Proofs.SlLaysH.n10 Tryz.prog Tryz.laysSlH10_f68_ren := {
 mixed:=by kernel_rfl
 f6:=⟨Tryz.f220.name,by decide,Tryz.func220.trans (congrArg some (by kernel_rfl))⟩
 f10:=⟨Tryz.f185.name,by decide,Tryz.func185.trans (congrArg some (by kernel_rfl))⟩
 t0:=Tryz.underlying0
 a0:=Tryz.isAgg0
 z0:=Tryz.sizeOf0
 v0:=Tryz.zeroValue0
 t3:=Tryz.underlying3
 a3:=Tryz.isAgg3
 z3:=Tryz.sizeOf3
 v3:=Tryz.zeroValue3
 t4:=Tryz.underlying4
 a4:=Tryz.isAgg4
 z4:=Tryz.sizeOf4
 v4:=Tryz.zeroValue4
 t22:=Tryz.underlying51
 a22:=Tryz.isAgg51
 z22:=Tryz.sizeOf51
 v22:=Tryz.zeroValue51
 a23:=Tryz.isAgg3
 z23:=Tryz.sizeOf3
 t25:=Tryz.underlying67
 a25:=Tryz.isAgg67
 z25:=Tryz.sizeOf67
 v25:=Tryz.zeroValue67 }
open Go.RowKit Go.Lib Go.Sort in
theorem Tryz.slices_DeleteFunc {α:Type}[Inhabited α](enc:α→Value)(hO:OneCell enc)(p:α→Bool)(g:Nat)(lb:Array Value)(eg:∀ args w,(callFunc g args).run Tryz.prog w = .ok (.enter g args) w)(zr:α)(v23:∀ w,(zeroValue 3).run Tryz.prog w = .ok (enc zr) w)(blk off cap:Nat)(d:Array α)(w:World)(hp:PredAt Tryz.prog g lb enc p w)(hpo:PredOver Tryz.prog g lb enc p blk off d.size w)(hH:Holds enc w blk off d)(hsz:d.size≤9223372036854775807)(hcap:d.size≤cap) :
  Calls Tryz.prog 185 #[.slice (some ⟨blk,off,none⟩) d.size cap,.func (.func g) #[] lb] w fun e w'=>e = .returned (.slice (some ⟨blk,off,none⟩) (d.toList.filter fun x => !p x).length cap)∧∃ q,w'=putRow enc (Sort.ahead w q) blk off ((d.toList.filter fun x => !p x)++List.replicate (d.size - (d.toList.filter fun x => !p x).length) zr).toArray:=AnyE.slices_DeleteFunc Tryz.laysSlH10_f68 enc hO p g lb eg zr v23 blk off cap d w hp hpo hH hsz hcap
def Tryz.laysSlM5_f70_ren:Go.Shelf.Ren:=⟨fun|5=>187|8=>222|7=>221|19=>245|20=>246|10=>236|11=>237|12=>238|13=>239|14=>240|15=>241|16=>242|17=>243|18=>244|30=>259|31=>260|32=>261|33=>262|34=>263|35=>195|40=>277|n=>n,fun|23=>51|25=>3|3=>3|32=>159|22=>51|0=>0|44=>178|46=>181|4=>4|36=>199|35=>198|41=>122|5=>5|9=>9|53=>217|57=>221|63=>229|64=>230|n=>n,fun|n=>n⟩
theorem Tryz.laysSlM5_f70:Go.Proofs.SlLaysM.n5 Tryz.prog Tryz.laysSlM5_f70_ren := {
 mixed:=by kernel_rfl
 f5:=⟨Tryz.f187.name,by decide,Tryz.func187.trans (congrArg some (by kernel_rfl))⟩
 f7:=⟨Tryz.f221.name,by decide,Tryz.func221.trans (congrArg some (by kernel_rfl))⟩
 f8:=Tryz.func222.trans (congrArg some (by kernel_rfl))
 f10:=⟨Tryz.f236.name,by decide,Tryz.func236.trans (congrArg some (by kernel_rfl))⟩
 f11:=⟨Tryz.f237.name,by decide,Tryz.func237.trans (congrArg some (by kernel_rfl))⟩
 f12:=⟨Tryz.f238.name,by decide,Tryz.func238.trans (congrArg some (by kernel_rfl))⟩
 f13:=⟨Tryz.f239.name,by decide,Tryz.func239.trans (congrArg some (by kernel_rfl))⟩
 f14:=⟨Tryz.f240.name,by decide,Tryz.func240.trans (congrArg some (by kernel_rfl))⟩
 f15:=⟨Tryz.f241.name,by decide,Tryz.func241.trans (congrArg some (by kernel_rfl))⟩
 f16:=⟨Tryz.f242.name,by decide,Tryz.func242.trans (congrArg some (by kernel_rfl))⟩
 f17:=⟨Tryz.f243.name,by decide,Tryz.func243.trans (congrArg some (by kernel_rfl))⟩
 f18:=⟨Tryz.f244.name,by decide,Tryz.func244.trans (congrArg some (by kernel_rfl))⟩
 f19:=Tryz.func245.trans (congrArg some (by kernel_rfl))
 f20:=Tryz.func246.trans (congrArg some (by kernel_rfl))
 f30:=⟨Tryz.f259.name,by decide,Tryz.func259.trans (congrArg some (by kernel_rfl))⟩
 f31:=Tryz.func260.trans (congrArg some (by kernel_rfl))
 f32:=Tryz.func261.trans (congrArg some (by kernel_rfl))
 f33:=⟨Tryz.f262.name,by decide,Tryz.func262.trans (congrArg some (by kernel_rfl))⟩
 f34:=⟨Tryz.f263.name,by decide,Tryz.func263.trans (congrArg some (by kernel_rfl))⟩
 f35:=⟨Tryz.f195.name,by decide,Tryz.func195.trans (congrArg some (by kernel_rfl))⟩
 f40:=⟨Tryz.f277.name,by decide,Tryz.func277.trans (congrArg some (by kernel_rfl))⟩
 t0:=Tryz.underlying0
 a0:=Tryz.isAgg0
 z0:=Tryz.sizeOf0
 v0:=Tryz.zeroValue0
 t3:=Tryz.underlying3
 a3:=Tryz.isAgg3
 z3:=Tryz.sizeOf3
 v3:=Tryz.zeroValue3
 t4:=Tryz.underlying4
 a4:=Tryz.isAgg4
 z4:=Tryz.sizeOf4
 v4:=Tryz.zeroValue4
 t5:=Tryz.underlying5
 a5:=Tryz.isAgg5
 z5:=Tryz.sizeOf5
 v5:=Tryz.zeroValue5
 t9:=Tryz.underlying9
 a9:=Tryz.isAgg9
 z9:=Tryz.sizeOf9
 v9:=Tryz.zeroValue9
 t22:=Tryz.underlying51
 a22:=Tryz.isAgg51
 z22:=Tryz.sizeOf51
 v22:=Tryz.zeroValue51
 t23:=Tryz.underlying51
 a23:=Tryz.isAgg51
 z23:=Tryz.sizeOf51
 v23:=Tryz.zeroValue51
 t25:=Tryz.underlying3
 a25:=Tryz.isAgg3
 z25:=Tryz.sizeOf3
 v25:=Tryz.zeroValue3
 t32:=Tryz.underlying159
 a32:=Tryz.isAgg159
 z32:=Tryz.sizeOf159
 v32:=Tryz.zeroValue159
 t35:=Tryz.underlying198
 a35:=Tryz.isAgg198
 z35:=Tryz.sizeOf198
 v35:=Tryz.zeroValue198
 t36:=Tryz.underlying199
 a36:=Tryz.isAgg199
 z36:=Tryz.sizeOf199
 v36:=Tryz.zeroValue199
 t41:=Tryz.underlying122
 a41:=Tryz.isAgg122
 z41:=Tryz.sizeOf122
 v41:=Tryz.zeroValue122
 t44:=Tryz.underlying178
 a44:=Tryz.isAgg178
 z44:=Tryz.sizeOf178
 v44:=Tryz.zeroValue178
 t46:=Tryz.underlying181
 a46:=Tryz.isAgg181
 z46:=Tryz.sizeOf181
 v46:=Tryz.zeroValue181
 t53:=Tryz.underlying217
 a53:=Tryz.isAgg217
 z53:=Tryz.sizeOf217
 v53:=Tryz.zeroValue217
 t57:=Tryz.underlying221
 a57:=Tryz.isAgg221
 z57:=Tryz.sizeOf221
 v57:=Tryz.zeroValue221
 t63:=Tryz.underlying229
 a63:=Tryz.isAgg229
 z63:=Tryz.sizeOf229
 v63:=Tryz.zeroValue229
 t64:=Tryz.underlying230
 a64:=Tryz.isAgg230
 z64:=Tryz.sizeOf230
 v64:=Tryz.zeroValue230 }
open Go.Sort Go.RowKit in
theorem Tryz.slices_Sort_int (blk off cap:Nat)(zs:List Int)(w:World)(hH:Holds (Value.int .i64) w blk off zs.toArray)(hblk:blk<w.heap.size)(hsz:zs.length<4611686018427387904) :
  Calls Tryz.prog 187 #[.slice (some ⟨blk,off,none⟩) zs.length cap] w fun e w' =>
   e = .returned (.tuple #[])∧∃ n os,w'=grow (putRow (Value.int .i64) (Sort.ahead w n) blk off (zs.mergeSort fun x y=>decide (x≤y)).toArray) os:=AnyM.slices_Sort_int Tryz.laysSlM5_f70 blk off cap zs w hH hblk hsz
end Go.Proofs
namespace Go.Proofs.YtaogepcaoogpgaaGreatDoor
open Go.ChangeShapes Go.WideShapes Go.ChangeAt Go.RowKit Go.Lib Go.Joins
theorem zAZ:Tryz.prog.cellsOf 9=1:=by kernel_rfl
section
variable {H:Type} {enc:TypeId × Value→H} {w:World}
end
open Go.RowKit
instance:Inhabited MArc:=⟨⟨0,0,ByteArray.empty,0⟩⟩
theorem zhm {α:Type}[Inhabited α](enc:α→Value)(w:World)(blk off n:Nat)(d:Array α)(os:Array Obj):w.grownBy (Go.Sort.grow (Go.Sort.putRow enc (Go.Sort.ahead w n) blk off d) os) (some blk):=by
 refine⟨rfl,rfl,rfl,by simp,fun k hk hne => ?_⟩;rw[Go.Sort.heap_grow_old _ _ (by simpa using hk)];show((Go.Sort.ahead w n).heap.modify blk _)[k]? = w.heap[k]?;rw[Array.getElem?_modify,if_neg (fun e=>hne (by rw[e]))]
 rfl
open Go.RowKit
theorem zfM {W:World}{g:Nat}{m n:Mach}{u v:Value}(h:zao W g m u) :
  zao ((((W.setCell ⟨g,0,none⟩ (.int .i64 n.kind)).setCell ⟨g,1,none⟩ (.int .i64 n.start)).setCell ⟨g,2,none⟩ (.string n.lead)).setCell ⟨g,3,none⟩ v) g n v ∧
  W.grownBy ((((W.setCell ⟨g,0,none⟩ (.int .i64 n.kind)).setCell ⟨g,1,none⟩ (.int .i64 n.start)).setCell ⟨g,2,none⟩ (.string n.lead)).setCell ⟨g,3,none⟩ v) (some g):=by
 have g1:=zac W ⟨g,0,none⟩ (.int .i64 n.kind);have g2:=zac (W.setCell ⟨g,0,none⟩ (.int .i64 n.kind)) ⟨g,1,none⟩ (.int .i64 n.start);have g3:=zac ((W.setCell ⟨g,0,none⟩ (.int .i64 n.kind)).setCell ⟨g,1,none⟩ (.int .i64 n.start)) ⟨g,2,none⟩ (.string n.lead);have g4:=zac (((W.setCell ⟨g,0,none⟩ (.int .i64 n.kind)).setCell ⟨g,1,none⟩ (.int .i64 n.start)).setCell ⟨g,2,none⟩ (.string n.lead)) ⟨g,3,none⟩ v;exact⟨h.set,World.grownBy.trans g1 (World.grownBy.trans g2 (World.grownBy.trans g3 g4))⟩
open Go.RowKit
open Go.RowKit
section
variable {k:Int}
theorem zxP (hk:zad k)(gc:Nat)(fin:ByteArray)(Au:Option Addr)(nu cu:Nat)(w:World)(hf:fin=⟨#[]⟩∨∃ v,Val k fin v)(hcal:zca w gc k) :
  Calls Tryz.prog 95 #[.agg #[.string fin,.slice Au nu cu],.pointer (some ⟨gc,0,none⟩)] w fun e w'=>∃ g,e = .returned (.slice (some ⟨g,0,none⟩) 1 1)∧w.heap.size≤g∧zam w' g 0 1 (txs (fun _=>finE hk fin))∧w.grownBy w' none:=by
 have hW:=zGA w (.cells #[.string fin,.slice Au nu cu] 57) none;have b0:=zak w #[.string fin,.slice Au nu cu] 57 (j:=0) rfl;have c0:=hW.cell hcal.1 (by simp);have c1:=hW.cell hcal.2.1 (by simp);have c2:=hW.cell hcal.2.2 (by simp);have hz:=fun w'=>zeX k 1 w' (by omega);have HZ:=zHd hz;have HW:=zHd hW;clear hz hcal;unfold calV at *
 by_cases he:fin=⟨#[]⟩
 ·have hv:finE hk fin=(srE k hk).zero:=by unfold finE;rw[if_pos he]
  have f1:(fin.toList == [])=true:=by rw[he,Lib.toList_data];rfl
  have HV:=zHd hv;clear hv he hf hW;go_enter Tryz.func95,Tryz.ntmps95;go_wp2_with fail;refine(HZ.out _).mono ?_;rintro e w1 ⟨g,rfl,hgW,hrow,hg1⟩;have H1:=zHd (zAI hgW (zAI hrow hg1));clear hgW hrow hg1;go_wp2;go_ret;obtain⟨hgW,hrow,hg1⟩:=H1.out;have:=HW.out.size;refine⟨g,rfl,by omega,⟨(zis hrow).1,fun j hj=>((zis hrow).2 j hj).trans ?_⟩,zaa HW.out hg1⟩;unfold txs;rw[HV.out,zdj]
 ·have hval:∃ v,Val k fin v:=hf.resolve_left he
  have hv:finE hk fin=vE hk fin:=by unfold finE;rw[if_neg he]
  have f1:(fin.toList == [])=false:=by
   rw[Bool.eq_false_iff];intro h;have h2:=eq_of_beq h;rw[Lib.toList_data] at h2;exact he (ByteArray.ext (Array.toList_inj.1 (by rw[h2])))
  have HV:=zHd (zAI hv (zlu hk hval).1);clear hv he hf hval hW;go_enter Tryz.func95,Tryz.ntmps95;go_wp2;go_ret;refine⟨w.heap.size+1,by simp,by omega,?_,zaa HW.out (zGA _ _ none)⟩;have h:=zpg (w.alloc (.cells #[.string fin,.slice Au nu cu] 57)) (.string fin) 9;rw[show(w.alloc (.cells #[.string fin,.slice Au nu cu] 57)).heap.size=w.heap.size+1 by simp] at h;refine⟨h.1,fun j hj=>(h.2 j hj).trans ?_⟩;unfold txs;rw[HV.out.1,← HV.out.2]
theorem zpz (gc:Nat)(v:Value)(fin:ByteArray)(Au:Option Addr)(nu cu:Nat)(hk:zad k)(w:World)(hcal:zca w gc k) :
  Calls Tryz.prog 98 #[.agg #[.string fin,.slice Au nu cu],.pointer (some ⟨gc,0,none⟩)] w fun e w'=>∃ g,e = .returned (.slice (some ⟨g,0,none⟩) 1 1)∧w.heap.size≤g∧zam w' g 0 1 (txs (fun _=>(srE k hk).zero))∧w.grownBy w' none:=by
 have hW:=zGA w (.cells #[.string fin,.slice Au nu cu] 57) none;have c0:=hW.cell hcal.1 (by simp);have c1:=hW.cell hcal.2.1 (by simp);have c2:=hW.cell hcal.2.2 (by simp);have hz:=fun w'=>zeX k 1 w' (by omega);have HZ:=zHd hz;have HW:=zHd hW;clear hz hcal hW;unfold calV at *;go_enter Tryz.func98,Tryz.ntmps98;go_wp2_with fail;refine(HZ.out _).mono ?_;rintro e w1 ⟨g,rfl,hgW,hrow,hg1⟩;have H1:=zHd (zAI hgW (zAI hrow hg1));clear hgW hrow hg1;go_wp2;go_ret;obtain⟨hgW,hrow,hg1⟩:=H1.out;have:=HW.out.size;refine⟨g,rfl,by omega,⟨(zis hrow).1,fun j hj=>((zis hrow).2 j hj).trans ?_⟩,zaa HW.out hg1⟩;unfold txs;rw[zdj]
def MBox (w:World)(g:Nat)(kd st:Int)(ld:ByteArray)(As:Option Addr)(n cs:Nat):Prop :=
 w.cell? ⟨g,0,none⟩=some (.int .i64 kd)∧w.cell? ⟨g,1,none⟩=some (.int .i64 st)∧w.cell? ⟨g,2,none⟩=some (.string ld)∧w.cell? ⟨g,3,none⟩=some (.slice As n cs)
theorem MBox.grown {w w':World}{g:Nat}{kd st:Int}{ld:ByteArray}{As:Option Addr}{n cs:Nat}(h:MBox w g kd st ld As n cs)(hg:w.grownBy w' none):MBox w' g kd st ld As n cs :=
 ⟨hg.cell h.1 (by simp),hg.cell h.2.1 (by simp),hg.cell h.2.2.1 (by simp),hg.cell h.2.2.2 (by simp)⟩
theorem MBox.new (w:World)(kd st:Int)(ld:ByteArray)(As:Option Addr)(n cs:Nat):MBox (w.alloc (.cells #[.int .i64 kd,.int .i64 st,.string ld,.slice As n cs] 31)) w.heap.size kd st ld As n cs:=⟨zak w _ _ rfl,zak w _ _ rfl,zak w _ _ rfl,zak w _ _ rfl⟩
noncomputable def toE (hk:zad k)(l:List zah)(i:Nat):El k:=xsol (srE k hk) (arcM hk l) l.length (finM hk l) i
def zgp (hk:zad k)(l:List zah):Prop:=zfL hk l∧SolveFits (srE k hk) FitE l.length l.length 1 (arcM hk l) (fun x _=>finM hk l x)
theorem zxQ (hk:zad k)(l:List zah)(us:List Value)(As:Option Addr)(cs gc:Nat)(w:World)(hok:zcx k l)(hst:StsR w l us As cs)(hcal:zca w gc k) :
  Calls Tryz.prog 94 #[.slice As l.length cs,.func (.func 95) #[] #[.pointer (some ⟨gc,0,none⟩)]] w fun e w'=>∃ zs,e = .returned (.slice (some ⟨w.heap.size,0,none⟩) l.length l.length)∧zdU w' w.heap.size w.heap.size l.length 1 zs (fun i=>txs (fun _=>finM hk l i))∧w.grownBy w' none:=by
 have h:=zgr 95 zrg #[] #[.pointer (some ⟨gc,0,none⟩)] l us As cs 1 (fun _=>True) (fun i=>txs (fun _=>finM hk l i)) w (by have:=hok.n60;omega) hst (fun i s u hs hu w' hw' ha=>by
  obtain⟨Au,cu,rfl,_⟩:=ha;have hil:=(List.getElem?_eq_some_iff.1 hs).1;have h1:=zxP hk gc s.fin Au s.arcs.length cu w' (by have:=hok.fins i hil;rw[ziw hs] at this;exact this) (hcal.grown hw');refine h1.mono (fun e w3 h => ?_);obtain⟨g,e1,q1,q2,q3⟩:=h;refine .inl ⟨trivial,_,e1,⟨g,0,1,rfl,Nat.le_refl _,by unfold maxLen;omega,.inr q1,?_⟩,q3⟩;show zam w3 g 0 1 (txs (fun _=>finM hk l i));unfold finM;rw[ziw hs];exact q2)
 refine h.mono (fun e w3 h => ?_);rcases h with⟨_,v,e1,⟨zs,rfl,q1,_⟩,q3⟩|⟨hn,_⟩
 ·exact⟨zs,e1,q1,q3⟩
 ·exact absurd (fun _ _=>trivial) hn
theorem zqy (hk:zad k)(l:List zah)(us:List Value)(As:Option Addr)(cs:Nat)(st:Int)(ld:ByteArray)(w:World)(hok:zcx k l)(hst:StsR w l us As cs) :
  Calls Tryz.prog 53 #[.agg #[.int .i64 k,.int .i64 st,.string ld,.slice As l.length cs]] w (zbn (zgp hk l) (fun v w'=>∃ g,v = .slice (some ⟨g,0,none⟩) l.length l.length∧w.heap.size≤g∧zam w' g 0 l.length (txs (toE hk l))) w):=by
 have hmf:∀ (fn:Fn) (first cap:Array Value) (w:World),(Instr.makeFunc fn first cap).run Tryz.prog w = .ok (.func fn first cap) w:=fun _ _ _ _=>rfl;have hof:=fun w'=>zln k w';have hfin:=fun(gc:Nat) (w':World) (hg:w.grownBy w' none) (hcal:zca w' gc k)=>zxQ hk l us As cs gc w' hok (hst.grown hg) hcal;have hsteps:=fun(w':World) (hg:w.grownBy w' none)=>zqv hk l us As cs k st ld w' hok (hst.grown hg)
 have hsolve:=fun(av bv:Value) (w':World) (ha:MatV w' av l.length l.length (arcM hk l)) (hb:MatV w' bv l.length 1 (fun i _=>finM hk l i)) (hf:zfL hk l)=>zhO hk 1 (Nat.le_refl _) l.length l.length (arcM hk l) (fun x _=>finM hk l x) av bv w' (Nat.le_refl _) (by have:=hok.n60;omega)
  ⟨ha,hb,fun i hi j _=>ztq hk hf hi j,fun i hi j _=>zDI hk (hok.fins i hi)⟩
 have hcol:=fun(v:Value) (w':World) (hv:MatV w' v l.length 1 (solveF (srE k hk) l.length l.length (arcM hk l) (fun x _=>finM hk l x))) =>
  (show Calls Tryz.prog 96 #[v] w' (fun e w2=>∃ u,e = .returned u∧u = .slice (some ⟨w'.heap.size,0,none⟩) l.length l.length∧zam w2 w'.heap.size 0 l.length (fun i => .string (tx (solveF (srE k hk) l.length l.length (arcM hk l) (fun x _=>finM hk l x) i 0)))∧w'.grownBy w2 none) from by
   obtain⟨rs,h1,h2⟩:=hv;exact znV l.length 1 rs (fun i=>txs (solveF (srE k hk) l.length l.length (arcM hk l) (fun x _=>finM hk l x) i)) _ v w' (by have:=hok.n60;omega) (by omega) h1 (fun i hi=>(h2 i hi).row) (fun i hi=>rfl))
 have hval:∀ i,i<l.length→solveF (srE k hk) l.length l.length (arcM hk l) (fun x _=>finM hk l x) i 0=toE hk l i:=fun i hi=>zdO _ _ _ _ _ (Nat.le_refl _) i 0 hi;have HO:=zHd hof;have HF:=zHd hfin;have HT:=zHd hsteps;have HS:=zHd hsolve;have HC:=zHd hcol;have HV:=zHd hval;have HN:=zHd hok.n60;have hal:=zGA w (.cells #[.int .i64 k,.int .i64 st,.string ld,.slice As l.length cs] 31) none;obtain⟨x0,x1,x2,x3⟩:=MBox.new w k st ld As l.length cs;have HW:=zHd hal;clear hof hfin hsteps hsolve hcol hval hok hst hal;unfold calV at *;go_enter Tryz.func53,Tryz.ntmps53;go_wp2_with fail;refine(HO.out _).mono ?_;rintro e w1 ⟨rfl,hg1⟩;have hal:=zGA w1 (.cells #[.int .i64 k,.string (zaf k),.string (oneT k)] 64) none;have hg2:=zaa hg1 hal;have y0:=hg2.cell x0 (by simp);have y1:=hg2.cell x1 (by simp);have y2:=hg2.cell x2 (by simp);have y3:=hg2.cell x3 (by simp);have xc:zca (w1.alloc (.cells #[.int .i64 k,.string (zaf k),.string (oneT k)] 64)) w1.heap.size k:=⟨zak w1 _ _ rfl,zak w1 _ _ rfl,zak w1 _ _ rfl⟩;have HG2:=zHd (zaa HW.out hg2);have HXC:=zHd xc;clear x0 x1 x2 x3 hg1 hal hg2 xc HO HW;go_wp2_with fail;refine(HF.out w1.heap.size _ HG2.out HXC.out).mono ?_;rintro e w3 ⟨zs,rfl,hzs,hg3⟩;have z0:=hg3.cell y0 (by simp);have z1:=hg3.cell y1 (by simp);have z2:=hg3.cell y2 (by simp);have z3:=hg3.cell y3 (by simp);obtain⟨c0,c1,c2⟩:=HXC.out.grown hg3;have hfm:=hzs.mat (F:=fun i _=>finM hk l i) (by have:=HN.out;omega);rw[show(w1.alloc (.cells #[.int .i64 k,.string (zaf k),.string (oneT k)] 64)).heap.size=w1.heap.size+1 by simp] at hfm;have HG3:=zHd (zaa HG2.out hg3);have HFM:=zHd hfm;clear y0 y1 y2 y3 hzs hfm hg3 HXC HF;have S3:(fun W':World=>W'.cell? ⟨w1.heap.size,0,none⟩=some (.int .i64 k)∧W'.cell? ⟨w1.heap.size,1,none⟩=some (.string (zaf k))∧W'.cell? ⟨w1.heap.size,2,none⟩=some (.string (oneT k))∧W'.cell? ⟨w.heap.size,0,none⟩=some (.int .i64 k)∧W'.cell? ⟨w.heap.size,1,none⟩=some (.int .i64 st)∧W'.cell? ⟨w.heap.size,2,none⟩=some (.string ld)∧W'.cell? ⟨w.heap.size,3,none⟩=some (.slice As l.length cs)) w3.drew:=⟨c0,c1,c2,z0,z1,z2,z3⟩;have HGD:=zHd (zaa HG3.out (zae w3 none));clear c0 c1 c2 z0 z1 z2 z3;go_upto_region 3 with(fail)
 go_region_held2 (fun W'=>W'.cell? ⟨w1.heap.size,0,none⟩=some (.int .i64 k)∧W'.cell? ⟨w1.heap.size,1,none⟩=some (.string (zaf k))∧W'.cell? ⟨w1.heap.size,2,none⟩=some (.string (oneT k))∧W'.cell? ⟨w.heap.size,0,none⟩=some (.int .i64 k)∧W'.cell? ⟨w.heap.size,1,none⟩=some (.int .i64 st)∧W'.cell? ⟨w.heap.size,2,none⟩=some (.string ld)∧W'.cell? ⟨w.heap.size,3,none⟩=some (.slice As l.length cs)) (first|exact S3|exact S5|exact S6|exact S7|go_keep)
  (first
  | (go_at_call 97;refine(HT.out _ HGD.out).mono ?_;rintro e w5 (⟨hp,v5,rfl,hm5,hg5⟩|⟨hn,rfl,hg5⟩);rotate_left 1;(exact⟨rfl,.inr ⟨fun h=>hn h.1,rfl,zaa HGD.out hg5⟩⟩);obtain⟨A5,e5,rfl⟩:=hm5.shape;have S5:(fun W':World=>W'.cell? ⟨w1.heap.size,0,none⟩=some (.int .i64 k)∧W'.cell? ⟨w1.heap.size,1,none⟩=some (.string (zaf k))∧W'.cell? ⟨w1.heap.size,2,none⟩=some (.string (oneT k))∧W'.cell? ⟨w.heap.size,0,none⟩=some (.int .i64 k)∧W'.cell? ⟨w.heap.size,1,none⟩=some (.int .i64 st)∧W'.cell? ⟨w.heap.size,2,none⟩=some (.string ld)∧W'.cell? ⟨w.heap.size,3,none⟩=some (.slice As l.length cs)) w5:=⟨hg5.cell S3.1 (by simp),hg5.cell S3.2.1 (by simp),hg5.cell S3.2.2.1 (by simp),hg5.cell S3.2.2.2.1 (by simp),hg5.cell S3.2.2.2.2.1 (by simp),hg5.cell S3.2.2.2.2.2.1 (by simp),hg5.cell S3.2.2.2.2.2.2 (by simp)⟩;have H5:=zHd (zAI hp (zAI hm5 hg5));clear hp hm5 hg5)
  | (go_at_call 43;refine(HS.out _ _ w5 H5.out.2.1 ((HFM.out.grown (zae w3 none)).grown H5.out.2.2) H5.out.1).mono ?_;rintro e w6 (⟨hp,v6,rfl,hm6,hg6⟩|⟨hn,rfl,hg6⟩);rotate_left 1;(exact⟨rfl,.inr ⟨fun h=>hn h.2,rfl,zaa (zaa HGD.out H5.out.2.2) hg6⟩⟩);obtain⟨A6,e6,rfl⟩:=hm6.shape;have S6:(fun W':World=>W'.cell? ⟨w1.heap.size,0,none⟩=some (.int .i64 k)∧W'.cell? ⟨w1.heap.size,1,none⟩=some (.string (zaf k))∧W'.cell? ⟨w1.heap.size,2,none⟩=some (.string (oneT k))∧W'.cell? ⟨w.heap.size,0,none⟩=some (.int .i64 k)∧W'.cell? ⟨w.heap.size,1,none⟩=some (.int .i64 st)∧W'.cell? ⟨w.heap.size,2,none⟩=some (.string ld)∧W'.cell? ⟨w.heap.size,3,none⟩=some (.slice As l.length cs)) w6:=⟨hg6.cell S5.1 (by simp),hg6.cell S5.2.1 (by simp),hg6.cell S5.2.2.1 (by simp),hg6.cell S5.2.2.2.1 (by simp),hg6.cell S5.2.2.2.2.1 (by simp),hg6.cell S5.2.2.2.2.2.1 (by simp),hg6.cell S5.2.2.2.2.2.2 (by simp)⟩;have H6:=zHd (zAI hp (zAI hm6 hg6));clear hp hm6 hg6)
  | (go_at_call 96;refine(HC.out _ w6 H6.out.2.1).mono ?_;rintro e w7 ⟨u7,rfl,rfl,hr7,hg7⟩;have S7:(fun W':World=>W'.cell? ⟨w1.heap.size,0,none⟩=some (.int .i64 k)∧W'.cell? ⟨w1.heap.size,1,none⟩=some (.string (zaf k))∧W'.cell? ⟨w1.heap.size,2,none⟩=some (.string (oneT k))∧W'.cell? ⟨w.heap.size,0,none⟩=some (.int .i64 k)∧W'.cell? ⟨w.heap.size,1,none⟩=some (.int .i64 st)∧W'.cell? ⟨w.heap.size,2,none⟩=some (.string ld)∧W'.cell? ⟨w.heap.size,3,none⟩=some (.slice As l.length cs)) w7:=⟨hg7.cell S6.1 (by simp),hg7.cell S6.2.1 (by simp),hg7.cell S6.2.2.1 (by simp),hg7.cell S6.2.2.2.1 (by simp),hg7.cell S6.2.2.2.2.1 (by simp),hg7.cell S6.2.2.2.2.2.1 (by simp),hg7.cell S6.2.2.2.2.2.2 (by simp)⟩;have H7:=zHd (zAI hr7 hg7);clear hr7 hg7))
 all_goals
  go_wp2;go_ret;refine .inl ⟨⟨H5.out.1,H6.out.1⟩,_,rfl,⟨w6.heap.size,rfl,?_,H7.out.1.1,fun j hj=>(H7.out.1.2 j hj).trans ?_⟩,zaa (zaa (zaa HGD.out H5.out.2.2) H6.out.2.2) H7.out.2⟩
  ·have h1:=HGD.out.size
   have h2:=H5.out.2.2.size;have h3:=H6.out.2.2.size
   omega
  ·unfold txs
   rw[← HV.out j hj]
end
open Go.RowKit
def zdb (m:Mach)(k j x:Nat):List Nat:=(List.range k).flatMap (fun i=>(zaF m i).filterMap (fun t=>if t=x then some i else none))++((zaF m k).take j).filterMap (fun t=>if t=x then some k else none)
def zcU (m:Mach)(n k j:Nat):List (List Nat):=(List.range n).map (zdb m k j)
theorem zkI (m:Mach)(n k j:Nat):(zcU m n k j).length=n:=by simp[zcU]
theorem zkJ {m:Mach}{n k j x:Nat}(h:x<n):(zcU m n k j)[x]? = some (zdb m k j x):=by unfold zcU;rw[List.getElem?_map,List.getElem?_range h];rfl
theorem zxR {m:Mach}{k j y:Nat}(h:(zaF m k)[j]? = some y)(x:Nat):zdb m k (j+1) x=if x=y then zdb m k j x++[k] else zdb m k j x:=by
 unfold zdb;rw[zcI h,List.filterMap_append]
 by_cases e:x=y
 ·subst e
  rw[if_pos rfl,List.append_assoc]
  congr 2
  simp
 ·rw[if_neg e]
  congr 1
  have:([y].filterMap (fun t=>if t=x then some k else none))=[]:=by simp[Ne.symm e]
  rw[this,List.append_nil]
theorem zxS {m:Mach}{n k j y:Nat}(h:(zaF m k)[j]? = some y)(hy:y<n):(zcU m n k j).set y (zdb m k j y++[k])=zcU m n k (j+1):=by
 apply List.ext_getElem?
 intro i
 by_cases hi:i<n
 ·rw[zkJ hi,zxR h]
  by_cases e:i=y
  ·subst e
   rw[List.getElem?_set_self (by rw[zkI];exact hi),if_pos rfl]
  ·rw[List.getElem?_set_ne (Ne.symm e),zkJ hi,if_neg e]
 ·rw[List.getElem?_eq_none (by rw[List.length_set,zkI];omega),List.getElem?_eq_none (by rw[zkI];omega)]
theorem zxT (m:Mach)(k x:Nat){j:Nat}(h:(zaF m k).length≤j):zdb m k j x=zdb m (k+1) 0 x:=by
 unfold zdb;rw[List.take_of_length_le h,List.range_succ,List.flatMap_append,List.take_zero];simp
theorem zxU (m:Mach)(n k:Nat){j:Nat}(h:(zaF m k).length≤j):zcU m n k j=zcU m n (k+1) 0:=by
 unfold zcU
 apply List.map_congr_left
 intro x _;exact zxT m k x h
theorem zqz (m:Mach)(x:Nat):zdb m m.states.length 0 x=zaQ m x:=by unfold zdb zaQ;simp
theorem zuN (m:Mach)(n:Nat):zcU m n 0 0=List.replicate n []:=by
 unfold zcU
 apply List.ext_getElem?
 intro i;rw[List.getElem?_map,List.getElem?_replicate]
 by_cases hi:i<n
 ·rw[List.getElem?_range hi,if_pos hi];simp[zdb]
 ·rw[List.getElem?_eq_none (by rw[List.length_range];omega),if_neg hi];rfl
structure zdI (W:World)(C r n:Nat)(vals:List Value)(rows:List (List Nat)):Prop where
 row:W.heap[r]? = some (.cells vals.toArray 51 (0,0))
 vl:vals.length=n
 rl:rows.length=n
 own:∀ (k:Nat) (v:Value) (q:List Nat),vals[k]? = some v→rows[k]? = some q→W.ownsRow C 3 1 v q.length (nvL q)
 dis:∀ (i j:Nat) (v v':Value),i≠j→vals[i]? = some v→vals[j]? = some v'→v.ownBlock=none∨v.ownBlock≠v'.ownBlock
 hr:r<C
 hC:C≤W.heap.size
theorem zdI.next {W W':World}{C r n:Nat}{vals:List Value}{rows:List (List Nat)}(h:zdI W C r n vals rows)(hg:W.grownBy W' none):zdI W' C r n vals rows :=
 ⟨(hg.block r (by have:=h.hr;have:=h.hC;omega) (by simp)).trans h.row,h.vl,h.rl,fun k v q hv hq=>(h.own k v q hv hq).kept hg (by cases e:v.ownBlock <;> simp),h.dis,h.hr,by have:=hg.size;have:=h.hC;omega⟩
theorem zdI.at_ {W:World}{C r n:Nat}{vals:List Value}{rows:List (List Nat)}(h:zdI W C r n vals rows){y:Nat}(hy:y<n):∃ v q,vals[y]? = some v∧rows[y]? = some q∧W.cell? ⟨r,y,none⟩=some v∧W.frozen? ⟨r,y,none⟩=false∧W.ownsRow C 3 1 v q.length (nvL q):=by
 have h1:vals[y]? = some (vals[y]'(by rw[h.vl];exact hy)):=List.getElem?_eq_getElem (by rw[h.vl];exact hy);have h2:rows[y]? = some (rows[y]'(by rw[h.rl];exact hy)):=List.getElem?_eq_getElem (by rw[h.rl];exact hy);refine⟨_,_,h1,h2,?_,frozen_of_row W r y _ _ h.row,h.own y _ _ h1 h2⟩;rw[cell_of_row W r y _ _ (0,0) h.row,List.getElem?_toArray];exact h1
theorem zdI.push {W w1:World}{C r n y i g c:Nat}{vals:List Value}{rows:List (List Nat)}{v:Value}{q:List Nat}(h:zdI W C r n vals rows)(hv:vals[y]? = some v)(hq:rows[y]? = some q)
  (hown:w1.ownsRow C 3 1 (.slice (some ⟨g,0,none⟩) (q.length+1) c) (q.length+1) (nvL q++[.int .i64 (i:Int)])) (hg:W.grownBy w1 v.ownBlock) (hat:v.ownBlock=some g∨g=W.heap.size) :
  zdI (w1.setCell ⟨r,y,none⟩ (.slice (some ⟨g,0,none⟩) (q.length+1) c)) C r n (vals.set y (.slice (some ⟨g,0,none⟩) (q.length+1) c)) (rows.set y (q++[i])):=by
 have hyl:y<n:=by have:=(List.getElem?_eq_some_iff.1 hv).1;rw[h.vl] at this;exact this
 have hvo:=(h.own y v q hv hq).lt;have hr:=h.hr;have hC:=h.hC;have h1:w1.heap[r]? = some (.cells vals.toArray 51 (0,0)):=(hg.block r (by omega) (fun e=>by have:=(hvo r e.symm).1;omega)).trans h.row;have gs:=zac w1 ⟨r,y,none⟩ (.slice (some ⟨g,0,none⟩) (q.length+1) c)
 have hgC:C≤g:=by
  have:=(hown.lt g rfl).1;exact this
 refine⟨?_,by rw[List.length_set];exact h.vl,by rw[List.length_set];exact h.rl,fun k u p hu hp => ?_,fun a b u u' hne hu hu' => ?_,hr,by have:=hg.size;simp;omega⟩
 ·rw[heap_setCell_same w1 r y _ _ _ h1];simp
 ·by_cases e:k=y
  ·subst e
   rw[List.getElem?_set_self (by rw[h.vl];exact hyl)] at hu;rw[List.getElem?_set_self (by rw[h.rl];exact hyl)] at hp;cases hu;cases hp;have hh:=hown.kept gs (.inr (by show some g≠some r;intro e;cases e;omega));rw[List.length_append,List.length_singleton];unfold nvL;rw[List.map_append];exact hh
  ·rw[List.getElem?_set_ne (Ne.symm e)] at hu hp
   have ho:=h.own k u p hu hp
   have h2:w1.ownsRow C 3 1 u p.length (nvL p):=ho.kept hg (by
    rcases h.dis k y u v e hu hv with h|h
    ·exact .inl h
    ·exact .inr h)
   exact h2.kept gs (by
    cases eb:u.ownBlock with
    | none=>exact .inl rfl
    | some b=>exact .inr (by have:=(ho.lt b eb).1;show some b≠some r;intro e;cases e;omega))
 ·have hlt:∀ (k:Nat) (z:Value),vals[k]? = some z→z.ownBlock≠some W.heap.size:=fun k z hz e=>by
   obtain⟨p,hp⟩:∃ p,rows[k]? = some p:=⟨_,List.getElem?_eq_getElem (by have:=(List.getElem?_eq_some_iff.1 hz).1;rw[h.rl,← h.vl];exact this)⟩;have:=((h.own k z p hz hp).lt _ e).2
   omega
  by_cases ea:a=y
  ·subst ea
   rw[List.getElem?_set_self (by rw[h.vl];exact hyl)] at hu;rw[List.getElem?_set_ne hne] at hu';cases hu
   right
   show some g≠u'.ownBlock;rcases hat with e|e
   ·intro e2
    rcases h.dis a b v u' hne hv hu' with h3|h3
    ·rw[e] at h3;cases h3
    ·exact h3 (e.trans e2)
   ·intro e2;exact hlt b u' hu' (by rw[← e2,e])
  ·rw[List.getElem?_set_ne (Ne.symm ea)] at hu
   by_cases eb:b=y
   ·subst eb
    rw[List.getElem?_set_self (by rw[h.vl];exact hyl)] at hu';cases hu';show u.ownBlock=none∨u.ownBlock≠some g;rcases hat with e|e
    ·rcases h.dis a b u v hne hu hv with h3|h3
     ·exact .inl h3
     ·exact .inr (by rw[← e];exact h3)
    ·exact .inr (by rw[e];exact hlt a u hu)
   ·rw[List.getElem?_set_ne (Ne.symm eb)] at hu'
    exact h.dis a b u u' hne hu hu'
theorem zdI.start {W:World}{B g n:Nat}{l:List Value}(hc:W.heap[g]? = some (.cells (List.replicate n (Value.slice none 0 0)).toArray 51 (0,0))):zdI W W.heap.size g n (List.replicate n (.slice none 0 0)) (List.replicate n []):=by
 refine⟨hc,by simp,by simp,fun k v q hv hq => ?_,fun i j v v' _ hv _ => ?_,lt_of_block hc,Nat.le_refl _⟩
 ·rw[List.getElem?_replicate] at hv hq
  split at hv
  ·cases hv
   rw[if_pos (by assumption)] at hq;cases hq;exact World.ownsRow_nil _ _ _ _
  ·cases hv
 ·rw[List.getElem?_replicate] at hv
  split at hv
  ·cases hv;exact .inl rfl
  ·cases hv
theorem zqA:(Tryz.prog.info? 3).map (fun i=>(i.zero,i.size,i.bytes))=some (some (.int .i64 0),1,8):=by kernel_rfl
theorem zBa:(Tryz.prog.info? 51).map (fun i=>(i.zero,i.size,i.bytes))=some (some (.slice none 0 0),1,24):=by kernel_rfl
open Go.RowKit
theorem zuO:Enters 219:=enters_of Tryz.func219 (by kernel_rfl) rfl
structure zix (w0:World)(p n:Nat)(f:Nat→List Nat):Prop where
 ex:∃ r,w0.heap[p]? = some (.cells #[.slice (some ⟨r,0,none⟩) n n] 82 (0,0))∧r<w0.heap.size∧∀ x,x<n→∃ v,w0.cell? ⟨r,x,none⟩=some v∧NSl w0 v (f x)
theorem zxV {w:World}{B n:Nat}{v:Value}{xs:List Value}(h:w.ownsRow B 3 1 v n xs):∃ A cap,v = .slice A n cap∧Reads w w.heap.size 1 A n xs:=zkH h
theorem zix.of {W:World}{C r p n:Nat}{vals:List Value}{f:Nat→List Nat}(h:zdI W C r n vals ((List.range n).map f))(hp:W.heap[p]? = some (.cells #[.slice (some ⟨r,0,none⟩) n n] 82 (0,0))):zix W p n f:=by
 refine⟨r,hp,by have:=h.hr;have:=h.hC;omega,fun x hx => ?_⟩;obtain⟨v,q,h1,h2,h3,_,h5⟩:=h.at_ hx;rw[List.getElem?_map,List.getElem?_range hx] at h2;simp at h2;subst h2;obtain⟨A,cap,hv,hr⟩:=zxV h5;exact⟨v,h3,A,cap,hv,hr⟩
theorem zxW {w0:World}{p:Nat}{m:Mach}(hbk:zix w0 p m.states.length (zaQ m))(hm:Small m)(hlen:∀ x,(zaQ m x).length≤1000000000):Steps w0 219 p m.states.length (zaQ m):=by
 intro W B C s r t x o v hB0 hBB hmem hx hnd hlt;obtain⟨rb,hp,hrb,hrow⟩:=hbk;obtain⟨vx,hcx,hns⟩:=hrow x hx;obtain⟨x0,_⟩:=one_cell ((hB0.block p (lt_of_block hp)).trans hp);have y0:=(hB0.cell (p:=⟨rb,x,none⟩) hrb).trans hcx;obtain⟨A,cap,rfl,hr⟩:=hns;have n1:(0:Int)≤(x:Int):=by omega
 have n2:(x:Int)<(m.states.length:Int):=by omega
 have hln:=hlen x;have hn3:=hm.n;have HMEM:=zHd hmem;have HR:=zHd hr;have HB0:=zHd hB0;have HND:=zHd hnd;have HLT:=zHd hlt;clear hp hrb hrow hcx hmem hr hm hnd hlt hB0 hlen;go_enter Tryz.func219,Tryz.ntmps219;go_wp2;clear x0 y0
 go_loopw [12] (fun i wr=>∃ (j:Nat) (v:Value),i = .int .i64 j∧j≤(zaQ m x).length∧SMem wr B C s r t m.states.length (((zaQ m x).take j).foldl zaJ o) v∧Below B W wr) (fun i _=>(zaQ m x).length - (intOf i).toNat)
 case atStart=>exact⟨0,v,rfl,by omega,HMEM.out,Below.refl _ _⟩
 case round =>
  obtain⟨j,v',rfl,hj,hmem,hb⟩:=hrel;have HMEM2:=zHd hmem;have HB:=zHd hb;have hB1:Below w0.heap.size w0 wr:=HB0.out.trans (hb.mono hBB);clear hmem hb
  by_cases hjl:j<(zaQ m x).length
  ·obtain⟨ad,y,hA,hst,hc⟩:=zgn ((HR.out.below hB1).more hB1.size) hjl
   subst hA;have hyn:y<m.states.length:=zfs x y (List.mem_of_getElem? hst)
   have htk:((zaQ m x).take (j+1)).foldl zaJ o=zaJ (((zaQ m x).take j).foldl zaJ o) y:=by
    rw[zcI hst,zjo]
   have hlen:(((zaQ m x).take j).foldl zaJ o).length≤1000000:=by
    have:=short_list (zbJ (l:=(zaQ m x).take j) HND.out) (zcA (l:=(zaQ m x).take j) HLT.out (fun z hz=>zfs x z (List.mem_of_mem_take hz)))
    omega
   have n3:(j:Int)<((zaQ m x).length:Int):=by omega
   have n4:IntKind.i64.wrap ((j:Int)+1)=(j:Int)+1:=by rw[IntKind.wrap_i64];omega
   have HTK:=zHd htk;have HRR:=zHd (zkF HMEM2.out hyn hlen);clear hst htk hB1;go_wp2_with fail;refine HRR.out.mono ?_;rintro e w5 ⟨rfl,⟨v5,hm5⟩,hb5⟩;have HM5:=zHd hm5;have HB5:=zHd (HB.out.trans hb5);clear hm5 hb5 hc;go_wp2
   go_roundw
   case rel=>exact⟨j+1,v5,by go_num,by omega,by rw[HTK.out];exact HM5.out,HB5.out⟩
   case measure=>simp[intOf];omega
  ·have n3:¬ (j:Int)<((zaQ m x).length:Int):=by omega
   have e:(zaQ m x).take j=zaQ m x:=List.take_of_length_le (by omega);rw[e] at HMEM2;clear hB1;go_wp2
   go_end0
   exact⟨rfl,⟨v',HMEM2.out⟩,HB.out⟩
def zDR (m:Mach)(w:World)(e:Ending)(w':World):Prop:=∃ p,e = .returned (.func (.func 219) #[] #[.pointer (some ⟨p,0,none⟩)])∧zix w' p m.states.length (zaQ m)∧w.grownBy w' none
theorem ztx {w:World}{B g n:Nat}{e:TypeId}{l:List Value}(h:w.ownsRow B e 1 (.slice (some ⟨g,0,none⟩) n n) n l):w.heap[g]? = some (.cells l.toArray e (0,0)):=by
 rcases h.2 with⟨h',_⟩|⟨g',cap',cur,h',hb,hg,_,_,hs,ht⟩
 ·simp at h'
 ·simp only[Value.slice.injEq,Option.some.injEq,Addr.mk.injEq,and_true,true_and] at h'
  obtain⟨rfl,rfl⟩:=h';rw[List.take_of_length_le (by rw[Array.length_toList,hs];exact Nat.le_refl _)] at ht;subst ht;rw[hg]
theorem zcl {W3 w1:World}{ob:Obj}{v:Value}{a:Addr}{x:Value}(h:W3.cell? a=some x)(hg:((W3.alloc ob).drew).grownBy w1 v.ownBlock)(hne:some a.block≠v.ownBlock):w1.cell? a=some x :=
 hg.cell (show(W3.alloc ob).cell? a=some x from(zGA W3 ob none).cell h (by simp)) hne
theorem zqB {W3 w1:World}{ob:Obj}{v:Value}{a:Addr}(hlt:a.block<W3.heap.size)(h:W3.frozen? a=false)(hg:((W3.alloc ob).drew).grownBy w1 v.ownBlock)(hne:some a.block≠v.ownBlock):w1.frozen? a=false :=
 (World.frozen?_of_block ((hg.block a.block (by show a.block<(W3.alloc ob).heap.size;simp;omega) hne).trans ((zGA W3 ob none).block a.block hlt (by simp)))).trans h
theorem zdw {W3:World}{ob:Obj}{a:Addr}{x:Value}(h:W3.cell? a=some x):((W3.alloc ob).drew).cell? a=some x:=(zGA W3 ob none).cell h (by simp)
theorem zty {m:Mach}(hm:Small m):∀ k j x,(zdb m k j x).length≤(k+1) * 30000:=by
 have hs:∀ i,(zaF m i).length≤30000:=fun i=>by
  unfold zaF
  split
  ·rename_i s h
   rw[List.length_map];exact hm.a s (List.mem_of_getElem? h)
  ·simp
 intro k j x;unfold zdb;rw[List.length_append]
 have h1:((List.range k).flatMap (fun i=>(zaF m i).filterMap (fun t=>if t=x then some i else none))).length≤k * 30000:=by
  induction k with
  | zero=>simp
  | succ k ih =>
   rw[List.range_succ,List.flatMap_append,List.length_append];have:=List.length_filterMap_le (fun t=>if t=x then some k else none) (zaF m k);have:=hs k;simp only[List.flatMap_cons,List.flatMap_nil,List.append_nil]
   omega
 have h2:=List.length_filterMap_le (fun t=>if t=x then some k else none) ((zaF m k).take j);have h3:=hs k;rw[List.length_take] at h2
 omega
theorem zmz {w:World}{v:Value}{m:Mach}(hv:zcr w v m)(hm:Small m):Calls Tryz.prog 184 #[v] w (zDR m w):=by
 obtain⟨i0,hi,hz0,hz1,hz2⟩:=zci zBa;obtain⟨i1,hj,hy0,hy1,hy2⟩:=zci zqA;obtain⟨u,rfl,hst0⟩:=hv;obtain⟨A,cap,us,rfl,hS0⟩:=StAt.of hst0;have hg:w.grownBy (w.alloc (.cells #[.int .i64 m.kind,.int .i64 m.start,.string m.lead,.slice A m.states.length cap] 31)) none:=zGA _ _ _;have hbx:=zao.new w m (.slice A m.states.length cap);have HS:=zHd hS0;have HBX:=zHd hbx;have HG:=zHd hg;have HM:=zHd hm;have hn3:=hm.n;obtain⟨x0,x1,x2,x3⟩:=hbx.cells;clear hbx hg hst0 hS0 hm;go_enter Tryz.func184,Tryz.ntmps184;go_wp2_with (at_make;refine wpList_make_full _ rfl _ _ 82 rfl (w.heap.size+1) 51 i0 (.slice none 0 0) 1 Tryz.underlying82 hi hz0 hz1 _ _ _ _ m.states.length rfl rfl rfl rfl (by rw[hz2];omega) (by unfold maxLen;omega) (by simp) ?_);intro w1 hown hgr;have hrow:=ztx hown;rw[toList_madeCells_one] at hrow;have hga:=zGA w1 (.cells #[.slice (some ⟨w.heap.size+1,0,none⟩) m.states.length m.states.length] 82) none
 have hpv:(w1.alloc (.cells #[.slice (some ⟨w.heap.size+1,0,none⟩) m.states.length m.states.length] 82)).heap[w1.heap.size]? = some (.cells #[.slice (some ⟨w.heap.size+1,0,none⟩) m.states.length m.states.length] 82 (0,0)):=by
  show(w1.heap.push _)[w1.heap.size]? = _;rw[Array.getElem?_push_size]
 have hr1:=zdI.start (B:=0) (l:=[]) ((hga.block _ (lt_of_block hrow) (by simp)).trans hrow);have hbx1:=(HBX.out.grown hgr).grown hga;obtain⟨y0,y1,y2,y3⟩:=hbx1.cells;have HG1:=zHd (zaa HG.out (zaa hgr hga));have hsz:(w1.alloc (.cells #[.slice (some ⟨w.heap.size+1,0,none⟩) m.states.length m.states.length] 82)).heap.size=w1.heap.size+1:=by simp
 rw[hsz] at hr1;rw[← zuN m] at hr1;have HPV:=zHd hpv;have HR1:=zHd hr1;have hlt1:w.heap.size+1<w1.heap.size:=lt_of_block hrow;clear hown hgr hrow hga hpv hr1 hbx1 hsz x0 x1 x2 x3;go_wp2;generalize hW:w1.alloc (.cells #[.slice (some ⟨w.heap.size+1,0,none⟩) m.states.length m.states.length] 82)=W at *;clear hW y0 y1 y2 y3
 go_loopw [15] (fun i wr=>∃ (k:Nat) (vals:List Value),i = .int .i64 k∧k≤m.states.length∧zdI wr (w1.heap.size+1) (w.heap.size+1) m.states.length vals (zcU m m.states.length k 0) ∧
  wr.heap[w1.heap.size]? = some (.cells #[.slice (some ⟨w.heap.size+1,0,none⟩) m.states.length m.states.length] 82 (0,0))∧Below w.heap.size w wr) (fun i _=>m.states.length - (intOf i).toNat)
 case atStart=>exact⟨0,_,rfl,by omega,HR1.out,HPV.out,zaO HG1.out⟩
 case round =>
  obtain⟨k,vals,rfl,hk,hrows,hpv,hb⟩:=hrel;have HROWS:=zHd hrows;have HPV2:=zHd hpv;have HB:=zHd hb;clear hrows hpv hb
  by_cases hlt:k<m.states.length
  ·obtain⟨ad,s,Br,cb,hA,hs,hu,hc,hra⟩:=(HS.out.below HB.out).at_ hlt
   subst hA;obtain⟨z0,z1⟩:=hc;have hal:=HM.out.a s (List.mem_of_getElem? hs);have n1:(k:Int)<(m.states.length:Int):=by omega
   have n2:IntKind.i64.wrap ((k:Int)+1)=(k:Int)+1:=by rw[IntKind.wrap_i64];omega
   have hga:=zGA wr (.cells #[.string s.fin,.slice Br s.arcs.length cb] 57) none;have HSS:=zHd hs;have HU:=zHd hu;have HR2:=zHd (HROWS.out.next hga);have HP2:=zHd ((hga.block _ (lt_of_block HPV2.out) (by simp)).trans HPV2.out);have HB2:=zHd (zaI HB.out |> fun h=>zaO (zaa h hga));clear hs hu hra hga;go_wp2;generalize hW2:wr.alloc (.cells #[.string s.fin,.slice Br s.arcs.length cb] 57)=W2 at *;clear hW2 z0 z1;generalize wr=w4 at *
   go_loopw [23] (fun i wr=>∃ (j:Nat) (vals:List Value),i = .int .i64 j∧j≤s.arcs.length∧zdI wr (w1.heap.size+1) (w.heap.size+1) m.states.length vals (zcU m m.states.length k j) ∧
    wr.heap[w1.heap.size]? = some (.cells #[.slice (some ⟨w.heap.size+1,0,none⟩) m.states.length m.states.length] 82 (0,0))∧Below w.heap.size w wr) (fun i _=>s.arcs.length - (intOf i).toNat)
   case atStart=>exact⟨0,vals,rfl,by omega,HR2.out,HP2.out,HB2.out⟩
   case round =>
    obtain⟨j,vals2,rfl,hj2,hrows,hpv,hb⟩:=hrel;have HROWS3:=zHd hrows;have HPV3:=zHd hpv;have HB3:=zHd hb;clear hrows hpv hb
    by_cases hjl:j<s.arcs.length
    ·obtain⟨ad2,a,hBr,hab,haj,hat⟩:=zit ((HS.out.below HB3.out).arcs_at HSS.out HU.out) hjl
     subst hBr;obtain⟨z0,z1,z2,z3⟩:=hat;have harc:=HM.out.wf.arcs s (List.mem_of_getElem? HSS.out) a (List.mem_of_getElem? haj);obtain⟨y,hy⟩:∃ y:Nat,a.t=(y:Int):=⟨a.t.toNat,by omega⟩;have hyn:y<m.states.length:=by omega
     have hst:(zaF m k)[j]? = some y:=by rw[zhK HSS.out,List.getElem?_map,haj];simp[hy]
     have hnx:=zxS hst hyn;rw[hy] at z3;have n3:(j:Int)<(s.arcs.length:Int):=by omega
     have n4:IntKind.i64.wrap ((j:Int)+1)=(j:Int)+1:=by rw[IntKind.wrap_i64];omega
     have n5:(0:Int)≤(y:Int):=by omega
     have n6:(y:Int)<(m.states.length:Int):=by omega
     have hga:=zGA wr (.cells #[.int .i64 a.i,.int .i64 a.o,.string a.w,.int .i64 (y:Int)] 59) none;have hr4:=HROWS3.out.next hga;obtain⟨vy,q,hvy,hq,c3,f3,hown⟩:=hr4.at_ hyn;have hqe:q=zdb m k j y:=by rw[zkJ hyn] at hq;exact(Option.some.inj hq).symm
     have hql:q.length≤3001 * 30000:=by rw[hqe];exact Nat.le_trans (zty HM.out k j y) (Nat.mul_le_mul_right _ (by omega))
     have hownr:=HROWS3.out.own y vy q hvy hq;obtain⟨c1,_⟩:=one_cell ((hga.block _ (lt_of_block HPV3.out) (by simp)).trans HPV3.out);have HNX:=zHd (by rw[hqe];exact hnx:(zcU m m.states.length k j).set y (q++[k])=zcU m m.states.length k (j+1));have HB4:=zHd (zaO (zaa (zaI HB3.out) hga));have HR4:=zHd hr4;have HVY:=zHd hvy;have HQ:=zHd hq;have HOWN:=zHd hown;have N1:some w1.heap.size≠vy.ownBlock:=fun e=>by have:=(hown.lt _ e.symm).1;omega
     have N2:some wr.heap.size≠vy.ownBlock:=fun e=>by have:=(hownr.lt _ e.symm).2;omega
     have N3:some (w.heap.size+1)≠vy.ownBlock:=fun e=>by have:=(hown.lt _ e.symm).1;omega
     have hlt3:=HROWS3.out.hC;have HPV4:=zHd ((hga.block _ (lt_of_block HPV3.out) (by simp)).trans HPV3.out);have HC1:=zHd c1;have HC3:=zHd c3;have HF3:=zHd f3;have HN1:=zHd N1;have HN2:=zHd N2;have HN3:=zHd N3;clear haj harc hy hst hnx hr4 hvy hq hqe hownr hga hown c1 c3 f3 N1 N2 N3;go_upto_region 8 with(fail)
     have c2:=(zvU wr ⟨a.i,a.o,a.w,(y:Int)⟩).c3;simp only[Nat.zero_add] at c2;have hsz4:(wr.alloc (.cells #[.int .i64 a.i,.int .i64 a.o,.string a.w,.int .i64 (y:Int)] 59)).heap.size=wr.heap.size+1:=by simp
     generalize hW3:wr.alloc (.cells #[.int .i64 a.i,.int .i64 a.o,.string a.w,.int .i64 (y:Int)] 59)=W3 at *;clear hW3 z0 z1 z2 z3;have c1:=HC1.out;have c3:=HC3.out;have f3:=HF3.out;have N1:=HN1.out;have N2:=HN2.out;have N3:=HN3.out;have q1:=World.new_ne W3 _ c1;have q2:=World.new_ne W3 _ c2;have q3:=World.new_ne W3 _ c3;have HSZ4:=zHd hsz4;have hle4:w1.heap.size+1≤W3.heap.size:=by omega
     clear hsz4;refine zde (e:=12) (n:=12) (fun W'=>W'.cell? ⟨w1.heap.size,0,none⟩=some (.slice (some ⟨w.heap.size+1,0,none⟩) m.states.length m.states.length)∧W'.cell? ⟨wr.heap.size,3,none⟩=some (.int .i64 (y:Int))∧W'.cell? ⟨w.heap.size+1,y,none⟩=some vy) (by kernel_rfl) (by kernel_rfl) rfl ?_;have hS0:(fun W':World=>W'.cell? ⟨w1.heap.size,0,none⟩=some (.slice (some ⟨w.heap.size+1,0,none⟩) m.states.length m.states.length)∧W'.cell? ⟨wr.heap.size,3,none⟩=some (.int .i64 (y:Int))∧W'.cell? ⟨w.heap.size+1,y,none⟩=some vy) W3.drew:=⟨c1,c2,c3⟩;refine zTk 0 (.slice (some ⟨w.heap.size+1,0,none⟩) m.states.length m.states.length) rfl hS0 ?_
     (try simp only[Act.put,List.setIfInBounds_toArray,List.set_cons_zero,List.set_cons_succ])
     refine zTk 1 (.pointer (some ⟨wr.heap.size,3,none⟩)) rfl hS0 ?_
     (try simp only[Act.put,List.setIfInBounds_toArray,List.set_cons_zero,List.set_cons_succ])
     refine zTk 2 (.int .i64 (y:Int)) rfl hS0 ?_
     (try simp only[Act.put,List.setIfInBounds_toArray,List.set_cons_zero,List.set_cons_succ])
     refine zTk 3 (.slice (some ⟨w.heap.size+1,0,none⟩) m.states.length m.states.length) rfl hS0 ?_
     (try simp only[Act.put,List.setIfInBounds_toArray,List.set_cons_zero,List.set_cons_succ])
     refine zTk 4 (.pointer (some ⟨wr.heap.size,3,none⟩)) rfl hS0 ?_
     (try simp only[Act.put,List.setIfInBounds_toArray,List.set_cons_zero,List.set_cons_succ])
     refine zTk 5 (.int .i64 (y:Int)) rfl hS0 ?_
     (try simp only[Act.put,List.setIfInBounds_toArray,List.set_cons_zero,List.set_cons_succ])
     refine zTk 6 (.pointer (some ⟨w.heap.size+1,y,none⟩)) rfl hS0 ?_
     (try simp only[Act.put,List.setIfInBounds_toArray,List.set_cons_zero,List.set_cons_succ])
     refine zTk 7 (vy) rfl hS0 ?_
     (try simp only[Act.put,List.setIfInBounds_toArray,List.set_cons_zero,List.set_cons_succ])
     refine zTk 8 (.int .i64 (k:Int)) rfl hS0 ?_
     (try simp only[Act.put,List.setIfInBounds_toArray,List.set_cons_zero,List.set_cons_succ])
     refine wpAnyH_ready (rs:=[9]) (by kernel_rfl) (by simp) ?_;refine AllReadyH.cons rfl (fun K hK => ?_) AllReadyH.nil
     go_simp
     refine hK.out _ _ ⟨zdw c1,zdw c2,zdw c3⟩ (fun hHeld => ?_);refine wpAnyH_ready (rs:=[10]) (by kernel_rfl) (by simp) ?_;refine AllReadyH.cons rfl (fun K hK => ?_) AllReadyH.nil;refine step_append_lies _ (by rfl) _ _ _ (by rfl) (w1.heap.size+1) 3 i1 (.int .i64 0) 1 8 Tryz.underlying51 hj hy0 hy1 hy2 rfl (by omega) vy q.length (nvL q) (by rfl) ((HOWN.out.alloc _).drew) ⟨W3.heap.size,0,none⟩ 1 1 [.int .i64 (k:Int)] (by rfl) (by rfl) (World.news_of_block (cs:=#[.int .i64 (k:Int)]) (t:=3) (fr:=(0,0)) (heap_alloc_new W3 _)) (by simp[Value.oneCell']) (by omega) (by unfold maxLen;omega) (by omega) (by simp;omega) (W3.heap.size+1) (by simp) ?_;intro gg cc w6 hown6 hgrow hat hlt6;refine hK.out _ _ ⟨zcl c1 hgrow N1,zcl c2 hgrow N2,zcl c3 hgrow N3⟩ (fun hHeld => ?_);have s4:=zqB (a:=⟨w.heap.size+1,y,none⟩) (by show w.heap.size+1<W3.heap.size;omega) f3 hgrow N3;have s3:=zcl c3 hgrow N3;refine zTk 11 (.pointer (some ⟨w.heap.size+1,y,none⟩)) rfl hHeld ?_
     (try simp only[Act.put,List.setIfInBounds_toArray,List.set_cons_zero,List.set_cons_succ])
     refine wpAnyH_done (by kernel_rfl) ?_ _;refine zeg (by rfl) (fun K hK => ?_)
     go_simp
     refine hK _ _ ?_
     iterate 1
      have hX:W3.grownBy (W3.alloc (.cells #[.int .i64 (k:Int)] 3)).drew none:=zaa (zGA _ _ _) (zae _ _);have hr7:=(HR4.out.next hX).push HVY.out HQ.out hown6 hgrow (by first|exact hat|(simp;exact hat)|simpa using hat);have HR7:=zHd hr7
      have HP7:Hid ((w6.setCell ⟨w.heap.size+1,y,none⟩ (.slice (some ⟨gg,0,none⟩) (q.length+1) cc)).heap[w1.heap.size]? = some (.cells #[.slice (some ⟨w.heap.size+1,0,none⟩) m.states.length m.states.length] 82 (0,0))) :=
       zHd (((zac w6 ⟨w.heap.size+1,y,none⟩ _).block _ (by have:=hgrow.size;have:W3.heap.size≤(W3.alloc (.cells #[.int .i64 (k:Int)] 3)).drew.heap.size:=hX.size;omega) (by simp;omega)).trans ((hgrow.block _ (by have:W3.heap.size≤(W3.alloc (.cells #[.int .i64 (k:Int)] 3)).drew.heap.size:=hX.size;omega) N1).trans ((hX.block _ (by omega) (by simp)).trans HPV4.out)))
      have hb7:Below w.heap.size w (w6.setCell ⟨w.heap.size+1,y,none⟩ (.slice (some ⟨gg,0,none⟩) (q.length+1) cc)) :=
       ((zaO (zaa (zaI HB4.out) hX)).grown hgrow (by have:=hX.size;omega) (fun b e=>by have:=(HOWN.out.lt b e).1;omega)).grown (zac w6 ⟨w.heap.size+1,y,none⟩ _) (by have:=hgrow.size;have:=hX.size;omega) (fun b e=>by cases e;show w.heap.size≤w.heap.size+1;omega)
      have HB7:=zHd hb7;clear hX hr7 hb7 hown6 hgrow hat s3 s4 c1 c2 c3 f3 q1 q2 q3 N1 N2 N3;go_wp2
      go_roundw
      case rel=>exact⟨j+1,_,by go_num,by omega,by rw[← HNX.out];exact HR7.out,HP7.out,HB7.out⟩
      case measure=>simp[intOf];omega
    ·have n3:¬ (j:Int)<(s.arcs.length:Int):=by omega
     have he:=zxU m m.states.length k (j:=j) (by rw[zhK HSS.out,List.length_map];omega);have hr5:=HROWS3.out;rw[he] at hr5;have HR5:=zHd hr5;clear he hr5;go_wp2
     go_roundw
     case rel=>exact⟨k+1,vals2,by go_num,by omega,HR5.out,HPV3.out,HB3.out⟩
     case measure=>simp[intOf];omega
  ·have n1:¬ (k:Int)<(m.states.length:Int):=by omega
   have hke:k=m.states.length:=by omega
   have hbk:=zix.of (f:=zaQ m) (by
    have h:=HROWS.out;rw[hke,show zcU m m.states.length m.states.length 0=(List.range m.states.length).map (zaQ m) by unfold zcU;apply List.map_congr_left;intro x _;exact zqz m x] at h;exact h) HPV2.out
   have HBK:=zHd hbk;clear hbk;go_wp2;go_ret;exact⟨_,rfl,HBK.out,zaI HB.out⟩
end Go.Proofs.YtaogepcaoogpgaaGreatDoor
