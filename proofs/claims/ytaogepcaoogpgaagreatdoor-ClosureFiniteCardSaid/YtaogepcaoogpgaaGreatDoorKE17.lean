/- WE59 WE66 -/
import Derived.Test.YtaogepcaoogpgaaGreatDoorKE16
set_option linter.unusedVariables false
set_option linter.unusedSimpArgs false
set_option maxRecDepth 100000
set_option maxHeartbeats 16000000
namespace Go.Proofs.YtaogepcaoogpgaaGreatDoor
open Go.RowKit
open Go.Lib (decDigits nDigits)
theorem zqk:∀ (xs ys:List (List UInt8)),xs.length=ys.length→(∀ x∈xs,(32:UInt8) ∉ x)→(∀ y∈ys,(32:UInt8) ∉ y)→Lib.join xs [32]=Lib.join ys [32]→xs=ys
 | [],[],_,_,_,_=>rfl
 | [],_::_,h,_,_,_=>by simp at h
 | _::_,[],h,_,_,_=>by simp at h
 | [x],[y],_,_,_,h=>by rw[Lib.join_one,Lib.join_one] at h;rw[h]
 | [x],_::_::_,h,_,_,_=>by simp at h
 | _::_::_,[y],h,_,_,_=>by simp at h
 | x::x2::xr,y::y2::yr,h,hx,hy,e=>by
  have e1:∀ (a b:List UInt8) (r:List (List UInt8)),Lib.join (a::b::r) [32]=a++32::Lib.join (b::r) [32]:=fun a b r=>by
   rw[Lib.join_cons,Lib.join_cons];unfold Lib.joinTail;simp
  rw[e1,e1] at e;have hxn:(32:UInt8) ∉ x:=hx x (by simp);have hyn:(32:UInt8) ∉ y:=hy y (by simp)
  have hsplit:∀ (a b p q:List UInt8),(32:UInt8) ∉ a→(32:UInt8) ∉ b→a++32::p=b++32::q→a=b∧p=q:=by
   intro a
   induction a with
   | nil =>
    intro b p q ha hb h;cases b with
    | nil=>simp at h;exact⟨rfl,h⟩
    | cons c r=>simp at h;exact absurd (by rw[← h.1];simp) hb
   | cons c r ih =>
    intro b p q ha hb h;cases b with
    | nil=>simp at h;exact absurd (by rw[h.1];simp) ha
    | cons d s =>
     simp at h;obtain⟨h1,h2⟩:=ih s p q (fun hm=>ha (List.mem_cons_of_mem _ hm)) (fun hm=>hb (List.mem_cons_of_mem _ hm)) h.2;exact⟨by rw[h.1,h1],h2⟩
  obtain⟨h1,h2⟩:=hsplit x y _ _ hxn hyn e;rw[h1,zqk (x2::xr) (y2::yr) (by simpa using h) (fun a ha=>hx a (List.mem_cons_of_mem _ ha)) (fun a ha=>hy a (List.mem_cons_of_mem _ ha)) h2]
theorem zkt (n:Nat):(32:UInt8) ∉ decDigits n:=fun h=>by
 have:=List.all_eq_true.1 (zgD n) 32 h
 revert this
 decide
theorem zku (v:Ext):(32:UInt8) ∉ (extT v).data.toList:=by
 rcases v with(_|_)|x
 ·decide
 ·decide
 ·show(32:UInt8) ∉ ratL x
  unfold ratL;intro h;rcases List.mem_append.1 h with h|h
  ·split at h
   ·revert h;decide
   ·cases h
  ·rcases List.mem_append.1 h with h|h
   ·exact zkt _ h
   ·split at h
    ·cases h
    ·rcases List.mem_cons.1 h with h|h
     ·revert h;decide
     ·exact zkt _ h
theorem zAE {v:Ext}(h:Fits v):(extT v).data.toList.length≤810:=by
 rcases v with(_|_)|x
 ·decide
 ·decide
 ·show(ratL x).length≤810
  obtain⟨h1,h2⟩:=h;unfold ratL;rw[List.length_append,List.length_append];have e1:(if x.num<0 then [45] else ([]:List UInt8)).length≤1:=by split <;> simp
  have e2:(if x.den=1 then ([]:List UInt8) else 47::decDigits x.den).length≤401:=by
   split
   ·simp
   ·rw[List.length_cons,Lib.decDigits_length];omega
  rw[Lib.decDigits_length]
  omega
theorem zAF:∀ (xs:List (List UInt8)),(∀ x∈xs,x.length≤810)→(Lib.join xs [32]).length≤811 * xs.length
 | [],_=>by simp[Lib.join_nil]
 | x::r,h=>by
  rw[Lib.join_cons,List.length_append];have h1:=h x (by simp)
  have h2:(Lib.joinTail [32] r).length≤811 * r.length:=by
   have hr:∀ y∈r,y.length≤810:=fun y hy=>h y (List.mem_cons_of_mem _ hy);clear h h1;unfold Lib.joinTail
   induction r with
   | nil=>simp
   | cons y s ih =>
    have:=ih (fun z hz=>hr z (List.mem_cons_of_mem _ hz));have:=hr y (by simp);simp at *
    omega
  rw[List.length_cons]
  omega
section
variable {k:Int}
def rowT (m:Nat)(f:Nat→El k):ByteArray:=⟨(Lib.join (((List.range m).map (fun j=>tx (f j))).map (·.data.toList)) [32]).toArray⟩
theorem zDz {m:Nat}{f g:Nat→El k}(hf:∀ j,j<m→FitE (f j))(hg:∀ j,j<m→FitE (g j))(h:rowT m f=rowT m g):∀ j,j<m→f j=g j:=by
 unfold rowT at h;have h1:=congrArg (fun b:ByteArray=>b.data.toList) h
 have h2:=zqk _ _ (by simp) (fun x hx=>by
  obtain⟨b,hb,rfl⟩:=List.mem_map.1 hx;obtain⟨j,_,rfl⟩:=List.mem_map.1 hb;exact zku _) (fun x hx=>by
  obtain⟨b,hb,rfl⟩:=List.mem_map.1 hx;obtain⟨j,_,rfl⟩:=List.mem_map.1 hb;exact zku _) h1
 intro j hj;have h3:=congrArg (fun l:List (List UInt8)=>l[j]?) h2;simp[hj] at h3;exact zez (hf j hj) (hg j hj) (ByteArray.ext h3)
theorem zql {m:Nat}{f:Nat→El k}(hf:∀ j,j<m→FitE (f j)):(Lib.join (((List.range m).map (fun j=>tx (f j))).map (·.data.toList)) [32]).length≤811 * m:=by
 have:=zAF (((List.range m).map (fun j=>tx (f j))).map (·.data.toList)) (fun x hx=>by
  obtain⟨b,hb,rfl⟩:=List.mem_map.1 hx;obtain⟨j,hj,rfl⟩:=List.mem_map.1 hb;exact zAE (hf j (List.mem_range.1 hj)))
 simpa using this
theorem ztf {m:Nat}{A:Nat→Nat→El k}{i:Nat}{n:Nat}(hA:∀ i,i<n→∀ j,j<m→FitE (A i j))(hi:i<n):∀ {R:List Nat},(∀ x∈R,x<n)→(R.map (fun x=>rowT m (A x))).findIdx? (fun t=>decide (t=rowT m (A i)))=R.findIdx? (fun x=>eqR m A x i):=by
 intro R hR;rw[List.findIdx?_map]
 induction R with
 | nil=>rfl
 | cons x r ih =>
  have hx:(fun t=>decide (t=rowT m (A i))) (rowT m (A x))=eqR m A x i:=by
   rw[Bool.eq_iff_iff]
   constructor
   ·intro h
    exact zfz.2 (zDz (hA x (hR x (by simp))) (hA i hi) (of_decide_eq_true h))
   ·intro h
    have:=zfz.1 h;refine decide_eq_true ?_;unfold rowT;rw[show(List.range m).map (fun j=>tx (A x j))=(List.range m).map (fun j=>tx (A i j)) from List.map_congr_left (fun j hj=>by rw[this j (List.mem_range.1 hj)])]
  rw[List.findIdx?_cons,List.findIdx?_cons,ih (fun y hy=>hR y (List.mem_cons_of_mem _ hy))];show(if (fun t=>decide (t=rowT m (A i))) (rowT m (A x))=true then _ else _)=_;rw[hx]
theorem znM (eq:Nat→Nat→Bool)(i:Nat):scan eq (i+1)=match (scan eq i).1.findIdx? (fun j=>eq j i) with
  | some k=>((scan eq i).1,(scan eq i).2++[k])
  | none=>((scan eq i).1++[i],(scan eq i).2++[(scan eq i).1.length]):=rfl
theorem zxB {m:Nat}{A:Nat→Nat→El k}{i n:Nat}(hA:∀ i,i<n→∀ j,j<m→FitE (A i j))(hi:i<n)(h:rowT m (A i)∈(scan (eqR m A) i).1.map (fun x=>rowT m (A x))) :
  (scan (eqR m A) (i+1)).1=(scan (eqR m A) i).1∧(scan (eqR m A) (i+1)).2=(scan (eqR m A) i).2++[num7 ((scan (eqR m A) i).1.map (fun x=>rowT m (A x))) (rowT m (A i))]:=by
 have hs:=zif (eq:=eqR m A) (fun i=>zfz.2 (fun _ _=>rfl)) i
 have hR:∀ x∈(scan (eqR m A) i).1,x<n:=fun x hx=>by
  obtain⟨j,hj,rfl⟩:=List.getElem_of_mem hx;have:=hs.rl j hj;rw[List.getD_eq_getElem?_getD,List.getElem?_eq_getElem hj] at this;simp at this;omega
 have hf:=ztf hA hi hR;unfold num7;rw[hf]
 have hne:(scan (eqR m A) i).1.findIdx? (fun x=>eqR m A x i)≠none:=by
  rw[← hf];intro hn;have:=List.findIdx?_eq_none_iff.1 hn _ h;simp at this
 obtain⟨q,hq⟩:=Option.ne_none_iff_exists'.1 hne;rw[znM,hq];exact⟨rfl,rfl⟩
theorem zDA {m:Nat}{A:Nat→Nat→El k}{i n:Nat}(hA:∀ i,i<n→∀ j,j<m→FitE (A i j))(hi:i<n)(h:rowT m (A i) ∉ (scan (eqR m A) i).1.map (fun x=>rowT m (A x))) :
  (scan (eqR m A) (i+1)).1=(scan (eqR m A) i).1++[i]∧(scan (eqR m A) (i+1)).2=(scan (eqR m A) i).2++[(scan (eqR m A) i).1.length]:=by
 have hs:=zif (eq:=eqR m A) (fun i=>zfz.2 (fun _ _=>rfl)) i
 have hR:∀ x∈(scan (eqR m A) i).1,x<n:=fun x hx=>by
  obtain⟨j,hj,rfl⟩:=List.getElem_of_mem hx;have:=hs.rl j hj;rw[List.getD_eq_getElem?_getD,List.getElem?_eq_getElem hj] at this;simp at this;omega
 have hf:=ztf hA hi hR
 have hne:(scan (eqR m A) i).1.findIdx? (fun x=>eqR m A x i)=none:=by
  rw[← hf];exact List.findIdx?_eq_none_iff.2 (fun x hx=>by simp;rintro rfl;exact h hx)
 rw[znM,hne];exact⟨rfl,rfl⟩
def RowG (w:World)(v:Value)(m:Nat)(f:Nat→El k):Prop:=∃ g o c,v = .slice (some ⟨g,o,none⟩) m c∧m≤c∧c≤maxLen∧zam w g o m (txs f)
theorem RowG.grown {w w':World}{v:Value}{m:Nat}{f:Nat→El k}(h:RowG w v m f)(hg:w.grownBy w' none):RowG w' v m f:=by
 obtain⟨g,o,c,h1,h2,h3,h4⟩:=h;exact⟨g,o,c,h1,h2,h3,h4.grown hg⟩
theorem RowG.row {w:World}{v:Value}{m:Nat}{f:Nat→El k}(h:RowG w v m f):RowR w v m (txs f):=by
 obtain⟨g,o,c,rfl,h2,h3,h4⟩:=h;exact h4.row h2 h3
structure zdF (m n:Nat)(A:Nat→Nat→El k)(rs:Nat→Value)(w:World)(i:Nat)(rv cv:Value)(wr:World):Prop where
 le:i≤n
 gr:w.grownBy wr none
 nums:Nums wr w.heap.size ((scan (eqR m A) i).1.map (fun x=>rowT m (A x)))
 own1:wr.ownsRow (w.heap.size+1) 33 1 rv (scan (eqR m A) i).1.length ((scan (eqR m A) i).1.map rs)
 own2:wr.ownsRow (w.heap.size+1) 3 1 cv (scan (eqR m A) i).2.length ((scan (eqR m A) i).2.map (fun x => .int .i64 ((x:Nat):Int)))
 dis:rv.ownBlock=none∨cv.ownBlock=none∨rv.ownBlock≠cv.ownBlock
theorem zAG:∃ i0:TypeInfo,Tryz.prog.info? 33=some i0∧i0.zero=some (.slice none 0 0)∧i0.size=1∧i0.bytes=24:=info_parts zcF
theorem zAH:(Tryz.prog.info? 3).map (fun i=>(i.zero,i.size,i.bytes))=some (some (.int .i64 0),1,8):=by kernel_rfl
theorem zqm {w:World}{B n:Nat}{T:TypeId}{v:Value}{xs:List Value}(h:w.ownsRow B T 1 v n xs)(z:Value):RowR w v n (fun j=>xs.getD j z):=by
 obtain⟨hl,⟨rfl,rfl⟩|⟨g,c,cur,rfl,hb,hg,h1,h2,hs,ht⟩⟩:=h
 ·exact⟨none,0,rfl,Nat.le_refl _,by unfold maxLen;omega,fun j hj=>absurd hj (by omega)⟩
 ·refine⟨_,c,rfl,h1,h2,fun j hj=>⟨_,rfl,(Array.getElem?_eq_some_iff.1 hg).1,?_⟩⟩
  rw[zbA,Nat.zero_add,cell_of_row w g j _ _ (0,0) hg,← Array.getElem?_toList]
  dsimp only
  rw[← ht,List.getD_eq_getElem?_getD,List.getElem?_take_of_lt (by omega),List.getElem?_eq_getElem (by simp;omega)]
  rfl
theorem ztg {w w':World}(h:Below w.heap.size w w'):w.grownBy w' none:=⟨h.os,h.tape,h.output,h.size,fun i hi _=>h.block i hi⟩
theorem zdF.start (m n:Nat)(A:Nat→Nat→El k)(rs:Nat→Value)(w:World):zdF m n A rs w 0 (.slice none 0 0) (.slice none 0 0) (w.alloc (.map #[] 0)) :=
 ⟨Nat.zero_le _,zGA _ _ none,Nums.made w,⟨rfl,.inl ⟨rfl,rfl⟩⟩,⟨rfl,.inl ⟨rfl,rfl⟩⟩,.inl rfl⟩
theorem zdF.near {m n:Nat}{A:Nat→Nat→El k}{rs:Nat→Value}{w:World}{i:Nat}{rv cv:Value}{wr w':World}(h:zdF m n A rs w i rv cv wr)(hg:wr.grownBy w' none):zdF m n A rs w i rv cv w' :=
 ⟨h.le,zaa h.gr hg,h.nums.kept hg (by simp),h.own1.kept hg (by cases rv.ownBlock <;> simp),h.own2.kept hg (by cases cv.ownBlock <;> simp),h.dis⟩
theorem zjh {w w1 w2:World}{B n:Nat}{T:TypeId}{v:Value}{xs:List Value}(h:w1.ownsRow B T 1 v n xs)(hB:w.heap.size≤B)(h1:w.grownBy w1 none)(h2:w1.grownBy w2 v.ownBlock):w.grownBy w2 none:=by
 rcases h.2 with⟨rfl,_⟩|⟨g,c,cur,rfl,hb,_⟩
 ·exact zaa h1 h2
 ·exact zai h1 h2 (by show w.heap.size≤g;omega)
theorem zAJ {a b:Option Nat}(h:a=none∨b=none∨a≠b):b=none∨b≠a:=by
 rcases h with h|h|h
 ·subst h
  cases b <;> simp
 ·exact .inl h
 ·exact .inr (Ne.symm h)
theorem zmt {W:World}{B:Nat}{T:TypeId}{n:Nat}{xs:List Value}{v x v':Value}{H:Nat}(h:v.ownBlock=none∨x.ownBlock=none∨v.ownBlock≠x.ownBlock)(hx:W.ownsRow B T 1 x n xs)(hH:W.heap.size≤H)
  (hat:v'.ownBlock=v.ownBlock∨v'.ownBlock=some H):v'.ownBlock=none∨x.ownBlock=none∨v'.ownBlock≠x.ownBlock:=by
 rcases hat with e1|e1
 ·rw[e1];exact h
 ·rw[e1]
  refine .inr ?_;cases hb:x.ownBlock with
  | none=>exact .inl rfl
  | some g =>
   refine .inr ?_;have:=(hx.lt g hb).2;simp
   omega
theorem zdF.row {m n:Nat}{A:Nat→Nat→El k}{rs:Nat→Value}{w:World}{i:Nat}{rv cv:Value}{wr:World}(h:zdF m n A rs w i rv cv wr){w5 w6:World}{o:Obj}{rv':Value}
  (hst:Nums w5 w.heap.size ((scan (eqR m A) i).1.map (fun x=>rowT m (A x))++[rowT m (A i)])) (hg5:wr.grownBy w5 (some w.heap.size))
  (hown:w6.ownsRow (w.heap.size+1) 33 1 rv' ((scan (eqR m A) i).1.length+1) ((scan (eqR m A) i).1.map rs++[rs i])) (hg6:(w5.alloc o).grownBy w6 rv.ownBlock) (hat:rv'.ownBlock=rv.ownBlock∨rv'.ownBlock=some (w5.alloc o).heap.size) :
  w.grownBy w6 none∧Nums w6 w.heap.size ((scan (eqR m A) i).1.map (fun x=>rowT m (A x))++[rowT m (A i)]) ∧
   w6.ownsRow (w.heap.size+1) 3 1 cv (scan (eqR m A) i).2.length ((scan (eqR m A) i).2.map (fun x => .int .i64 ((x:Nat):Int)))∧(rv'.ownBlock=none∨cv.ownBlock=none∨rv'.ownBlock≠cv.ownBlock):=by
 have hne:∀ {T:TypeId} {v:Value} {n:Nat} {xs:List Value},wr.ownsRow (w.heap.size+1) T 1 v n xs→v.ownBlock=none∨v.ownBlock≠some w.heap.size:=fun {T v n xs} hv=>by
  cases hb:v.ownBlock with
  | none=>exact .inl rfl
  | some g=>have:=(hv.lt g hb).1;right;simp;omega
 have o1:=(h.own1.kept hg5 (hne h.own1)).alloc o;have o2:=(h.own2.kept hg5 (hne h.own2)).alloc o;have hgw:w.grownBy (w5.alloc o) none:=zaa (zai h.gr hg5 (Nat.le_refl _)) (zGA _ _ none);refine⟨zjh o1 (by omega) hgw hg6,(hst.kept (zGA _ o none) (by simp)).kept hg6 ?_,o2.kept hg6 (zAJ h.dis),zmt h.dis o2 (Nat.le_refl _) hat⟩;cases hb:rv.ownBlock with
 | none=>simp
 | some g=>have:=(h.own1.lt g hb).1;simp;omega
theorem zth (n m:Nat)(A:Nat→Nat→El k)(rs:Nat→Value)(av:Value)(w:World)(hn:n≤10000)(hm:m≤10000)(ha:RowR w av n rs)(hr:∀ i,i<n→RowG w (rs i) m (A i))(hA:∀ i,i<n→∀ j,j<m→FitE (A i j)) :
  Calls Tryz.prog 74 #[av] w fun e w'=>∃ rv cv,e = .returned (.tuple #[rv,cv])∧zdF m n A rs w n rv cv w':=by
 obtain⟨Ad,c,rfl,ha1,ha2,ha3⟩:=ha;obtain⟨i0,hi,hz0,hz1,hz2⟩:=zAG;obtain⟨i1,hj,hy0,hy1,hy2⟩:=info_parts zAH
 have hjoin:∀ i,i<n→∀ w',w.grownBy w' none→Calls Tryz.prog 130 #[rs i,.string ⟨#[32]⟩] w' fun e w2=>e = .returned (.string (rowT m (A i)))∧w'.grownBy w2 none:=fun i hi w' hg=>by
  obtain⟨g,o,c,e,h1,h2,h3⟩:=(hr i hi).grown hg;rw[e]
  have h:=Tryz.sh_Join g o c ((List.range m).map (fun j=>tx (A i j))) ⟨#[32]⟩ w' (fun j x hx=>by
   obtain⟨hj1,rfl⟩:=List.getElem?_eq_some_iff.1 hx;simp at hj1;rw[h3.2 j hj1];simp[txs]) h3.1 (by simp;omega) (by simpa using h1) (by
   have:=zql (m:=m) (hA i hi);show(Lib.join _ [32]).length≤_
   omega)
  rw[show((List.range m).map (fun j=>tx (A i j))).length=m by simp] at h;exact h.mono (fun e w2 ⟨h1,h2⟩=>⟨h1,ztg h2⟩)
 have hmm:∀ w:World,(Instr.makeMap 120 none).run Tryz.prog w = .ok (.map (some w.heap.size)) (w.alloc (.map #[] 0)):=fun w=>run_makeMap _ w;have HA:=zHd ha3;have HJ:=zHd hjoin;have HN:=zHd (zAI hn hm);have HF:=zHd hA
 have hre:∀ i,i<n→∃ g o c,rs i = .slice (some ⟨g,o,none⟩) m c:=fun i hi=>by
  obtain⟨g,o,c,e,_⟩:=hr i hi;exact⟨g,o,c,e⟩
 have HRE:=zHd hre;clear ha1 ha2 ha3 hr hA hn hm hjoin hre;go_enter Tryz.func74,Tryz.ntmps74;go_wp2
 go_loopw [2,3,13] (fun rv cv iv wr=>∃ i:Nat,iv = .int .i64 (i:Int)∧zdF m n A rs w i rv cv wr) (fun _ _ iv _=>n - (intOf iv).toNat)
 case atStart=>exact⟨0,rfl,zdF.start m n A rs w⟩
 case round =>
  obtain⟨i,rfl,hinv⟩:=hrel
  by_cases hin:i<n
  ·obtain⟨ad,rfl,hb,hc⟩:=HA.out i hin
   have hc2:wr.cell? (ad.add i)=some (rs i):=(zap (ad:=ad.add i) (by rw[zaj];exact hinv.gr.block ad.block hb (by simp))).trans hc;have t1:decide (i<n)=true:=by simpa using hin
   have t1':decide ((i:Int)<(n:Int))=true:=by simpa using hin
   have hit:(i:Int)<(n:Int):=by omega
   have n1:IntKind.i64.wrap ((i:Int)+1)=(i:Int)+1:=by have:=HN.out;rw[IntKind.wrap_i64];omega
   obtain⟨g3,o3,c3,hrs3⟩:=HRE.out i hin;have hcall:=HJ.out i hin wr hinv.gr;rw[hrs3] at hc2 hcall;have HI:=zHd (zAI hin hinv);have HCALL:=zHd hcall;have HRS:=zHd hrs3;clear hin hinv hb hc hcall hrs3;go_wp2_with fail;refine HCALL.out.mono ?_;rintro e w1 ⟨rfl,hg1⟩;have hinv1:=HI.out.2.near hg1
   have hsz:(rowT m (A i)).size≤maxLen:=by
    have h1:=zql (m:=m) (HF.out i HI.out.1);have h2:=HN.out;show(rowT m (A i)).data.size≤maxLen;unfold rowT maxLen;simp only[List.size_toArray]
    omega
   have hlook:=hinv1.nums.look_ok hsz;have hs:=zif (eq:=eqR m A) (fun i=>zfz.2 (fun _ _=>rfl)) i
   by_cases hmem:rowT m (A i)∈(scan (eqR m A) i).1.map (fun x=>rowT m (A x))
   ·obtain⟨q1,q2⟩:=zxB HF.out HI.out.1 hmem
    rw[decide_eq_true hmem] at hlook;obtain⟨z,hzz⟩:∃ z,z=num7 ((scan (eqR m A) i).1.map (fun x=>rowT m (A x))) (rowT m (A i)):=⟨_,rfl⟩;rw[← hzz] at hlook q2;have hown2:=hinv1.own2;have H1:=zHd (zAI hinv1 (zAI q1 q2));have HS:=zHd hs;clear hinv1 q1 q2 hg1 hmem hzz hs hsz;go_wp2_with (at_builtin;refine wpList_append_own_at _ rfl _ _ 51 rfl (w.heap.size+1) 3 i1 (.int .i64 0) 1 8 Tryz.underlying51 hj hy0 hy1 hy2 rfl (by decide) _ _ _ rfl (hown2.alloc _) ⟨w1.heap.size,0,none⟩ 1 1 [.int .i64 ((z:Nat):Int)] rfl rfl ?c1 ?c2 ?c3 ?c4 ?c5 ?_)
    case c1 =>
     intro j u hu;obtain⟨hj1,rfl⟩:=List.getElem?_eq_some_iff.1 hu;obtain rfl:j=0:=by simpa using hj1
     exact zak _ _ _ rfl
    case c2=>intro u hu;rw[List.mem_singleton.1 hu];rfl
    case c3=>have:=HS.out.len;have:=HN.out;have:=HI.out.1;unfold maxLen;omega
    case c4=>have:=HS.out.len;have:=HN.out;have:=HI.out.1;omega
    case c5=>have:=H1.out.1.gr.size;have:=H1.out.1.nums.lt;simp;omega
    intro v' w5 hown' hgrow _ hat;have H5:=zHd (zAI hown' (zAI hgrow (zAI hown2 hat)));clear hown' hgrow hown2 hat;go_wp2;obtain⟨hinv1,q1,q2⟩:=H1.out;obtain⟨hown',hgrow,hown2,hat⟩:=H5.out;have hgw:w.grownBy w5 none:=zjh (hown2.alloc _) (by omega) (zaa hinv1.gr (zGA _ _ none)) hgrow;refine⟨⟨i+1,by simp,HI.out.1,hgw,?_,?_,?_,?_⟩,by have:=HI.out.1;simp[intOf];omega⟩
    ·rw[q1]
     refine(hinv1.nums.kept (zGA _ _ none) (by simp)).kept hgrow ?_;cases hb:u3.ownBlock with
     | none=>simp
     | some g=>have:=(hown2.lt g hb).1;simp;omega
    ·rw[q1]
     refine(hinv1.own1.alloc _).kept hgrow ?_;rcases hinv1.dis with h|h|h
     ·exact .inl h
     ·rw[h];cases u2.ownBlock <;> simp
     ·exact .inr h
    ·rw[q2,List.length_append,List.map_append];exact hown'
    ·rcases zmt (v:=u3) (x:=u2) (v':=v') (by rcases hinv1.dis with h|h|h;exact .inr (.inl h);exact .inl h;exact .inr (.inr (Ne.symm h))) (hinv1.own1.alloc (.cells #[.int .i64 ((z:Nat):Int)] 3)) (by simp) hat with h|h|h
     ·exact .inr (.inl h)
     ·exact .inl h
     ·exact .inr (.inr (Ne.symm h))
   ·obtain⟨q1,q2⟩:=zDA HF.out HI.out.1 hmem
    rw[decide_eq_false hmem] at hlook;obtain⟨w2,hst,hm2,hg2⟩:=hinv1.nums.store hsz hmem (by rw[List.length_map];have:=hs.le;have:=HI.out.1;have:=HN.out;unfold maxLen;omega);rw[List.length_map] at hst;have hown1:=hinv1.own1
    have hne1:u2.ownBlock=none∨u2.ownBlock≠some w.heap.size:=by
     cases hb:u2.ownBlock with
     | none=>exact .inl rfl
     | some g=>have:=(hown1.lt g hb).1;right;simp;omega
    have hown1':=hown1.kept hg2 hne1
    obtain⟨A0,c0,hrl⟩:∃ A0 c0,u2 = .slice A0 (scan (eqR m A) i).1.length c0:=by
     rcases hown1.2 with⟨e,e2⟩|⟨g,c,cur,e,_⟩
     ·exact⟨_,_,by rw[e,e2]⟩
     ·exact⟨_,_,e⟩
    have hKn:(scan (eqR m A) i).1.length≤10000:=by have:=hs.le;have:=HI.out.1;have:=HN.out.1;omega
    have hCn:(scan (eqR m A) i).2.length≤10000:=by have:=hs.len;have:=HI.out.1;have:=HN.out.1;omega
    have hbase1:w.heap.size+1≤w2.heap.size:=by have:=hm2.lt;omega
    have hrowF:=fun(w6:World) (rv':Value) h1 h2 h3=>hinv1.row (w5:=w2) (w6:=w6) (o := .cells #[.slice (some ⟨g3,o3,none⟩) m c3] 33) (rv':=rv') hm2 hg2 h1 h2 h3;rw[HRS.out] at hrowF;have H1:=zHd (zAI q1 q2);have HS:=zHd hs;have HRF:=zHd hrowF;have HK:=zHd (zAI hKn (zAI hCn hbase1));have HG12:=zHd hg2;obtain⟨K,hKe⟩:∃ K,K=(scan (eqR m A) i).1.length:=⟨_,rfl⟩;have HKE:=zHd hKe;rw[← hKe] at hst hrl hown1';subst hrl;clear hinv1 q1 q2 hg1 hmem hs hsz hm2 hg2 hown1 hne1 hrowF hKn hCn hbase1 hKe;go_wp2_with (at_builtin;refine wpList_append_own_at _ rfl _ _ 22 rfl (w.heap.size+1) 33 i0 (.slice none 0 0) 1 24 Tryz.underlying22 hi hz0 hz1 hz2 rfl (by decide) _ _ _ rfl (hown1'.alloc _) ⟨w2.heap.size,0,none⟩ 1 1 [.slice (some ⟨g3,o3,none⟩) m c3] rfl rfl ?c1 ?c2 ?c3 ?c4 ?c5 ?_)
    case c1 =>
     intro j u hu;obtain⟨hj1,rfl⟩:=List.getElem?_eq_some_iff.1 hu;obtain rfl:j=0:=by simpa using hj1
     exact zak _ _ _ rfl
    case c2=>intro u hu;rw[List.mem_singleton.1 hu];rfl
    case c3=>have:=HK.out.1;have:=HKE.out;unfold maxLen;omega
    case c4=>have:=HK.out.1;have:=HKE.out;omega
    case c5=>have:=HK.out.2.2;simp;omega
    intro v' w5 hown' hgrow _ hat;rw[HKE.out] at hown';obtain⟨hgw,hnum,hown2,hdis⟩:=HRF.out w5 v' hown' hgrow (by simpa using hat);have hsz5:w.heap.size+1≤w5.heap.size:=by have:=hnum.lt;omega
    have H5:=zHd (zAI hown' (zAI hgw (zAI hnum hdis)));have H52:=zHd hown2;have HSZ:=zHd hsz5;clear hown' hgrow hown2 hat hgw hnum hdis hsz5 hown1';go_wp2_with (at_builtin;refine wpList_append_own_at _ rfl _ _ 51 rfl (w.heap.size+1) 3 i1 (.int .i64 0) 1 8 Tryz.underlying51 hj hy0 hy1 hy2 rfl (by decide) _ _ _ rfl (H52.out.alloc _) ⟨w5.heap.size,0,none⟩ 1 1 [.int .i64 ((K:Nat):Int)] rfl rfl ?d1 ?d2 ?d3 ?d4 ?d5 ?_)
    case d1 =>
     intro j u hu;obtain⟨hj1,rfl⟩:=List.getElem?_eq_some_iff.1 hu;obtain rfl:j=0:=by simpa using hj1
     exact zak _ _ _ rfl
    case d2=>intro u hu;rw[List.mem_singleton.1 hu];rfl
    case d3=>have:=HK.out.2.1;unfold maxLen;omega
    case d4=>have:=HK.out.2.1;omega
    case d5=>have:=HSZ.out;simp;omega
    intro v2 w6 hown6 hgrow6 _ hat6;have H6:=zHd (zAI hown6 (zAI hgrow6 hat6));clear hown6 hgrow6 hat6;go_wp2;obtain⟨q1,q2⟩:=H1.out;obtain⟨hown1,hgw,hnum,hdis⟩:=H5.out;obtain⟨hown6,hgrow6,hat6⟩:=H6.out;have hgw6:w.grownBy w6 none:=zjh (H52.out.alloc _) (by omega) (zaa hgw (zGA _ _ none)) hgrow6;refine⟨⟨i+1,by simp,HI.out.1,hgw6,?_,?_,?_,?_⟩,by have:=HI.out.1;simp[intOf];omega⟩
    ·rw[q1,List.map_append]
     refine(hnum.kept (zGA _ _ none) (by simp)).kept hgrow6 ?_;cases hb:u3.ownBlock with
     | none=>simp
     | some g=>have:=(H52.out.lt g hb).1;simp;omega
    ·rw[q1,List.length_append,List.map_append]
     show w6.ownsRow _ _ 1 v' _ (_++[rs i]);rw[HRS.out];refine(hown1.alloc _).kept hgrow6 ?_;rcases hdis with h|h|h
     ·exact .inl h
     ·rw[h];cases v'.ownBlock <;> simp
     ·exact .inr h
    ·rw[q2,List.length_append,List.map_append,← HKE.out];exact hown6
    ·rcases zmt (v:=u3) (x:=v') (v':=v2) (by rcases hdis with h|h|h;exact .inr (.inl h);exact .inl h;exact .inr (.inr (Ne.symm h))) (hown1.alloc (.cells #[.int .i64 ((K:Nat):Int)] 3)) (by simp) hat6 with h|h|h
     ·exact .inr (.inl h)
     ·exact .inl h
     ·exact .inr (.inr (Ne.symm h))
  ·have hle:=hinv.le
   obtain rfl:i=n:=by omega
   have t1:decide (i<i)=false:=by simp
   have t1':decide ((i:Int)<(i:Int))=false:=by simp
   have HI:=zHd hinv;clear hinv hin hle;go_wp2;exact bodyPost_ret (v := .tuple #[u2,u3]) (by simp[results,Tryz.results74,go_sem]) rfl ⟨_,_,rfl,HI.out⟩
end
open Go.RowKit
def Clr (K B x:Rat):Prop:=isI (x * K)∧ab (x * K)≤B
theorem Clr.mono {K B C x:Rat}(h:Clr K B x)(hc:B≤C):Clr K C x:=⟨h.1,Rat.le_trans h.2 hc⟩
theorem zji {K B:Rat}(h:0≤B):Clr K B 0:=by
 have e:(0:Rat) * K=0:=by grind
 refine⟨by rw[e];exact⟨0,rfl⟩,?_⟩;rw[e,zeH Rat.le_refl];exact h
theorem Clr.add {K B C x y:Rat}(hx:Clr K B x)(hy:Clr K C y):Clr K (B+C) (x+y):=by
 have e:(x+y) * K=x * K+y * K:=by grind
 refine⟨by rw[e];exact zik hx.1 hy.1,?_⟩;rw[e];have h1:=zzY (x * K) (y * K);have h2:=hx.2;have h3:=hy.2
 grind
theorem zgl {x y B C:Rat}(hx:ab x≤B)(hy:ab y≤C):ab (x * y)≤B * C:=by
 rw[zil];have h1:=Rat.mul_le_mul_of_nonneg_left hy (zbO x);have h2:=Rat.mul_le_mul_of_nonneg_right hx (Rat.le_trans (zbO y) hy);exact Rat.le_trans h1 h2
theorem Clr.mul {K L B C x y:Rat}(hx:Clr K B x)(hy:Clr L C y):Clr (K * L) (B * C) (x * y):=by
 have e:x * y * (K * L)=x * K * (y * L):=by grind
 exact⟨by rw[e];exact zbV hx.1 hy.1,by rw[e];exact zgl hx.2 hy.2⟩
theorem zpn {L C:Rat}(hL:isI L)(hc:ab L≤C):Clr L C 1:=by
 have e:(1:Rat) * L=L:=by grind
 exact⟨by rw[e];exact hL,by rw[e];exact hc⟩
theorem Clr.up {K L B C x:Rat}(hx:Clr K B x)(hL:isI L)(hc:ab L≤C):Clr (K * L) (B * C) x:=by
 have h:=hx.mul (zpn hL hc);have e:x * 1=x:=by grind
 rwa [e] at h
theorem Clr.wide {K x:Rat}{w:Nat}(hx:Clr K (tenP w) x)(hK:isI K)(h0:K≠0)(hk:ab K≤tenP w):zaz (w+1) (.inr x):=by
 have h:=zlP (y:=x) (N:=x * K) (M:=K) hx.1 hK h0 rfl (P:=10 ^ w) hx.2 hk;have hlt:10 ^ w<10 ^ (w+1):=Nat.pow_lt_pow_right (by omega) (by omega);exact⟨zej _ _ (by omega) (Nat.lt_of_le_of_lt h.1 hlt),zej _ _ (by omega) (Nat.lt_of_le_of_lt h.2 hlt)⟩
def ClE (K B:Rat)(v:El 2):Prop:=Fin2 v→Clr K B (val v)
theorem ClE.mono {K B C:Rat}{v:El 2}(h:ClE K B v)(hc:B≤C):ClE K C v:=fun hf=>(h hf).mono hc
theorem zmu {K B:Rat}(h:0≤B):ClE K B S2.zero:=fun _=>by rw[zda];exact zji h
theorem ClE.add {K B C:Rat}{u v:El 2}(hu:ClE K B u)(hv:ClE K C v):ClE K (B+C) (S2.add u v):=fun hf=>by
 obtain⟨h1,h2⟩:=zgL.1 hf;rw[zgM h1 h2];exact(hu h1).add (hv h2)
theorem ClE.mul {K L B C:Rat}{u v:El 2}(hB:0≤B)(hC:0≤C)(hu:ClE K B u)(hv:ClE L C v):ClE (K * L) (B * C) (S2.mul u v):=fun hf=>by
 by_cases h1:u=S2.zero
 ·rw[h1,S2.zero_mul,zda];exact zji (Rat.mul_nonneg hB hC)
 ·by_cases h2:v=S2.zero
  ·rw[h2,S2.mul_zero,zda];exact zji (Rat.mul_nonneg hB hC)
  ·have g1:=zfU hf h2
   have g2:=zep hf h1;rw[zgN g1 g2];exact(hu g1).mul (hv g2)
theorem ClE.up {K L B C:Rat}{v:El 2}(h:ClE K B v)(hL:isI L)(hc:ab L≤C):ClE (K * L) (B * C) v:=fun hf=>(h hf).up hL hc
theorem ClE.sm {K B:Rat}{f:Nat→El 2}(hB:0≤B):∀ {n:Nat},(∀ m,m<n→ClE K B (f m))→ClE K ((n:Rat) * B) (sm S2 n f)
 | 0,_=>zmu (by
  have e:((0:Nat):Rat) * B=0:=by
   have:((0:Nat):Rat)=0:=rfl;rw[this];grind
  rw[e];exact Rat.le_refl)
 | n+1,h=>by
  have ih:=ClE.sm hB (n:=n) (fun m hm=>h m (by omega));have h1:=ih.add (h n (by omega))
  have e:((n+1:Nat):Rat) * B=(n:Rat) * B+B:=by
   have:((n+1:Nat):Rat)=(n:Rat)+1:=by
    show(((n+1:Nat):Int):Rat)=((n:Int):Rat)+((1:Int):Rat);rw[← Rat.intCast_add];rfl
   rw[this];grind
  rw[e];exact h1
theorem ClE.wide {K:Rat}{v:El 2}{w:Nat}(h:ClE K (tenP w) v)(hK:isI K)(h0:K≠0)(hk:ab K≤tenP w):zaz (w+1) v.1:=by
 by_cases hf:Fin2 v
 ·rw[zcC hf];exact(h hf).wide hK h0 hk
 ·rw[zcg.1 hf];trivial
theorem dl_mem:∀ {l:List Rat} {x:Rat},x∈l→(∀ y∈l,0≤y)→Clr (dl l) (bl l) x
 | l,x,h,h0=>by
  have h1:isI (x * dl l):=by
   have:∀ (l:List Rat),x∈l→isI (x * dl l):=fun l=>by
    induction l with
    | nil=>intro h;cases h
    | cons y l ih =>
     intro h;show isI (x * ((y.den:Rat) * dl l))
     by_cases e:x=y
     ·subst e
      have e2:x * ((x.den:Rat) * dl l)=(x.num:Rat) * dl l:=by rw[zgB x];grind
      rw[e2];exact zbV ⟨x.num,rfl⟩ (zhh l)
     ·have hm:x∈l:=by
       rcases List.mem_cons.1 h with h|h
       ·exact absurd h e
       ·exact h
      have e2:x * ((y.den:Rat) * dl l)=(y.den:Rat) * (x * dl l):=by grind
      rw[e2];exact zbV (zlo y) (ih hm)
   exact this l h
  have hd:=zeC l;have hx:=h0 x h
  have hs:x≤sl l:=by
   have:∀ (l:List Rat),(∀ y∈l,0≤y)→x∈l→x≤sl l:=fun l=>by
    induction l with
    | nil=>intro _ h;cases h
    | cons y l ih =>
     intro h0 h;have hy:=h0 y (List.mem_cons_self ..);have hl:=zcS (l:=l) (fun z hz=>h0 z (List.mem_cons_of_mem _ hz));show x≤y+sl l;rcases List.mem_cons.1 h with h|h
     ·rw[h];grind
     ·have:=ih (fun z hz=>h0 z (List.mem_cons_of_mem _ hz)) h
      grind
   exact this l h0 h
  refine⟨h1,?_⟩;rw[zeH (Rat.mul_nonneg hx (by grind))];have h2:=zje h0;have h3:=Rat.mul_le_mul_of_nonneg_left hs (show 0≤dl l by grind)
  grind
theorem zHm (l:List Rat)(h0:∀ y∈l,0≤y):ab (dl l)≤bl l:=by
 have hd:=zeC l;rw[zeH (by grind)];have h2:=zje h0;have h3:=Rat.mul_nonneg (show 0≤dl l by grind) (zcS h0)
 grind
theorem zbl {m n:Nat}(h:m≤n):tenP m≤tenP n:=by
 have h1:=Nat.pow_le_pow_right (show 0<10 by omega) h;have h4:((10 ^ m:Nat):Int)≤((10 ^ n:Nat):Int):=Int.ofNat_le.2 h1;exact Rat.intCast_le_intCast.2 h4
open Go.RowKit
theorem zDB {A:Nat→Nat→El 2}{M:Nat→List (Nat × El 2)}{n s:Nat}
  (hA:∀ x y,x<n→y<n→A x y=cs S2 (M x) y) (hM:∀ x,x<n→∀ e∈M x,Sh4 e.2.1) (hc:ns n (fun x=>(M x).length)≤s) :
  ∃ K:Rat,isI K∧K≠0∧ab K≤tenP (4 * s+n)∧∀ i j,i<n→j<n→ClE K (tenP (4 * s+n+1)) (stM S2 A n i j):=by
 have hpos:∀ x,x<n→∀ y∈(fins (M x)).map (·.2),0≤y:=fun x hx y hy=>by
  obtain⟨e,he,rfl⟩:=List.mem_map.1 hy;exact(zck (hM x hx) e he).1
 have hten:∀ x,x<n→bl ((fins (M x)).map (·.2))≤tenP (4 * (M x).length):=fun x hx=>by
  have:=zro (w:=4) (l:=(fins (M x)).map (·.2)) (fun y hy=>by
   obtain⟨e,he,rfl⟩:=List.mem_map.1 hy;exact zck (hM x hx) e he)
  rw[List.length_map] at this;exact Rat.le_trans this (zbl (by have:=zhM (M x);omega))
 have hval:∀ x m,x<n→m<n→Fin2 (A x m)→val (A x m)=sl (((fins (M x)).filter (fun e=>e.1 == m)).map (·.2)):=fun x m hx hm hf=>by
  rw[hA x m hx hm] at hf ⊢;exact zkr m hf
 have hsum:∀ x,x<n→rs n (fun m=>val (A x m))≤sl ((fins (M x)).map (·.2)):=fun x hx=>by
  refine Rat.le_trans (zhF (fun m hm => ?_)) (zjg n (fun e he=>(zck (hM x hx) e he).1))
  by_cases hf:Fin2 (A x m)
  ·rw[hval x m hx hm hf];exact Rat.le_refl
  ·have:val (A x m)=0:=by unfold val;rw[zcg.1 hf]
   rw[this];refine zcS (fun y hy => ?_);obtain⟨e,he,rfl⟩:=List.mem_map.1 hy;exact(zck (hM x hx) e (List.mem_filter.1 he).1).1
 have hQ:∀ x,x<n→2 * (dl ((fins (M x)).map (·.2)) * (1+rs n (fun m=>val (A x m))))≤tenP (4 * (M x).length+1):=fun x hx=>by
  have h1:=zje (hpos x hx);have h2:=hten x hx;have h3:=hsum x hx;have h4:=zeC ((fins (M x)).map (·.2));have h5:=Rat.mul_le_mul_of_nonneg_left h3 (show 0≤dl ((fins (M x)).map (·.2)) by grind);have h6:=zbu (4 * (M x).length);rw[zbS];have h7:tenP 1=10:=by unfold tenP;decide +kernel
  rw[h7]
  grind
 obtain⟨K,hK,hK0,hKb,hall⟩:=zGL (A:=A) (n:=n) (d:=fun x=>dl ((fins (M x)).map (·.2))) (Q:=fun x=>tenP (4 * (M x).length+1)) (fun x _=>zeC _) (fun x _=>zhh _) (fun x y hx hy hf=>by
  rw[hval x y hx hy hf];exact zjf (fun z=>z == y) (fins (M x))) hQ
 have hP:rp n (fun x=>tenP (4 * (M x).length+1))≤tenP (4 * s+n):=by
  have h1:=zsU (f:=fun x=>tenP (4 * (M x).length+1)) (g:=fun x=>4 * (M x).length+1) (n:=n) (fun m _=>⟨zbu _,Rat.le_refl⟩);rw[zsV (fun x=>(M x).length) n] at h1;exact Rat.le_trans h1 (zbl (by omega))
 refine⟨K,hK,hK0,Rat.le_trans hKb hP,fun i j hi hj => ?_⟩
 have h1:ClE K (tenP (4 * s+n)) (idm S2 i j):=by
  unfold idm
  split
  ·intro _
   exact zpn hK (Rat.le_trans hKb hP)
  ·exact zmu (zbu _)
 have h2:ClE K (tenP (4 * s+n)) (el S2 A n i j):=fun hf=>by
  obtain⟨g1,g2⟩:=hall i j hi hj hf;exact⟨g1,Rat.le_trans g2 hP⟩
 refine(h1.add h2).mono ?_;have h7:tenP 1=10:=by unfold tenP;decide +kernel
 have h6:=zbu (4 * s+n);rw[zbS (4 * s+n) 1,h7]
 grind
variable {α:Type}
structure Szs (S:Sr α)(Fit:α→Prop) where
 I:Type
 op:I→I→I
 assoc:∀ a b c,op (op a b) c=op a (op b c)
 comm:∀ a b,op a b=op b a
 ok:I→Nat→Prop
 C:I→Nat→α→Prop
 okop:∀ {K L v w},ok K v→ok L w→ok (op K L) (v+w)
 okmono:∀ {K v w},ok K v→v≤w→ok K w
 mono:∀ {K v w a},C K v a→v≤w→C K w a
 zero:∀ {K w},ok K w→C K w S.zero
 mul:∀ {K L v w a b},C K v a→C L w b→C (op K L) (v+w+1) (S.mul a b)
 add:∀ {K w a b},C K w a→C K w b→C K (w+1) (S.add a b)
 sums:∀ {K w} {f:Nat→α} {n:Nat},ok K w→n≤9→(∀ m,m<n→C K w (f m))→C K (w+1) (sm S n f)
 up:∀ {K L w l a},C K w a→ok L l→C (op K L) (w+l) a
 fit:∀ {K w a},C K w a→w<400→Fit a
instance {S:Sr α} {Fit:α→Prop} (Z:Szs S Fit):Std.Associative Z.op:=⟨Z.assoc⟩
instance {S:Sr α} {Fit:α→Prop} (Z:Szs S Fit):Std.Commutative Z.op:=⟨Z.comm⟩
theorem Szs.cast {S:Sr α}{Fit:α→Prop}(Z:Szs S Fit){K L:Z.I}{w:Nat}{v:α}(h:Z.C K w v)(e:K=L):Z.C L w v:=e ▸ h
structure Base {S:Sr α}{Fit:α→Prop}(Z:Szs S Fit)(A b:Nat→Nat→α)(n m:Nat)(M:Nat→Z.I)(D Kb:Z.I)(wb:Nat):Prop where
 n5:n≤5
 okM:∀ t,t≤n→Z.ok (M t) 46
 st:∀ t,t≤n→∀ i j,i<t→j<t→Z.C (M t) 46 (stM S A t i j)
 okD:Z.ok D 41
 a:∀ x y,x<n→y<n→Z.C D 41 (A x y)
 okb:Z.ok Kb wb
 b:∀ x J,x<n→J<m→Z.C Kb wb (b x J)
 wb:wb≤201
theorem zGM (S:Sr α)(A b:Nat→Nat→α){n t x:Nat}(ht:t≤n)(hx:x<t)(j:Nat):el S (augM A b n) t x j=sm S t (fun l=>S.mul (stM S A t x l) (augM A b n l j)):=by
 rw[zeJ,← zjI S (fun l=>augM A b n l j) hx,← zdA];refine zal S (fun l hl => ?_);rw[zol S A b ht (by omega)];unfold stM;rw[S.add_mul]
section
variable {S:Sr α} {Fit:α→Prop} {Z:Szs S Fit} {A b:Nat→Nat→α} {n m:Nat} {M:Nat→Z.I} {D Kb:Z.I} {wb:Nat}
structure Col (Z:Szs S Fit)(A b:Nat→Nat→α)(n j:Nat)(K:Z.I)(w:Nat):Prop where
 ok:Z.ok K w
 c:∀ x,x<n→Z.C K w (augM A b n x j)
theorem Base.colA (B:Base Z A b n m M D Kb wb){j:Nat}(h:j<n):Col Z A b n j D 41:=⟨B.okD,fun x hx=>by unfold augM;rw[if_pos h];exact B.a x j hx h⟩
theorem Base.colB (B:Base Z A b n m M D Kb wb){J:Nat}(h:J<m):Col Z A b n (n+J) Kb wb:=⟨B.okb,fun x hx=>by unfold augM;rw[if_neg (by omega),Nat.add_sub_cancel_left];exact B.b x J hx h⟩
theorem Base.col (B:Base Z A b n m M D Kb wb){j:Nat}(hj:j<n+m):∃ K w,w≤201∧Col Z A b n j K w:=by
 by_cases h:j<n
 ·exact⟨D,41,by omega,B.colA h⟩
 ·obtain⟨J,rfl⟩:∃ J,j=n+J:=⟨j - n,by omega⟩
  exact⟨Kb,wb,B.wb,B.colB (by omega)⟩
theorem Base.low (B:Base Z A b n m M D Kb wb){j:Nat}{K:Z.I}{w:Nat}(hc:Col Z A b n j K w){t:Nat}(ht:t≤n){x:Nat}(hx:x<t):Z.C (Z.op (M t) K) (w+48) (el S (augM A b n) t x j):=by
 rw[zGM S A b ht hx];have:=Z.sums (n:=t) (w:=46+w+1) (K:=Z.op (M t) K) (f:=fun l=>S.mul (stM S A t x l) (augM A b n l j)) (Z.okmono (Z.okop (B.okM t ht) hc.ok) (by omega)) (by have:=B.n5;omega) (fun l hl=>Z.mul (B.st t ht x l hx hl) (hc.c l (by omega)));exact Z.mono this (by omega)
theorem Base.any (B:Base Z A b n m M D Kb wb){j:Nat}{K:Z.I}{w:Nat}(hc:Col Z A b n j K w){t:Nat}(ht:t≤n){x:Nat}(hx:x<n):Z.C (Z.op D (Z.op (M t) K)) (w+92) (el S (augM A b n) t x j):=by
 rw[zbF];have hok:Z.ok (Z.op D (Z.op (M t) K)) (41+(46+w)):=Z.okop B.okD (Z.okop (B.okM t ht) hc.ok)
 have h1:=Z.sums (n:=t) (w:=41+(w+48)+1) (K:=Z.op D (Z.op (M t) K)) (f:=fun l=>S.mul (augM A b n x l) (el S (augM A b n) t l j)) (Z.okmono hok (by omega)) (by have:=B.n5;omega)
  (fun l hl=>Z.mul (by unfold augM;rw[if_pos (by omega)];exact B.a x l hx (by omega)) (B.low hc ht hl))
 have h2:Z.C (Z.op D (Z.op (M t) K)) (w+91) (augM A b n x j):=by
  have:=Z.up (Z.up (hc.c x hx) (B.okM t ht)) B.okD;exact Z.mono (Z.cast this (by ac_rfl)) (by omega)
 exact Z.add h2 (Z.mono h1 (by omega))
theorem Base.abs (B:Base Z A b n m M D Kb wb):zfy S Fit n m (augM A b n) where
 st t ht:=by
  have e:S.star (el S (augM A b n) t t t)=stM S A (t+1) t t:=by
   unfold stM idm;rw[if_pos rfl,zjJ,zol S A b (by omega) ht,S.mul_comm,S.star_law]
  rw[e];exact Z.fit (B.st (t+1) (by omega) t t (by omega) (by omega)) (by omega)
 row t ht j hj hm:=by
  obtain⟨K,w,hw,hc⟩:=B.col hm;exact Z.fit (B.low hc (t:=t+1) (by omega) (Nat.lt_succ_self t)) (by omega)
 pr t ht i hi hin j hj hm:=by
  obtain⟨K,w,hw,hc⟩:=B.col hm;exact Z.fit (Z.mul (B.any (B.colA ht) (t:=t) (by omega) hin) (B.low hc (t:=t+1) (by omega) (Nat.lt_succ_self t))) (by omega)
 en t ht i hi hin j hj hm:=by
  obtain⟨K,w,hw,hc⟩:=B.col hm;exact Z.fit (B.any hc (t:=t+1) (by omega) hin) (by omega)
 bp t ht l hl J hJ:=by
  have hw:=B.wb;exact Z.fit (Z.mul (B.low (B.colA hl) (t:=t+1) (by omega) (Nat.lt_succ_self t)) (B.low (B.colB hJ) (t:=n) (Nat.le_refl n) hl)) (by omega)
 bs t ht l hl J hJ:=by
  have hw:=B.wb;have hok:Z.ok (Z.op (Z.op (M (t+1)) D) (Z.op (M n) Kb)) (46+41+(46+wb)):=Z.okop (Z.okop (B.okM _ (by omega)) B.okD) (Z.okop (B.okM n (Nat.le_refl n)) B.okb)
  have h1:=Z.sums (n:=l+1) (w:=41+48+(wb+48)+1) (K:=Z.op (Z.op (M (t+1)) D) (Z.op (M n) Kb)) (f:=fun l=>S.mul (el S (augM A b n) (t+1) t (t+1+l)) (el S (augM A b n) n (t+1+l) (n+J)))
   (Z.okmono hok (by omega)) (by have:=B.n5;omega) (fun s hs=>Z.mul (B.low (B.colA (show t+1+s<n by omega)) (t:=t+1) (by omega) (Nat.lt_succ_self t)) (B.low (B.colB hJ) (t:=n) (Nat.le_refl n) (by omega)))
  have h2:=Z.up (Z.up (B.low (B.colB hJ) (t:=t+1) (by omega) (Nat.lt_succ_self t)) B.okD) (B.okM n (Nat.le_refl n));have h3:=Z.mono (Z.cast h2 (show _=Z.op (Z.op (M (t+1)) D) (Z.op (M n) Kb) by ac_rfl)) (show _≤41+48+(wb+48)+1+1 by omega);exact Z.fit (Z.add h3 h1) (by omega)
end
theorem zAK (S:Sr α){n:Nat}(κ:Nat→Nat)(d:Nat):∀ {l:List (Nat × α)},(∀ e∈l,e.1<n)→cs S (l.map (fun e=>(κ e.1,e.2))) d=mrg S n (cs S l) κ d
 | [],_=>by
  unfold mrg
  rw[zgE S (fun j _=>by
   by_cases h:κ j=d
   ·rw[if_pos h];rfl
   ·rw[if_neg h])]
  rfl
 | e::l,h=>by
  have ih:=zAK S κ d (l:=l) (fun x hx=>h x (List.mem_cons_of_mem _ hx));have he:=h e List.mem_cons_self;show(if κ e.1=d then S.add e.2 (cs S (l.map (fun e=>(κ e.1,e.2))) d) else cs S (l.map (fun e=>(κ e.1,e.2))) d)=_;rw[ih]
  have e2:mrg S n (cs S (e::l)) κ d=S.add (sm S n (fun j=>if e.1=j then (if κ j=d then e.2 else S.zero) else S.zero)) (mrg S n (cs S l) κ d):=by
   unfold mrg;rw[← zdA];refine zal S (fun j _ => ?_);show(if κ j=d then (if e.1=j then S.add e.2 (cs S l j) else cs S l j) else S.zero)=_
   by_cases h1:κ j=d
   ·by_cases h2:e.1=j
    ·simp only[h1,h2,if_true]
    ·simp only[h1,h2,if_true,if_false];rw[S.zero_add]
   ·simp only[h1,if_false];rw[ite_self,S.add_zero]
  rw[e2,zuZ S (fun j=>if κ j=d then e.2 else S.zero) he]
  by_cases h1:κ e.1=d
  ·rw[if_pos h1,if_pos h1]
  ·rw[if_neg h1,if_neg h1,S.zero_add]
theorem zpo (f:Nat→Nat)(r:List Nat):∀ k,k≤r.length→ns k (fun c=>f (r.getD c 0))=((r.take k).map f).sum
 | 0,_=>rfl
 | k+1,h=>by
  show ns k (fun c=>f (r.getD c 0))+f (r.getD k 0)=_;rw[zpo f r k (by omega),List.take_succ_eq_append_getElem (by omega),List.map_append,List.sum_append]
  congr 1
  rw[List.getD_eq_getElem?_getD,List.getElem?_eq_getElem (by omega)];simp
theorem znN (f:Nat→Nat):∀ (n:Nat) (r:List Nat),r.Pairwise (· < ·)→(∀ x∈r,x<n)→(r.map f).sum≤ns n f
 | 0,r,_,h=>by
  rcases r with _|⟨x,r⟩
  ·exact Nat.le_refl _
  ·exact absurd (h x List.mem_cons_self) (by omega)
 | n+1,r,hp,h=>by
  rcases List.eq_nil_or_concat r with rfl|⟨q,x,rfl⟩
  ·exact Nat.zero_le _
  ·rw[List.concat_eq_append] at *
   obtain⟨p1,_,p3⟩:=List.pairwise_append.1 hp;have hq:∀ y∈q,y<x:=fun y hy=>p3 y hy x (List.mem_singleton.2 rfl);have hx:x<n+1:=h x (by simp);show _≤ns n f+f n
   by_cases e:x=n
   ·subst e
    rw[List.map_append,List.sum_append];have:=znN f x q p1 hq;simp
    omega
   ·have:=znN f n (q++[x]) hp (fun y hy=>by
     rcases List.mem_append.1 hy with g|g
     ·have:=hq y g;omega
     ·have:=List.mem_singleton.1 g;omega)
    omega
structure Few (S:Sr α)(Sh:α→Prop)(A:Nat→Nat→α)(n:Nat)(M:Nat→List (Nat × α)):Prop where
 n5:n≤5
 a:∀ x y,x<n→y<n→A x y=cs S (M x) y
 sh:∀ x,x<n→∀ e∈M x,Sh e.2
 lt:∀ x,x<n→∀ e∈M x,e.1<n
 ten:ns n (fun x=>(M x).length)≤10
theorem zAL (S:Sr α){n:Nat}{f g:Nat→α}(κ:Nat→Nat)(d:Nat)(h:∀ j,j<n→f j=g j):mrg S n f κ d=mrg S n g κ d:=zal S (fun j hj=>by rw[h j hj])
theorem Few.merged {S:Sr α}{Sh:α→Prop}{A:Nat→Nat→α}{n:Nat}{M:Nat→List (Nat × α)}(h:Few S Sh A n M) :
  Few S Sh (mrgA S n A) (repR n A).length (fun c=>(M ((repR n A).getD c 0)).map (fun e=>((clsR n A).getD e.1 0,e.2))):=by
 have hs:=zmK n A;refine⟨Nat.le_trans hs.le h.n5,fun c d hc hd => ?_,fun c hc e he => ?_,fun c hc e he => ?_,?_⟩
 ·rw[zAK S (fun j=>(clsR n A).getD j 0) d (h.lt _ (hs.rl c hc))]
  exact zAL S _ d (fun j hj=>h.a _ j (hs.rl c hc) hj)
 ·obtain⟨x,hx,rfl⟩:=List.mem_map.1 he
  exact h.sh _ (hs.rl c hc) x hx
 ·obtain⟨x,hx,rfl⟩:=List.mem_map.1 he
  exact(hs.cl _ (h.lt _ (hs.rl c hc) x hx)).1
 ·have e1:(fun c=>((M ((repR n A).getD c 0)).map (fun e=>((clsR n A).getD e.1 0,e.2))).length)=fun c=>(fun x=>(M x).length) ((repR n A).getD c 0):=by
   funext c;rw[List.length_map]
  rw[e1,zpo (fun x=>(M x).length) (repR n A) _ (Nat.le_refl _),List.take_length];refine Nat.le_trans (znN _ n _ hs.up (fun x hx => ?_)) h.ten;obtain⟨i,hi,rfl⟩:=List.getElem_of_mem hx;have:=hs.rl i hi
  rwa [List.getD_eq_getElem?_getD,List.getElem?_eq_getElem hi] at this
structure Facts {S:Sr α}{Fit:α→Prop}(Z:Szs S Fit)(A:Nat→Nat→α)(n:Nat):Prop where
 st:∃ M:Nat→Z.I,∀ t,t≤n→Z.ok (M t) 46∧∀ i j,i<t→j<t→Z.C (M t) 46 (stM S A t i j)
 a:∃ D:Z.I,Z.ok D 41∧∀ x y,x<n→y<n→Z.C D 41 (A x y)
theorem zjj {S:Sr α}{Fit:α→Prop}(Z:Szs S Fit){Sh:α→Prop}(hfew:∀ {A:Nat→Nat→α} {n:Nat} {M:Nat→List (Nat × α)},Few S Sh A n M→Facts Z A n)(m:Nat) :
  ∀ (s n:Nat) (A b:Nat→Nat→α) (M:Nat→List (Nat × α)) (Kb:Z.I) (wb:Nat),Few S Sh A n M→Z.ok Kb wb→(∀ x J,x<n→J<m→Z.C Kb wb (b x J))→wb+44 * n≤245→n≤s→SolveFits S Fit s n m A b
 | 0,_,_,_,_,_,_,_,_,_,_,_=>trivial
 | s+1,n,A,b,M,Kb,wb,hF,hk,hb,hw,hs=>by
  obtain⟨⟨N,hN⟩,⟨D,hD,hA⟩⟩:=hfew hF;have h5:=hF.n5;have hrep:=zmK n A;unfold SolveFits
  by_cases h0:n=0
  ·subst h0
   have:(repR 0 A).length=0:=by have:=hrep.le;omega
   rw[if_pos this]
   trivial
  have B:Base Z A b n m N D Kb wb:=⟨h5,fun t ht=>(hN t ht).1,fun t ht=>(hN t ht).2,hD,hA,hk,hb,by omega⟩
  by_cases he:(repR n A).length=n
  ·rw[if_pos he]
   exact B.abs.all
  ·rw[if_neg he]
   have hlt:(repR n A).length<n:=by have:=hrep.le;omega
   have hsum:∀ c,c<(repR n A).length→∀ t,t≤n→∀ J,J<m→Z.C (Z.op D Kb) (wb+44) (zaN S (fun _=>S.zero) (A ((repR n A).getD c 0)) b t J):=by
    intro c hc t ht J hJ;have hok:=Z.okop hD hk;unfold zaN;have h1:=Z.sums (n:=t) (K:=Z.op D Kb) (w:=41+wb+1) (f:=fun s=>S.mul (A ((repR n A).getD c 0) s) (b s J)) (Z.okmono hok (by omega)) (by omega) (fun j hj=>Z.mul (hA _ j (hrep.rl c hc) (by omega)) (hb j J (by omega) hJ));exact Z.mono (Z.add (Z.zero (Z.okmono hok (by omega))) h1) (by omega)
   refine⟨fun c hc t ht => ?_,fun c hc t ht J hJ=>⟨?_,?_⟩,?_,fun i hi J hJ => ?_⟩
   ·refine Z.fit (Z.sums (n:=t+1) (K:=D) (w:=41) (f:=fun j=>if (clsR n A).getD j 0=(clsR n A).getD t 0 then A ((repR n A).getD c 0) j else S.zero) hD (by omega) (fun j hj => ?_)) (by omega)
    split
    ·exact hA _ j (hrep.rl c hc) (by omega)
    ·exact Z.zero hD
   ·exact Z.fit (Z.mul (hA _ t (hrep.rl c hc) ht) (hb t J ht hJ)) (by omega)
   ·exact Z.fit (hsum c hc (t+1) ht J hJ) (by omega)
   ·exact zjj Z hfew m s _ _ _ _ (Z.op D Kb) (wb+44) hF.merged (Z.okmono (Z.okop hD hk) (by omega)) (fun c J hc hJ=>hsum c hc n (Nat.le_refl n) J hJ) (by omega) (by omega)
   ·have e:=zdO S (s+1) n A b hs i J hi
    unfold solveF at e;rw[if_neg he] at e;rw[e,← zuY S A b hi];exact Z.fit (B.low (B.colB hJ) (Nat.le_refl n) hi) (by omega)
open Go.RowKit
theorem zFF:tenP 1=10:=by unfold tenP;decide +kernel
theorem zpp {A:Nat→Nat→El 2}{M:Nat→List (Nat × El 2)}{n:Nat}
  (hA:∀ x y,x<n→y<n→A x y=cs S2 (M x) y) (hM:∀ x,x<n→∀ e∈M x,Sh4 e.2.1):∀ t,t≤n →
  ∃ D:Rat,isI D∧D≠0∧ab D≤tenP (4 * ns t (fun x=>(M x).length))∧∀ x y,x<t→y<n→ClE D (tenP (4 * ns t (fun x=>(M x).length))) (A x y)
 | 0,_=>⟨1,⟨1,rfl⟩,by grind,by rw[zeH (by grind)];unfold tenP;simp[ns],fun x y h=>absurd h (by omega)⟩
 | t+1,ht=>by
  obtain⟨D,hD,hD0,hDb,hall⟩:=zpp hA hM t (by omega);have htn:t<n:=ht
  have hpos:∀ y∈(fins (M t)).map (·.2),0≤y:=fun y hy=>by
   obtain⟨e,he,rfl⟩:=List.mem_map.1 hy;exact(zck (hM t htn) e he).1
  have hten:bl ((fins (M t)).map (·.2))≤tenP (4 * (M t).length):=by
   have:=zro (w:=4) (l:=(fins (M t)).map (·.2)) (fun y hy=>by
    obtain⟨e,he,rfl⟩:=List.mem_map.1 hy;exact zck (hM t htn) e he)
   rw[List.length_map] at this;exact Rat.le_trans this (zbl (by have:=zhM (M t);omega))
  have h1:=zeC ((fins (M t)).map (·.2));have hd:ab (dl ((fins (M t)).map (·.2)))≤tenP (4 * (M t).length):=Rat.le_trans (zHm _ hpos) hten;have e1:4 * ns (t+1) (fun x=>(M x).length)=4 * ns t (fun x=>(M x).length)+4 * (M t).length:=by show 4 * (ns t (fun x=>(M x).length)+(M t).length)=_;omega
  refine⟨D * dl ((fins (M t)).map (·.2)),zbV hD (zhh _),fun e => ?_,?_,fun x y hx hy => ?_⟩
  ·rcases Rat.mul_eq_zero.1 e with e|e
   ·exact hD0 e
   ·grind
  ·rw[e1,zbS]
   exact zgl hDb hd
  ·rw[e1,zbS]
   by_cases hxt:x<t
   ·exact(hall x y hxt hy).up (zhh _) hd
   ·obtain rfl:x=t:=by omega
    intro hf;rw[hA x y htn hy] at hf ⊢;have hv:=zkr y hf;have hp:=zjf (fun z=>z == y) (fins (M x))
    have hle:dl ((fins (M x)).map (·.2)) * sl (((fins (M x)).filter (fun e=>e.1 == y)).map (·.2))≤tenP (4 * (M x).length):=by
     have h4:=zje hpos
     have h5:sl (((fins (M x)).filter (fun e=>e.1 == y)).map (·.2))≤sl ((fins (M x)).map (·.2)):=by
      have:=zjg (n:=y+1) (l:=fins (M x)) (fun e he=>(zck (hM x htn) e he).1);refine Rat.le_trans (zrn (f:=fun m=>sl (((fins (M x)).filter (fun e=>e.1 == m)).map (·.2))) (n:=y+1) (j:=y) (fun m _ => ?_) (Nat.lt_succ_self y)) this;refine zcS (fun z hz => ?_);obtain⟨e,he,rfl⟩:=List.mem_map.1 hz;exact(zck (hM x htn) e (List.mem_filter.1 he).1).1
     have h6:=Rat.mul_le_mul_of_nonneg_left h5 (show 0≤dl ((fins (M x)).map (·.2)) by grind)
     grind
    have h0:0≤sl (((fins (M x)).filter (fun e=>e.1 == y)).map (·.2)):=by
     refine zcS (fun z hz => ?_);obtain⟨e,he,rfl⟩:=List.mem_map.1 hz;exact(zck (hM x htn) e (List.mem_filter.1 he).1).1
    rw[hv]
    have hc:Clr (dl ((fins (M x)).map (·.2))) (tenP (4 * (M x).length)) (sl (((fins (M x)).filter (fun e=>e.1 == y)).map (·.2))):=by
     refine⟨by rw[Rat.mul_comm];exact hp,?_⟩;rw[Rat.mul_comm,zeH (Rat.mul_nonneg (by grind) h0)];exact hle
    have h7:=hc.up hD hDb;rw[Rat.mul_comm D,Rat.mul_comm (tenP (4 * ns x (fun x=>(M x).length)))];exact h7
theorem zGN (f:Nat→Nat){t n:Nat}(h:t≤n):ns t f≤ns n f:=by
 induction n with
 | zero=>obtain rfl:t=0:=by omega
         exact Nat.le_refl _
 | succ n ih =>
  by_cases e:t=n+1
  ·subst e;exact Nat.le_refl _
  ·exact Nat.le_trans (ih (by omega)) (Nat.le_add_right _ _)
theorem zvT {w:Nat}{x:Rat}(h:x≤9 * tenP w):x≤tenP (w+1):=by
 rw[zbS,zFF];have:=zbu w
 grind
theorem zqn (w:Nat):1≤tenP w:=by
 unfold tenP;have:1≤10 ^ w:=Nat.pow_pos (by decide)
 exact_mod_cast this
def szs2:Szs S2 (fun v=>Fits v.1) where
 I := { K:Rat // isI K∧K≠0 }
 op a b:=⟨a.1 * b.1,zbV a.2.1 b.2.1,fun e=>by rcases Rat.mul_eq_zero.1 e with h|h;exact a.2.2 h;exact b.2.2 h⟩
 assoc a b c:=Subtype.ext (Rat.mul_assoc _ _ _)
 comm a b:=Subtype.ext (Rat.mul_comm _ _)
 ok K w:=ab K.1≤tenP w
 C K w v:=ab K.1≤tenP w∧ClE K.1 (tenP w) v
 okop h1 h2:=by dsimp only;rw[zbS];exact zgl h1 h2
 okmono h hw:=Rat.le_trans h (zbl hw)
 mono h hw:=⟨Rat.le_trans h.1 (zbl hw),h.2.mono (zbl hw)⟩
 zero h:=⟨h,zmu (zbu _)⟩
 mul h1 h2:=by
  refine⟨?_,?_⟩
  ·refine Rat.le_trans ?_ (zbl (Nat.le_succ _))
   rw[zbS];exact zgl h1.1 h2.1
  ·refine ClE.mono ?_ (zbl (Nat.le_succ _))
   rw[zbS];exact ClE.mul (zbu _) (zbu _) h1.2 h2.2
 add h1 h2:=by
  refine⟨Rat.le_trans h1.1 (zbl (Nat.le_succ _)),(h1.2.add h2.2).mono (zvT ?_)⟩;have:=zbu ‹_›
  grind
 sums {K w f n} hk hn h:=by
  refine⟨Rat.le_trans hk (zbl (Nat.le_succ _)),(ClE.sm (zbu w) (fun m hm=>(h m hm).2)).mono (zvT ?_)⟩;refine Rat.mul_le_mul_of_nonneg_right ?_ (zbu w)
  exact_mod_cast hn
 up {K L w l a} h hl:=by
  refine⟨?_,?_⟩
  ·rw[zbS];exact zgl h.1 hl
  ·rw[zbS];exact h.2.up L.2.1 hl
 fit {K w a} h hw:=(h.2.wide K.2.1 K.2.2 h.1).fits (by omega)
theorem zqo {k:Int}(hk:zad k)(h:k=1∨k=3){w:Nat}(hw:1≤w){f:Nat→El k}:∀ {n:Nat},(∀ m,m<n→zaz w (f m).1)→zaz w (sm (srE k hk) n f).1
 | 0,_=>(zcW k).mono hw
 | n+1,hf=>zgk h (zqo hk h hw (fun m hm=>hf m (by omega))) (hf n (by omega))
theorem zti:∀ n,ns n (fun _=>1)=n
 | 0=>rfl
 | n+1=>by show ns n (fun _=>1)+1=n+1;rw[zti n]
def zEv {k:Int}(hk:zad k)(h:k=1∨k=3):Szs (srE k hk) (fun v=>Fits v.1) where
 I:=Unit
 op _ _:=()
 assoc _ _ _:=rfl
 comm _ _:=rfl
 ok _ w:=1≤w
 C _ w v:=1≤w∧zaz w v.1
 okop h1 h2:=by omega
 okmono h1 h2:=by omega
 mono h hw:=⟨by omega,h.2.mono hw⟩
 zero {_ w} hw:=⟨hw,(zcW k).mono hw⟩
 mul h1 h2:=⟨by omega,zdD k h1.1 h1.2 h2.2⟩
 add h1 h2:=⟨by omega,(zgk h h1.2 h2.2).mono (by omega)⟩
 sums {_ w f n} hw _ hf:=⟨by omega,(zqo hk h hw (fun m hm=>(hf m hm).2)).mono (by omega)⟩
 up h _:=⟨by omega,h.2.mono (by omega)⟩
 fit h hw:=h.2.fits (by omega)
theorem zGO {A:Nat→Nat→El 2}{n:Nat}{M:Nat→List (Nat × El 2)}(h:Few S2 (fun v=>Sh4 v.1) A n M):Facts szs2 A n where
 st:=by
  have hex:∀ t,∃ K:szs2.I,t≤n→szs2.ok K 46∧∀ i j,i<t→j<t→szs2.C K 46 (stM S2 A t i j):=by
   intro t
   by_cases ht:t≤n
   ·obtain⟨K,k1,k2,k3,k4⟩:=zDB (A:=A) (M:=M) (n:=t) (s:=10) (fun x y hx hy=>h.a x y (by omega) (by omega)) (fun x hx=>h.sh x (by omega)) (Nat.le_trans (zGN _ ht) h.ten)
    have h5:=h.n5;have g1:ab K≤tenP 46:=Rat.le_trans k3 (zbl (by omega));exact⟨⟨K,k1,k2⟩,fun _=>⟨g1,fun i j hi hj=>⟨g1,(k4 i j hi hj).mono (zbl (by omega))⟩⟩⟩
   ·exact⟨⟨1,⟨1,rfl⟩,by grind⟩,fun h=>absurd h ht⟩
  obtain⟨f,hf⟩:=Classical.axiomOfChoice hex;exact⟨f,fun t ht=>hf t ht⟩
 a:=by
  obtain⟨D,d1,d2,d3,d4⟩:=zpp h.a h.sh n (Nat.le_refl n);have ht:=h.ten;have g1:ab D≤tenP 41:=Rat.le_trans d3 (zbl (by omega));exact⟨⟨D,d1,d2⟩,g1,fun x y hx hy=>⟨g1,(d4 x y hx hy).mono (zbl (by omega))⟩⟩
theorem zFG {k:Int}(hk:zad k)(h13:k=1∨k=3){A:Nat→Nat→El k}{n:Nat}{M:Nat→List (Nat × El k)}(h:Few (srE k hk) (fun v=>Sh4 v.1) A n M):Facts (zEv hk h13) A n:=by
 have h4:∀ x y,x<n→y<n→zaz 4 (A x y).1:=fun x y hx hy=>by
  rw[h.a x y hx hy];exact zpj hk h13 y (h.sh x hx)
 refine⟨⟨fun _=>(),fun t ht=>⟨show 1≤46 by omega,fun i j hi hj => ?_⟩⟩,⟨(),show 1≤41 by omega,fun x y hx hy=>⟨by omega,(h4 x y hx hy).mono (by omega)⟩⟩⟩;have h5:=h.n5;have h1:=zDy hk h13 (A:=A) (n:=t) (w:=4) (by omega) (fun x y hx hy=>h4 x y (by omega) (by omega)) hi hj
 have h2:zaz 46 (idm (srE k hk) i j).1:=by
  unfold idm
  split
  ·exact(zgw k).mono (by omega)
  ·exact(zcW k).mono (by omega)
 have:(4+1) * (t+1)+1≤46:=by omega
 exact⟨by omega,zgk h13 h2 (h1.mono this)⟩
theorem zqp {A b:Nat→Nat→El 2}{n m s:Nat}{M:Nat→List (Nat × El 2)}(h:Few S2 (fun v=>Sh4 v.1) A n M){K:Rat}(hK:isI K)(h0:K≠0)(hk:ab K≤tenP 24)
  (hb:∀ x J,x<n→J<m→ClE K (tenP 24) (b x J)) (hs:n≤s):SolveFits S2 (fun v=>Fits v.1) s n m A b:=by
 have h5:=h.n5;exact zjj szs2 (Sh:=fun v=>Sh4 v.1) (fun hF=>zGO hF) m s n A b M ⟨K,hK,h0⟩ 24 h hk (fun x J hx hJ=>⟨hk,hb x J hx hJ⟩) (by omega) hs
theorem zgC {k:Int}(hk:zad k)(h13:k=1∨k=3){A b:Nat→Nat→El k}{n m s:Nat}{M:Nat→List (Nat × El k)}(h:Few (srE k hk) (fun v=>Sh4 v.1) A n M)
  (hb:∀ x J,x<n→J<m→zaz 25 (b x J).1) (hs:n≤s):SolveFits (srE k hk) (fun v=>Fits v.1) s n m A b:=by
 have h5:=h.n5;exact zjj (zEv hk h13) (Sh:=fun v=>Sh4 v.1) (fun hF=>zFG hk h13 hF) m s n A b M () 25 h (show 1≤25 by omega) (fun x J hx hJ=>⟨by omega,hb x J hx hJ⟩) (by omega) hs
theorem zAM {k:Int}(hk:zad k){A:Nat→Nat→El k}{n s:Nat}{M:Nat→List (Nat × El k)}(h:Few (srE k hk) (fun v=>Sh4 v.1) A n M)(hs:n≤s) :
  SolveFits (srE k hk) (fun v=>Fits v.1) s n n A (idm (srE k hk)):=by
 have hw:∀ x J,zaz 1 (idm (srE k hk) x J).1:=fun x J=>by
  unfold idm
  split
  ·exact zgw k
  ·exact zcW k
 rcases hk with rfl|rfl|rfl
 ·exact zgC _ (.inl rfl) h (fun x J _ _=>(hw x J).mono (by omega)) hs
 ·refine zqp h (K:=1) ⟨1,rfl⟩ (by grind) (by rw[zeH (by grind)];exact zqn 24) (fun x J _ _ hf => ?_) hs
  show Clr 1 (tenP 24) (val (idm S2 x J));unfold idm
  split
  ·exact zpn ⟨1,rfl⟩ (by rw[zeH (by grind)];exact zqn 24)
  ·rw[zda];exact zji (zbu 24)
 ·exact zgC _ (.inr rfl) h (fun x J _ _=>(hw x J).mono (by omega)) hs
theorem ztj {k:Int}(hk:zad k){A:Nat→Nat→El k}{F:Nat→El k}{n s:Nat}{M:Nat→List (Nat × El k)}(h:Few (srE k hk) (fun v=>Sh4 v.1) A n M)(hF:∀ x,x<n→Sh4 (F x).1)(hs:n≤s) :
  SolveFits (srE k hk) (fun v=>Fits v.1) s n 1 A (fun x _=>F x):=by
 have h5:=h.n5;rcases hk with rfl|rfl|rfl
 ·exact zgC _ (.inl rfl) h (fun x J hx _=>((hF x hx).wide).mono (by omega)) hs
 ·have hc:=zti n
  obtain⟨D,d1,d2,d3,d4⟩:=zpp (A:=fun x y=>if 0=y then F x else S2.zero) (M:=fun x=>[(0,F x)]) (n:=n) (fun x y hx hy=>by
   show(if 0=y then F x else S2.zero)=if 0=y then S2.add (F x) S2.zero else S2.zero
   rw[S2.add_zero]) (fun x hx e he=>by
   obtain rfl:=List.mem_singleton.1 he;exact hF x hx) n (Nat.le_refl n)
  have e1:4 * ns n (fun x=>([(0,F x)]:List (Nat × El 2)).length)≤24:=by
   show 4 * ns n (fun _=>1)≤24
   omega
  refine zqp h d1 d2 (Rat.le_trans d3 (zbl e1)) (fun x J hx hJ => ?_) hs;have:=d4 x 0 hx (by omega);rw[if_pos rfl] at this;exact this.mono (zbl e1)
 ·exact zgC _ (.inr rfl) h (fun x J hx _=>((hF x hx).wide).mono (by omega)) hs
end Go.Proofs.YtaogepcaoogpgaaGreatDoor
