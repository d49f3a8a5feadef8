/- Part. -/
import Derived.Test.YtiblmbpfcmcccaaGreatDoorKX06
import Derived.Laws.EntriesVeiled
import Derived.Great.Walk
set_option linter.unusedVariables false
set_option linter.defProp false
set_option linter.unusedSimpArgs false
set_option maxRecDepth 100000
set_option maxHeartbeats 16000000
namespace Go.Proofs.YtiblmbpfcmcccaaGreatDoor
open Go.Proofs.Tryz
open Go.RowKit
def fnV (F:Nat):Value:=.func (.func F) #[] #[]
def zdz:Array Value:=#[.string ⟨#[]⟩,.string ⟨#[]⟩,fnV 119,fnV 119,.nilFunc,.nilFunc,.nilFunc,.nilFunc,.nilFunc]
def zdA:Array Value:=#[.string zdg,.string zdM,fnV 120,fnV 121,fnV 122,fnV 123,fnV 124,fnV 125,fnV 126]
def zdB:Array Value:=#[.string zdM,.string zkr,fnV 127,fnV 128,fnV 129,fnV 130,fnV 131,fnV 132,fnV 133]
def zdC:Array Value:=#[.string zdM,.string zkr,fnV 127,fnV 128,fnV 134,fnV 130,fnV 135,fnV 132,fnV 133]
def zba:Array Value:=zdz++zdA++zdB++zdC
def zdH:Array Value:=#[.string ⟨#[]⟩,.string ⟨#[]⟩,.nilFunc,.nilFunc,.nilFunc,.nilFunc,.nilFunc,.nilFunc,.nilFunc]
def zdN:Array Value:=zdH++zdH++zdH++zdH
def zay (k:Int):Array Value:=if k=1 then zdA else if k=2 then zdB else if k=3 then zdC else zdz
def zAV (k:Int):Value:=.agg (zay k)
def zkV (j:Nat)(hj:j<4)(i:Nat)(v:Value)(h:(zay j).toList[i]?=some v):zba[j*9+i]?=some v:=by
 have h4:j=0∨j=1∨j=2∨j=3:=by omega
 have hi:i<9:=by
  have h1:=(zqae.1 h).1;rcases h4 with rfl|rfl|rfl|rfl <;> exact h1
 have h9:i=0∨i=1∨i=2∨i=3∨i=4∨i=5∨i=6∨i=7∨i=8:=by omega
 rcases h4 with rfl|rfl|rfl|rfl <;> rcases h9 with rfl|rfl|rfl|rfl|rfl|rfl|rfl|rfl|rfl <;> exact h
def zgS (o:Oper)(ho:o.op=.alloc 138)(ρ:Operand->Value)(w:World){g:Nat}(hg:w.heap.size=g):(execOp ρ o).run prog w=.ok (.value (.pointer (some ⟨g,0,none⟩))) (w.alloc (.cells zdN 138)):=by
 subst hg;obtain⟨d,p,t,q,af,gd⟩:=o;cases ho
 kernel_rfl
def zje (o:Oper)(x y:Operand)(ho:o.op=.indexAddr 138 x y)(ρ:Operand->Value)(w:World)(g:Nat)(j:Nat)(hj:j<4)(hx:ρ x=.pointer (some ⟨g,0,none⟩))(hy:ρ y=.int .i64 j) :
  (execOp ρ o).run prog w=.ok (.value (.pointer (some ⟨g,j*9,none⟩))) w:=by
 obtain⟨d,p,t,q,af,gd⟩:=o;cases ho;unfold execOp;dsimp only;rw[hx,hy];have h4:j=0∨j=1∨j=2∨j=3:=by omega
 rcases h4 with rfl|rfl|rfl|rfl <;> exact rfl
def zgT {w w1:World}{g:Nat}{cs:Array Value}(h:w.grownBy w1 none)(hg:w.heap.size<=g):w.grownBy (w1.setRow g cs) none :=
 ⟨h.1,h.2,h.3,by rw[setRow_size];exact h.4,fun k hk hn=>by rw[setRow_other _ _ _ _ (by omega)];exact h.5 k hk hn⟩
def zLw (w:World):Calls prog 92 #[.int .i64 1] w (zab (.agg (zay 1)) w):=by
 go_enter func92,ntmps92;go_upto_region 1 with(fail)
 rename_i K hK
 generalize hW:w.alloc (.cells #[.string ⟨#[]⟩,.string ⟨#[]⟩,.nilFunc,.nilFunc,.nilFunc,.nilFunc,.nilFunc,.nilFunc,.nilFunc] 111)=W at *;have h1:W.heap[w.heap.size]?=some (.cells zdH 111 (0,0)):=by subst hW;exact zaG _ _
 have h2:w.grownBy W none:=by subst hW;exact zGA _ _ none
 have h3:W.heap.size=w.heap.size+1:=by subst hW;simp
 clear hW;apply wp_region_lit;refine wpList_buildTo rfl 111 _ rfl (some 4) rfl zdz (by as_aux_lemma=>kernel_rfl) ?_;refine wpList_buildTo rfl 111 _ rfl (some 5) rfl zdA (by as_aux_lemma=>kernel_rfl) ?_;refine wpList_buildTo rfl 111 _ rfl (some 6) rfl zdB (by as_aux_lemma=>kernel_rfl) ?_;refine wpList_buildTo rfl 111 _ rfl (some 7) rfl zdC (by as_aux_lemma=>kernel_rfl) ?_;refine wpList_buildTo rfl 138 _ rfl (some 8) rfl zba (by as_aux_lemma=>kernel_rfl) ?_;refine Great.wpList_allocTo rfl (some 3) rfl (.pointer (some ⟨w.heap.size+1,0,none⟩)) (.cells zdN 138) ?_ ?_;exact zgS _ rfl _ _ h3;refine wpList_store_rowTo rfl 138 _ _ rfl rfl (w.heap.size+1) zba ?_ ?_ 138 zdN ?_ ?_ ?_ ?_ ?_;exact Act.eval_put_same _ 3 _ (by simp[Act.size_put]);exact(Act.eval_put_ne _ 3 8 _ (by decide)).trans (Act.eval_put_same _ 8 _ (by simp[Act.size_put]));exact zdX _ _ _ h3.symm
 ·as_aux_lemma=>kernel_rfl
 ·as_aux_lemma=>kernel_rfl
 ·as_aux_lemma=>kernel_rfl
 refine wpList_nil (hK _ _ ?_);have e1:(W.alloc (.cells zdN 138)).setRow (w.heap.size+1) zba=W.alloc (.cells zba 138):=by rw[<- h3];exact World.setRow_alloc_new _ _ _ _
 rw[e1];change Code.wp _ _ _ ⟨#[.int .i64 1,undef,.pointer (some ⟨w.heap.size,0,none⟩),.pointer (some ⟨w.heap.size+1,0,none⟩),.agg zdz,.agg zdA,.agg zdB,.agg zdC,.agg zba,undef,undef,undef,undef,undef,undef,undef,undef,undef],[]⟩ _;clear hK;go_upto_region 4 with(fail)
 rename_i K2 hK2
 apply wp_region_lit;refine Great.wpList_readTo rfl (some 15) rfl (.int .i64 1) rfl ?_;refine Great.wpList_readTo rfl (some 16) rfl (.pointer (some ⟨w.heap.size+1,1*9,none⟩)) ?_ ?_;exact zje _ (.tmp 3) (.tmp 15) rfl _ _ _ 1 (by decide) rfl rfl;refine wpList_load_mid rfl 111 _ rfl (w.heap.size+1) (1*9) rfl (zay 1).toList _ ?_ underlying111 rfl (by as_aux_lemma=>kernel_rfl) ?_
 ·intro i v hv
  rw[<- h3,zqbw _ _ _ _ _ (0,0) (zaG _ _)];exact zkV 1 (by decide) i v hv
 refine wpList_store_rowTo rfl 111 _ _ rfl rfl w.heap.size (zay 1) rfl rfl 111 zdH ?_ ?_ ?_ ?_ ?_;exact(zbK _ _ _ (by omega)).trans h1
 ·as_aux_lemma=>kernel_rfl
 ·as_aux_lemma=>kernel_rfl
 ·as_aux_lemma=>kernel_rfl
 refine wpList_nil (hK2 _ _ ?_);clear hK2
 have hb:((W.alloc (.cells zba 138)).setRow w.heap.size (zay 1)).heap[w.heap.size]?=some (.cells (zay 1) 111 (0,0)) :=
  setRow_heap _ _ _ _ _ _ ((zbK _ _ _ (by omega)).trans h1)
 have hg:w.grownBy ((W.alloc (.cells zba 138)).setRow w.heap.size (zay 1)) none :=
  zgT (zaa h2 (zGA _ _ none)) (zqab _)
 generalize (W.alloc (.cells zba 138)).setRow w.heap.size (zay 1)=W2 at *;change Code.wp _ _ _ ⟨#[.int .i64 1,undef,.pointer (some ⟨w.heap.size,0,none⟩),.pointer (some ⟨w.heap.size+1,0,none⟩),.agg zdz,.agg zdA,.agg zdB,.agg zdC,.agg zba,_,_,_,_,_,_,.int .i64 1,.pointer (some ⟨w.heap.size+1,1*9,none⟩),.agg (zay 1)],[]⟩ _;go_wp2;have hl:=run_loadVar_row (P:=prog) W2 w.heap.size 111 111 (zay 1) (0,0) _ hb underlying111 rfl (by as_aux_lemma=>kernel_rfl);refine zqby (v:=.agg (zay 1)) ?_ rfl ⟨rfl,hg⟩;exact zQbx
def zLx (w:World):Calls prog 92 #[.int .i64 2] w (zab (.agg (zay 2)) w):=by
 go_enter func92,ntmps92;go_upto_region 1 with(fail)
 rename_i K hK
 generalize hW:w.alloc (.cells #[.string ⟨#[]⟩,.string ⟨#[]⟩,.nilFunc,.nilFunc,.nilFunc,.nilFunc,.nilFunc,.nilFunc,.nilFunc] 111)=W at *;have h1:W.heap[w.heap.size]?=some (.cells zdH 111 (0,0)):=by subst hW;exact zaG _ _
 have h2:w.grownBy W none:=by subst hW;exact zGA _ _ none
 have h3:W.heap.size=w.heap.size+1:=by subst hW;simp
 clear hW;apply wp_region_lit;refine wpList_buildTo rfl 111 _ rfl (some 4) rfl zdz (by as_aux_lemma=>kernel_rfl) ?_;refine wpList_buildTo rfl 111 _ rfl (some 5) rfl zdA (by as_aux_lemma=>kernel_rfl) ?_;refine wpList_buildTo rfl 111 _ rfl (some 6) rfl zdB (by as_aux_lemma=>kernel_rfl) ?_;refine wpList_buildTo rfl 111 _ rfl (some 7) rfl zdC (by as_aux_lemma=>kernel_rfl) ?_;refine wpList_buildTo rfl 138 _ rfl (some 8) rfl zba (by as_aux_lemma=>kernel_rfl) ?_;refine Great.wpList_allocTo rfl (some 3) rfl (.pointer (some ⟨w.heap.size+1,0,none⟩)) (.cells zdN 138) ?_ ?_;exact zgS _ rfl _ _ h3;refine wpList_store_rowTo rfl 138 _ _ rfl rfl (w.heap.size+1) zba ?_ ?_ 138 zdN ?_ ?_ ?_ ?_ ?_;exact Act.eval_put_same _ 3 _ (by simp[Act.size_put]);exact(Act.eval_put_ne _ 3 8 _ (by decide)).trans (Act.eval_put_same _ 8 _ (by simp[Act.size_put]));exact zdX _ _ _ h3.symm
 ·as_aux_lemma=>kernel_rfl
 ·as_aux_lemma=>kernel_rfl
 ·as_aux_lemma=>kernel_rfl
 refine wpList_nil (hK _ _ ?_);have e1:(W.alloc (.cells zdN 138)).setRow (w.heap.size+1) zba=W.alloc (.cells zba 138):=by rw[<- h3];exact World.setRow_alloc_new _ _ _ _
 rw[e1];change Code.wp _ _ _ ⟨#[.int .i64 2,undef,.pointer (some ⟨w.heap.size,0,none⟩),.pointer (some ⟨w.heap.size+1,0,none⟩),.agg zdz,.agg zdA,.agg zdB,.agg zdC,.agg zba,undef,undef,undef,undef,undef,undef,undef,undef,undef],[]⟩ _;clear hK;go_upto_region 4 with(fail)
 rename_i K2 hK2
 apply wp_region_lit;refine Great.wpList_readTo rfl (some 15) rfl (.int .i64 2) rfl ?_;refine Great.wpList_readTo rfl (some 16) rfl (.pointer (some ⟨w.heap.size+1,2*9,none⟩)) ?_ ?_;exact zje _ (.tmp 3) (.tmp 15) rfl _ _ _ 2 (by decide) rfl rfl;refine wpList_load_mid rfl 111 _ rfl (w.heap.size+1) (2*9) rfl (zay 2).toList _ ?_ underlying111 rfl (by as_aux_lemma=>kernel_rfl) ?_
 ·intro i v hv
  rw[<- h3,zqbw _ _ _ _ _ (0,0) (zaG _ _)];exact zkV 2 (by decide) i v hv
 refine wpList_store_rowTo rfl 111 _ _ rfl rfl w.heap.size (zay 2) rfl rfl 111 zdH ?_ ?_ ?_ ?_ ?_;exact(zbK _ _ _ (by omega)).trans h1
 ·as_aux_lemma=>kernel_rfl
 ·as_aux_lemma=>kernel_rfl
 ·as_aux_lemma=>kernel_rfl
 refine wpList_nil (hK2 _ _ ?_);clear hK2
 have hb:((W.alloc (.cells zba 138)).setRow w.heap.size (zay 2)).heap[w.heap.size]?=some (.cells (zay 2) 111 (0,0)) :=
  setRow_heap _ _ _ _ _ _ ((zbK _ _ _ (by omega)).trans h1)
 have hg:w.grownBy ((W.alloc (.cells zba 138)).setRow w.heap.size (zay 2)) none :=
  zgT (zaa h2 (zGA _ _ none)) (zqab _)
 generalize (W.alloc (.cells zba 138)).setRow w.heap.size (zay 2)=W2 at *;change Code.wp _ _ _ ⟨#[.int .i64 2,undef,.pointer (some ⟨w.heap.size,0,none⟩),.pointer (some ⟨w.heap.size+1,0,none⟩),.agg zdz,.agg zdA,.agg zdB,.agg zdC,.agg zba,_,_,_,_,_,_,.int .i64 2,.pointer (some ⟨w.heap.size+1,2*9,none⟩),.agg (zay 2)],[]⟩ _;go_wp2;have hl:=run_loadVar_row (P:=prog) W2 w.heap.size 111 111 (zay 2) (0,0) _ hb underlying111 rfl (by as_aux_lemma=>kernel_rfl);refine zqby (v:=.agg (zay 2)) ?_ rfl ⟨rfl,hg⟩;exact zQbx
def zHM (w:World):Calls prog 92 #[.int .i64 3] w (zab (.agg (zay 3)) w):=by
 go_enter func92,ntmps92;go_upto_region 1 with(fail)
 rename_i K hK
 generalize hW:w.alloc (.cells #[.string ⟨#[]⟩,.string ⟨#[]⟩,.nilFunc,.nilFunc,.nilFunc,.nilFunc,.nilFunc,.nilFunc,.nilFunc] 111)=W at *;have h1:W.heap[w.heap.size]?=some (.cells zdH 111 (0,0)):=by subst hW;exact zaG _ _
 have h2:w.grownBy W none:=by subst hW;exact zGA _ _ none
 have h3:W.heap.size=w.heap.size+1:=by subst hW;simp
 clear hW;apply wp_region_lit;refine wpList_buildTo rfl 111 _ rfl (some 4) rfl zdz (by as_aux_lemma=>kernel_rfl) ?_;refine wpList_buildTo rfl 111 _ rfl (some 5) rfl zdA (by as_aux_lemma=>kernel_rfl) ?_;refine wpList_buildTo rfl 111 _ rfl (some 6) rfl zdB (by as_aux_lemma=>kernel_rfl) ?_;refine wpList_buildTo rfl 111 _ rfl (some 7) rfl zdC (by as_aux_lemma=>kernel_rfl) ?_;refine wpList_buildTo rfl 138 _ rfl (some 8) rfl zba (by as_aux_lemma=>kernel_rfl) ?_;refine Great.wpList_allocTo rfl (some 3) rfl (.pointer (some ⟨w.heap.size+1,0,none⟩)) (.cells zdN 138) ?_ ?_;exact zgS _ rfl _ _ h3;refine wpList_store_rowTo rfl 138 _ _ rfl rfl (w.heap.size+1) zba ?_ ?_ 138 zdN ?_ ?_ ?_ ?_ ?_;exact Act.eval_put_same _ 3 _ (by simp[Act.size_put]);exact(Act.eval_put_ne _ 3 8 _ (by decide)).trans (Act.eval_put_same _ 8 _ (by simp[Act.size_put]));exact zdX _ _ _ h3.symm
 ·as_aux_lemma=>kernel_rfl
 ·as_aux_lemma=>kernel_rfl
 ·as_aux_lemma=>kernel_rfl
 refine wpList_nil (hK _ _ ?_);have e1:(W.alloc (.cells zdN 138)).setRow (w.heap.size+1) zba=W.alloc (.cells zba 138):=by rw[<- h3];exact World.setRow_alloc_new _ _ _ _
 rw[e1];change Code.wp _ _ _ ⟨#[.int .i64 3,undef,.pointer (some ⟨w.heap.size,0,none⟩),.pointer (some ⟨w.heap.size+1,0,none⟩),.agg zdz,.agg zdA,.agg zdB,.agg zdC,.agg zba,undef,undef,undef,undef,undef,undef,undef,undef,undef],[]⟩ _;clear hK;go_upto_region 4 with(fail)
 rename_i K2 hK2
 apply wp_region_lit;refine Great.wpList_readTo rfl (some 15) rfl (.int .i64 3) rfl ?_;refine Great.wpList_readTo rfl (some 16) rfl (.pointer (some ⟨w.heap.size+1,3*9,none⟩)) ?_ ?_;exact zje _ (.tmp 3) (.tmp 15) rfl _ _ _ 3 (by decide) rfl rfl;refine wpList_load_mid rfl 111 _ rfl (w.heap.size+1) (3*9) rfl (zay 3).toList _ ?_ underlying111 rfl (by as_aux_lemma=>kernel_rfl) ?_
 ·intro i v hv
  rw[<- h3,zqbw _ _ _ _ _ (0,0) (zaG _ _)];exact zkV 3 (by decide) i v hv
 refine wpList_store_rowTo rfl 111 _ _ rfl rfl w.heap.size (zay 3) rfl rfl 111 zdH ?_ ?_ ?_ ?_ ?_;exact(zbK _ _ _ (by omega)).trans h1
 ·as_aux_lemma=>kernel_rfl
 ·as_aux_lemma=>kernel_rfl
 ·as_aux_lemma=>kernel_rfl
 refine wpList_nil (hK2 _ _ ?_);clear hK2
 have hb:((W.alloc (.cells zba 138)).setRow w.heap.size (zay 3)).heap[w.heap.size]?=some (.cells (zay 3) 111 (0,0)) :=
  setRow_heap _ _ _ _ _ _ ((zbK _ _ _ (by omega)).trans h1)
 have hg:w.grownBy ((W.alloc (.cells zba 138)).setRow w.heap.size (zay 3)) none :=
  zgT (zaa h2 (zGA _ _ none)) (zqab _)
 generalize (W.alloc (.cells zba 138)).setRow w.heap.size (zay 3)=W2 at *;change Code.wp _ _ _ ⟨#[.int .i64 3,undef,.pointer (some ⟨w.heap.size,0,none⟩),.pointer (some ⟨w.heap.size+1,0,none⟩),.agg zdz,.agg zdA,.agg zdB,.agg zdC,.agg zba,_,_,_,_,_,_,.int .i64 3,.pointer (some ⟨w.heap.size+1,3*9,none⟩),.agg (zay 3)],[]⟩ _;go_wp2;have hl:=run_loadVar_row (P:=prog) W2 w.heap.size 111 111 (zay 3) (0,0) _ hb underlying111 rfl (by as_aux_lemma=>kernel_rfl);refine zqby (v:=.agg (zay 3)) ?_ rfl ⟨rfl,hg⟩;exact zQbx
def zKj (w:World):Calls prog 92 #[.int .i64 0] w (zab (.agg (zay 0)) w):=by
 go_enter func92,ntmps92;go_upto_region 1 with(fail)
 rename_i K hK
 generalize hW:w.alloc (.cells #[.string ⟨#[]⟩,.string ⟨#[]⟩,.nilFunc,.nilFunc,.nilFunc,.nilFunc,.nilFunc,.nilFunc,.nilFunc] 111)=W at *;have h1:W.heap[w.heap.size]?=some (.cells zdH 111 (0,0)):=by subst hW;exact zaG _ _
 have h2:w.grownBy W none:=by subst hW;exact zGA _ _ none
 have h3:W.heap.size=w.heap.size+1:=by subst hW;simp
 clear hW;apply wp_region_lit;refine wpList_buildTo rfl 111 _ rfl (some 4) rfl zdz (by as_aux_lemma=>kernel_rfl) ?_;refine wpList_buildTo rfl 111 _ rfl (some 5) rfl zdA (by as_aux_lemma=>kernel_rfl) ?_;refine wpList_buildTo rfl 111 _ rfl (some 6) rfl zdB (by as_aux_lemma=>kernel_rfl) ?_;refine wpList_buildTo rfl 111 _ rfl (some 7) rfl zdC (by as_aux_lemma=>kernel_rfl) ?_;refine wpList_buildTo rfl 138 _ rfl (some 8) rfl zba (by as_aux_lemma=>kernel_rfl) ?_;refine Great.wpList_allocTo rfl (some 3) rfl (.pointer (some ⟨w.heap.size+1,0,none⟩)) (.cells zdN 138) ?_ ?_;exact zgS _ rfl _ _ h3;refine wpList_store_rowTo rfl 138 _ _ rfl rfl (w.heap.size+1) zba ?_ ?_ 138 zdN ?_ ?_ ?_ ?_ ?_;exact Act.eval_put_same _ 3 _ (by simp[Act.size_put]);exact(Act.eval_put_ne _ 3 8 _ (by decide)).trans (Act.eval_put_same _ 8 _ (by simp[Act.size_put]));exact zdX _ _ _ h3.symm
 ·as_aux_lemma=>kernel_rfl
 ·as_aux_lemma=>kernel_rfl
 ·as_aux_lemma=>kernel_rfl
 refine wpList_nil (hK _ _ ?_);have e1:(W.alloc (.cells zdN 138)).setRow (w.heap.size+1) zba=W.alloc (.cells zba 138):=by rw[<- h3];exact World.setRow_alloc_new _ _ _ _
 rw[e1];change Code.wp _ _ _ ⟨#[.int .i64 0,undef,.pointer (some ⟨w.heap.size,0,none⟩),.pointer (some ⟨w.heap.size+1,0,none⟩),.agg zdz,.agg zdA,.agg zdB,.agg zdC,.agg zba,undef,undef,undef,undef,undef,undef,undef,undef,undef],[]⟩ _;clear hK;go_upto_region 4 with(fail)
 rename_i K2 hK2
 apply wp_region_lit;refine Great.wpList_readTo rfl (some 15) rfl (.int .i64 0) rfl ?_;refine Great.wpList_readTo rfl (some 16) rfl (.pointer (some ⟨w.heap.size+1,0*9,none⟩)) ?_ ?_;exact zje _ (.tmp 3) (.tmp 15) rfl _ _ _ 0 (by decide) rfl rfl;refine wpList_load_mid rfl 111 _ rfl (w.heap.size+1) (0*9) rfl (zay 0).toList _ ?_ underlying111 rfl (by as_aux_lemma=>kernel_rfl) ?_
 ·intro i v hv
  exact zQbh
 refine wpList_store_rowTo rfl 111 _ _ rfl rfl w.heap.size (zay 0) rfl rfl 111 zdH ?_ ?_ ?_ ?_ ?_;exact(zbK _ _ _ (by omega)).trans h1
 ·as_aux_lemma=>kernel_rfl
 ·as_aux_lemma=>kernel_rfl
 ·as_aux_lemma=>kernel_rfl
 refine wpList_nil (hK2 _ _ ?_);clear hK2
 have hb:((W.alloc (.cells zba 138)).setRow w.heap.size (zay 0)).heap[w.heap.size]?=some (.cells (zay 0) 111 (0,0)) :=
  setRow_heap _ _ _ _ _ _ ((zbK _ _ _ (by omega)).trans h1)
 have hg:w.grownBy ((W.alloc (.cells zba 138)).setRow w.heap.size (zay 0)) none :=
  zgT (zaa h2 (zGA _ _ none)) (zqab _)
 exact zQai
def of_low (w:World)(k:Int)(h:k<0):Calls prog 92 #[.int .i64 k] w (zab (.agg (zay 0)) w):=by
 go_enter func92,ntmps92;go_upto_region 1 with(fail)
 rename_i K hK
 generalize hW:w.alloc (.cells #[.string ⟨#[]⟩,.string ⟨#[]⟩,.nilFunc,.nilFunc,.nilFunc,.nilFunc,.nilFunc,.nilFunc,.nilFunc] 111)=W at *;have h1:W.heap[w.heap.size]?=some (.cells zdH 111 (0,0)):=by subst hW;exact zaG _ _
 have h2:w.grownBy W none:=by subst hW;exact zGA _ _ none
 have h3:W.heap.size=w.heap.size+1:=by subst hW;simp
 clear hW;apply wp_region_lit;refine wpList_buildTo rfl 111 _ rfl (some 4) rfl zdz (by as_aux_lemma=>kernel_rfl) ?_;refine wpList_buildTo rfl 111 _ rfl (some 5) rfl zdA (by as_aux_lemma=>kernel_rfl) ?_;refine wpList_buildTo rfl 111 _ rfl (some 6) rfl zdB (by as_aux_lemma=>kernel_rfl) ?_;refine wpList_buildTo rfl 111 _ rfl (some 7) rfl zdC (by as_aux_lemma=>kernel_rfl) ?_;refine wpList_buildTo rfl 138 _ rfl (some 8) rfl zba (by as_aux_lemma=>kernel_rfl) ?_;refine Great.wpList_allocTo rfl (some 3) rfl (.pointer (some ⟨w.heap.size+1,0,none⟩)) (.cells zdN 138) ?_ ?_;exact zgS _ rfl _ _ h3;refine wpList_store_rowTo rfl 138 _ _ rfl rfl (w.heap.size+1) zba ?_ ?_ 138 zdN ?_ ?_ ?_ ?_ ?_;exact Act.eval_put_same _ 3 _ (by simp[Act.size_put]);exact(Act.eval_put_ne _ 3 8 _ (by decide)).trans (Act.eval_put_same _ 8 _ (by simp[Act.size_put]));exact zdX _ _ _ h3.symm
 ·as_aux_lemma=>kernel_rfl
 ·as_aux_lemma=>kernel_rfl
 ·as_aux_lemma=>kernel_rfl
 refine wpList_nil (hK _ _ ?_);have e1:(W.alloc (.cells zdN 138)).setRow (w.heap.size+1) zba=W.alloc (.cells zba 138):=by rw[<- h3];exact World.setRow_alloc_new _ _ _ _
 rw[e1];change Code.wp _ _ _ ⟨#[.int .i64 k,undef,.pointer (some ⟨w.heap.size,0,none⟩),.pointer (some ⟨w.heap.size+1,0,none⟩),.agg zdz,.agg zdA,.agg zdB,.agg zdC,.agg zba,undef,undef,undef,undef,undef,undef,undef,undef,undef],[]⟩ _;clear hK;go_upto_region 4 with(fail)
 rename_i K2 hK2
 apply wp_region_lit;refine Great.wpList_readTo rfl (some 15) rfl (.int .i64 0) rfl ?_;refine Great.wpList_readTo rfl (some 16) rfl (.pointer (some ⟨w.heap.size+1,0*9,none⟩)) ?_ ?_;exact zje _ (.tmp 3) (.tmp 15) rfl _ _ _ 0 (by decide) rfl rfl;refine wpList_load_mid rfl 111 _ rfl (w.heap.size+1) (0*9) rfl (zay 0).toList _ ?_ underlying111 rfl (by as_aux_lemma=>kernel_rfl) ?_
 ·intro i v hv
  exact zQbh
 refine wpList_store_rowTo rfl 111 _ _ rfl rfl w.heap.size (zay 0) rfl rfl 111 zdH ?_ ?_ ?_ ?_ ?_;exact(zbK _ _ _ (by omega)).trans h1
 ·as_aux_lemma=>kernel_rfl
 ·as_aux_lemma=>kernel_rfl
 ·as_aux_lemma=>kernel_rfl
 refine wpList_nil (hK2 _ _ ?_);clear hK2
 have hb:((W.alloc (.cells zba 138)).setRow w.heap.size (zay 0)).heap[w.heap.size]?=some (.cells (zay 0) 111 (0,0)) :=
  setRow_heap _ _ _ _ _ _ ((zbK _ _ _ (by omega)).trans h1)
 have hg:w.grownBy ((W.alloc (.cells zba 138)).setRow w.heap.size (zay 0)) none :=
  zgT (zaa h2 (zGA _ _ none)) (zqab _)
 exact zQai
def zKk (w:World)(k:Int)(h:4<=k):Calls prog 92 #[.int .i64 k] w (zab (.agg (zay 0)) w):=by
 have h2:¬ k<0:=by omega
 go_enter func92,ntmps92;go_upto_region 1 with(fail)
 rename_i K hK
 generalize hW:w.alloc (.cells #[.string ⟨#[]⟩,.string ⟨#[]⟩,.nilFunc,.nilFunc,.nilFunc,.nilFunc,.nilFunc,.nilFunc,.nilFunc] 111)=W at *;have h1:W.heap[w.heap.size]?=some (.cells zdH 111 (0,0)):=by subst hW;exact zaG _ _
 have h2:w.grownBy W none:=by subst hW;exact zGA _ _ none
 have h3:W.heap.size=w.heap.size+1:=by subst hW;simp
 clear hW;apply wp_region_lit;refine wpList_buildTo rfl 111 _ rfl (some 4) rfl zdz (by as_aux_lemma=>kernel_rfl) ?_;refine wpList_buildTo rfl 111 _ rfl (some 5) rfl zdA (by as_aux_lemma=>kernel_rfl) ?_;refine wpList_buildTo rfl 111 _ rfl (some 6) rfl zdB (by as_aux_lemma=>kernel_rfl) ?_;refine wpList_buildTo rfl 111 _ rfl (some 7) rfl zdC (by as_aux_lemma=>kernel_rfl) ?_;refine wpList_buildTo rfl 138 _ rfl (some 8) rfl zba (by as_aux_lemma=>kernel_rfl) ?_;refine Great.wpList_allocTo rfl (some 3) rfl (.pointer (some ⟨w.heap.size+1,0,none⟩)) (.cells zdN 138) ?_ ?_;exact zgS _ rfl _ _ h3;refine wpList_store_rowTo rfl 138 _ _ rfl rfl (w.heap.size+1) zba ?_ ?_ 138 zdN ?_ ?_ ?_ ?_ ?_;exact Act.eval_put_same _ 3 _ (by simp[Act.size_put]);exact(Act.eval_put_ne _ 3 8 _ (by decide)).trans (Act.eval_put_same _ 8 _ (by simp[Act.size_put]));exact zdX _ _ _ h3.symm
 ·as_aux_lemma=>kernel_rfl
 ·as_aux_lemma=>kernel_rfl
 ·as_aux_lemma=>kernel_rfl
 refine wpList_nil (hK _ _ ?_);have e1:(W.alloc (.cells zdN 138)).setRow (w.heap.size+1) zba=W.alloc (.cells zba 138):=by rw[<- h3];exact World.setRow_alloc_new _ _ _ _
 rw[e1];change Code.wp _ _ _ ⟨#[.int .i64 k,undef,.pointer (some ⟨w.heap.size,0,none⟩),.pointer (some ⟨w.heap.size+1,0,none⟩),.agg zdz,.agg zdA,.agg zdB,.agg zdC,.agg zba,undef,undef,undef,undef,undef,undef,undef,undef,undef],[]⟩ _;clear hK;go_upto_region 4 with(fail)
 rename_i K2 hK2
 apply wp_region_lit;refine Great.wpList_readTo rfl (some 15) rfl (.int .i64 0) rfl ?_;refine Great.wpList_readTo rfl (some 16) rfl (.pointer (some ⟨w.heap.size+1,0*9,none⟩)) ?_ ?_;exact zje _ (.tmp 3) (.tmp 15) rfl _ _ _ 0 (by decide) rfl rfl;refine wpList_load_mid rfl 111 _ rfl (w.heap.size+1) (0*9) rfl (zay 0).toList _ ?_ underlying111 rfl (by as_aux_lemma=>kernel_rfl) ?_
 ·intro i v hv
  exact zQbh
 refine wpList_store_rowTo rfl 111 _ _ rfl rfl w.heap.size (zay 0) rfl rfl 111 zdH ?_ ?_ ?_ ?_ ?_;exact(zbK _ _ _ (by omega)).trans h1
 ·as_aux_lemma=>kernel_rfl
 ·as_aux_lemma=>kernel_rfl
 ·as_aux_lemma=>kernel_rfl
 refine wpList_nil (hK2 _ _ ?_);clear hK2
 have hb:((W.alloc (.cells zba 138)).setRow w.heap.size (zay 0)).heap[w.heap.size]?=some (.cells (zay 0) 111 (0,0)) :=
  setRow_heap _ _ _ _ _ _ ((zbK _ _ _ (by omega)).trans h1)
 have hg:w.grownBy ((W.alloc (.cells zba 138)).setRow w.heap.size (zay 0)) none :=
  zgT (zaa h2 (zGA _ _ none)) (zqab _)
 exact zQai
def zqP (k:Int)(w:World):Calls prog 92 #[.int .i64 k] w (zab (zAV k) w):=by
 unfold zAV
 by_cases h1:k=1
 subst h1;exact zLw w
 by_cases h2:k=2
 subst h2;exact zLx w
 by_cases h3:k=3
 subst h3;exact zHM w
 have e:zay k=zay 0:=by
  unfold zay;rw[if_neg h1,if_neg h2,if_neg h3];rfl
 rw[e]
 by_cases h0:k=0
 subst h0;exact zKj w
 by_cases hl:k<0
 exact of_low w k hl;exact zKk w k (by omega)
open Go.RowKit
open Go.Lib (nDigits decDigits)
def zMj:Ext->Bool
 | .inl false=>true
 | _=>false
def zMk:Ext->Bool
 | .inl true=>true
 | _=>false
def isNil:Ext->Bool
 | .inr x=>decide (x=0)
 | _=>false
def zqQ {a c:ByteArray}{u v:Ext}(h:IsE a u)(k:IsE c v):decide (a=c)=decide (u=v):=by
 apply decide_eq_decide.2;exact⟨fun e=>by subst e;exact h.uniq k,fun e=>by subst e;exact h.same k⟩
def zpn:zgz.toList=[45,105,110,102]:=by decide +kernel
def zlC:zdg.toList=[105,110,102]:=by decide +kernel
def zEf:zdM.toList=[48]:=by decide +kernel
def zeK {a:ByteArray}{v:Ext}(h:IsE a v):(a.toList==[45,105,110,102])=zMj v:=by
 rw[<- zpn,zez,zqQ h lowE];rcases v with(_|_)|x
 rfl;exact zqcb (fun e=>by cases e);exact zqcb (fun e=>by cases e)
def zbX {a:ByteArray}{v:Ext}(h:IsE a v):(a.toList==[105,110,102])=zMk v:=by
 rw[<- zlC,zez,zqQ h topE];rcases v with(_|_)|x
 exact zqcb (fun e=>by cases e);rfl;exact zqcb (fun e=>by cases e)
def zjx {a:ByteArray}{v:Ext}(h:IsE a v):(a.toList==[48])=isNil v:=by
 rw[<- zEf,zez,zqQ h zof];rcases v with(_|_)|x
 exact zqcb (fun e=>by cases e);exact zqcb (fun e=>by cases e);exact decide_eq_decide.2 ⟨fun e=>Sum.inr.inj e,fun e=>by rw[e]⟩
def zty (a:ByteArray)(b1 b2:Bool)(f1:(a.toList==[45,105,110,102])=b1)(f2:(a.toList==[105,110,102])=b2)(w:World) :
  Calls prog 160 #[.string a] w fun e w'=>e=.returned (.int .i64 (if b1 then -1 else if b2 then 1 else 0))/\w=w':=by
 cases b1 <;> cases b2
 all_goals
  go_enter func160,ntmps160;exact zQaB
def zhr (a:ByteArray)(s:Int):Prop:=∀ w,Calls prog 160 #[.string a] w fun e w'=>e=.returned (.int .i64 s)/\w=w'
def zpo {a:ByteArray}{v:Ext}(h:IsE a v):zhr a (zAG v):=fun w=>by
 have k:=zty a _ _ (zeK h) (zbX h) w;rcases v with(_|_)|x <;> exact k
def zKl {a:ByteArray}(h1:a≠zgz)(h2:a≠zdg):zhr a 0:=fun w=>by
 have k:=zty a false false (by rw[<- zpn,zez];exact zqcb h1) (by rw[<- zlC,zez];exact zqcb h2) w;exact k
def zzo (a b:ByteArray)(c:Int):Prop:=∀ w,Calls prog 165 #[.string a,.string b] w (zab (.int .i64 c) w)
def zeL (a b:ByteArray)(s t c:Int)(w:World)(SA:Hid (zhr a s))(SB:Hid (zhr b t))(hc:Hid (Lib.compareInt s t=c))(f1:(c==0)=false)(f2:(c != 0)=true) :
  Calls prog 126 #[.string a,.string b] w (zab (.int .i64 c) w):=by
 go_enter func126,ntmps126;go_wp2_with fail;refine(SA.out _).mono ?_;rintro e w' ⟨rfl,rfl⟩;go_wp2_with fail;refine(SB.out _).mono ?_;rintro e w' ⟨rfl,rfl⟩;go_wp2_with fail;refine(Tryz.cmp_Compare_int s t _).mono ?_;rintro e w' ⟨rfl,rfl⟩;rw[hc.out];exact zQaN
def zkt (a b:ByteArray)(s t c:Int)(w:World)(SA:Hid (zhr a s))(SB:Hid (zhr b t))(hc:Hid (Lib.compareInt s t=0))(C:Hid (zzo a b c)) :
  Calls prog 126 #[.string a,.string b] w (zab (.int .i64 c) w):=by
 go_enter func126,ntmps126;go_wp2_with fail;refine(SA.out _).mono ?_;rintro e w' ⟨rfl,rfl⟩;go_wp2_with fail;refine(SB.out _).mono ?_;rintro e w' ⟨rfl,rfl⟩;go_wp2_with fail;refine(Tryz.cmp_Compare_int s t _).mono ?_;rintro e w' ⟨rfl,rfl⟩;rw[hc.out];go_wp2_with fail;refine(C.out _).mono ?_;exact zQau
def zfI (a b:ByteArray)(c:Int):Prop:=∀ w,Calls prog 126 #[.string a,.string b] w (zab (.int .i64 c) w)
def ziO:zeo zdg:=zsq
def ziP:zeo zgz:=zsr
def zzp:zdg.size<=maxLen:=by decide
def zzq:zgz.size<=maxLen:=by decide
def zeB {a b:ByteArray}{u v:Ext}(ha:IsE a u)(hb:IsE b v):zfI a b (zbu u v):=fun w=>by
 have sa:=zHd (zpo ha);have sb:=zHd (zpo hb);rcases u with(_|_)|x <;> rcases v with(_|_)|y
 ·cases ha;cases hb
  exact zkt _ _ _ _ _ w sa sb (zHd (show Lib.compareInt (-1) (-1)=0 by decide +kernel)) (zHd fun w=>zin zzq zzq (.inl ziP) w)
 exact zeL _ _ _ _ _ w sa sb (zHd (show Lib.compareInt (-1) (1) = -1 by decide +kernel)) rfl rfl;exact zeL _ _ _ _ _ w sa sb (zHd (show Lib.compareInt (-1) (0) = -1 by decide +kernel)) rfl rfl;exact zeL _ _ _ _ _ w sa sb (zHd (show Lib.compareInt (1) (-1)=1 by decide +kernel)) rfl rfl
 ·cases ha;cases hb
  exact zkt _ _ _ _ _ w sa sb (zHd (show Lib.compareInt (1) (1)=0 by decide +kernel)) (zHd fun w=>zin zzp zzp (.inl ziO) w)
 exact zeL _ _ _ _ _ w sa sb (zHd (show Lib.compareInt (1) (0)=1 by decide +kernel)) rfl rfl;exact zeL _ _ _ _ _ w sa sb (zHd (show Lib.compareInt (0) (-1)=1 by decide +kernel)) rfl rfl;exact zeL _ _ _ _ _ w sa sb (zHd (show Lib.compareInt (0) (1) = -1 by decide +kernel)) rfl rfl;exact zkt _ _ _ _ _ w sa sb (zHd (show Lib.compareInt (0) (0)=0 by decide +kernel)) (zHd fun w=>zqA ha hb w)
def zvV (a:ByteArray)(w:World):Calls prog 119 #[.string a] w (zab (.bool false) w):=by
 go_enter func119,ntmps119;exact zQaN
def zLy (a:ByteArray)(k:Bool):Prop:=∀ w,Calls prog 121 #[.string a] w (zab (.bool k) w)
def zml (a:ByteArray)(s:Int)(w:World)(SA:Hid (zhr a s))(f1:(s==0)=false)(f2:(s != 0)=true) :
  Calls prog 120 #[.string a] w (zab (.bool true) w):=by
 go_enter func120,ntmps120;go_wp2_with fail;refine(SA.out _).mono ?_;rintro e w' ⟨rfl,rfl⟩;exact zQaN
def zmV (a:ByteArray)(k:Bool)(w:World)(SA:Hid (zhr a 0))(V:Hid (zLy a k)) :
  Calls prog 120 #[.string a] w (zab (.bool k) w):=by
 go_enter func120,ntmps120;go_wp2_with fail;refine(SA.out _).mono ?_;rintro e w' ⟨rfl,rfl⟩;go_wp2_with fail;refine(V.out _).mono ?_;exact zQau
def zcv (F:Nat)(a:ByteArray)(k:Bool):Prop:=∀ w,Calls prog F #[.string a] w (zab (.bool k) w)
def zvW {a:ByteArray}{v:Ext}(h:IsE a v):zcv 120 a true:=fun w=>by
 have sa:=zHd (zpo h);rcases v with(_|_)|x
 exact zml a _ w sa rfl rfl;exact zml a _ w sa rfl rfl;exact zmV a true w sa (zHd fun w=>zmL h w)
def zie (a:ByteArray):Prop:=∀ v,¬ IsE a v
def zie.rat {a:ByteArray}(h:zie a):zeo a:=fun x k=>h (.inr x) k
def zie.size {a:ByteArray}(h:zie a):zhr a 0:=zKl (fun e=>h (.inl false) e) (fun e=>h (.inl true) e)
def zqR (a:ByteArray):(∃ v,IsE a v)∨zie a:=by
 by_cases h:∃ v,IsE a v
 exact .inl h;exact .inr fun v k=>h ⟨v,k⟩
def zyd {a:ByteArray}(h:zie a)(ha:a.size<=maxLen):zcv 120 a false:=fun w =>
 zmV a false w (zHd h.size) (zHd fun w=>zia h.rat ha w)
def zsA (a:ByteArray)(b k:Bool):Prop:=∃ A B,∀ w,Calls prog 166 #[.string a] w (zab (.tuple #[.bool b,.string A,.string B,.bool k]) w)
def zif (a:ByteArray)(i b k:Bool)(w:World)(f1:(a.toList==[105,110,102])=i)(P:Hid (zsA a b k)) :
  Calls prog 127 #[.string a] w (zab (.bool (i || (k && !b))) w):=by
 obtain⟨A,B,p⟩:=P.out;clear P;have P:=zHd p;clear p;cases i <;> cases b <;> cases k
 all_goals
  go_enter func127,ntmps127;go_wp2_with fail;refine(P.out _).mono ?_;exact zQau
def zEg {a:ByteArray}{x:Rat}(h:zaA a x):zsA a (sgn x) true:=⟨_,_,fun w=>zDm h w⟩
def zmW {a:ByteArray}(h:zeo a)(ha:a.size<=maxLen):zsA a false false:=⟨_,_,fun w=>zHb h ha w⟩
def zAW (x:Rat):(!sgn x)=decide (0<=x):=by
 unfold sgn;have h:=Rat.num_nonneg (q:=x)
 by_cases k:0<=x
 ·have:=h.2 k
  simp[k]
  try omega
 have h2:¬ 0<=x.num:=fun z=>k (h.1 z);simp[k]
 try omega
def zqS {a:ByteArray}{v:Ext}(h:IsE a v):zcv 127 a (zaq 2 v):=fun w=>by
 rcases v with(_|_)|x
 ·have:=zif a _ _ _ w (zbX h) (zHd (zmW (by cases h;exact ziP) (IsE.len (v:=.inl false) h)))
  exact this
 ·have:=zif a _ _ _ w (zbX h) (zHd (zmW (by cases h;exact ziO) (IsE.len (v:=.inl true) h)))
  exact this
 have:=zif a _ _ _ w (zbX h) (zHd (zEg h));rw[Bool.true_and,zAW] at this;rw[show zaq 2 (.inr x)=decide (0<=x) by simp[zaq]];exact this
def zEh {a:ByteArray}(h:zie a)(ha:a.size<=maxLen):zcv 127 a false:=fun w=>by
 have:=zif a false _ _ w (by rw[<- zlC,zez];exact zqcb (fun e=>h (.inl true) e)) (zHd (zmW h.rat ha));exact this
def zgs (a:ByteArray)(c:Int)(k:Bool)(w:World)(C:Hid (zzo a ⟨#[48]⟩ c))(hk:decide (0<c)=k) :
  Calls prog 128 #[.string a] w (zab (.bool k) w):=by
 go_enter func128,ntmps128;go_wp2_with fail;refine(C.out _).mono ?_;rintro e w1 ⟨rfl,hg⟩;have G1:=zHd hg;clear hg;go_wp2;go_ret;exact⟨by first|rfl|rw[<- hk]|simp_all,G1.out⟩
def zpp:zdM.size<=maxLen:=by decide
def zmX {a:ByteArray}{v:Ext}(h:IsE a v):zcv 128 a (zfc 2 v):=fun w=>by
 rcases v with(_|_)|x;exact zgs a 0 false w (zHd fun w=>zin (IsE.len (v:=.inl false) h) zpp (.inl (by cases h;exact ziP)) w) rfl;exact zgs a 0 false w (zHd fun w=>zin (IsE.len (v:=.inl true) h) zpp (.inl (by cases h;exact ziO)) w) rfl;refine zgs a _ _ w (zHd fun w=>zqA h zlp w) ?_;rw[show zfc 2 (.inr x)=decide (0<x) by simp[zfc]];exact decide_eq_decide.2 (zpi x 0)
def zye {a:ByteArray}(h:zie a)(ha:a.size<=maxLen):zcv 128 a false:=fun w =>
 zgs a 0 false w (zHd fun w=>zin ha zpp (.inl h.rat) w) rfl
def zqT {a:ByteArray}{v:Ext}(h:IsE a v):zcv 121 a (zfc 1 v):=fun w=>by
 rcases v with(_|_)|x;exact zia (by cases h;exact ziP) (IsE.len (v:=.inl false) h) w;exact zia (by cases h;exact ziO) (IsE.len (v:=.inl true) h) w;exact zmL h w
open Go.RowKit
open Go.Lib (nDigits decDigits)
def ziF (F:Nat)(a b:ByteArray)(V:Value):Prop:=∀ w,Calls prog F #[.string a,.string b] w (zab V w)
def zuP (F:Nat)(a:ByteArray)(V:Value):Prop:=∀ w,Calls prog F #[.string a] w (zab V w)
def okV (a:ByteArray):Value:=.tuple #[.string a,.int .i64 0]
def zyf (a b:ByteArray)(c:Int)(k:Bool)(w:World)(C:Hid (zfI b a c))(hk:decide (c<0)=k) :
  Calls prog 122 #[.string a,.string b] w (zab (okV (if k then b else a)) w):=by
 cases k
 all_goals
  have hk2:=hk;simp only[zqca,decide_eq_false_iff_not] at hk2;go_enter func122,ntmps122;go_wp2_with fail;refine(C.out _).mono ?_;exact zQaj
def zvX (a b:ByteArray)(c:Int)(k:Bool)(w:World)(C:Hid (zfI b a c))(hk:decide (0<c)=k) :
  Calls prog 134 #[.string a,.string b] w (zab (okV (if k then b else a)) w):=by
 cases k
 all_goals
  have hk2:=hk;simp only[zqca,decide_eq_false_iff_not] at hk2;go_enter func134,ntmps134;go_wp2_with fail;refine(C.out _).mono ?_;exact zQaj
def zAX {a b:ByteArray}{u v:Ext}(ha:IsE a u)(hb:IsE b v):ziF 122 a b (zbI (zct u v)):=fun w=>by
 have k:=zyf a b _ _ w (zHd (zeB hb ha)) rfl;unfold zct
 by_cases h:zbu v u<0
 ·rw[if_pos h,zgM hb]
  exact zQbN
 rw[if_neg h,zgM ha];rw[zqcb h] at k;exact k
def zyg {a b:ByteArray}{u v:Ext}(ha:IsE a u)(hb:IsE b v):ziF 134 a b (zbI (zbR u v)):=fun w=>by
 have k:=zvX a b _ _ w (zHd (zeB hb ha)) rfl;unfold zbR
 by_cases h:0<zbu v u
 ·rw[if_pos h,zgM hb]
  exact zQbN
 rw[if_neg h,zgM ha];rw[zqcb h] at k;exact k
def zir (a b:ByteArray)(i j:Bool)(w:World)(p0:(a.toList==[105,110,102])=i)(q0:(b.toList==[105,110,102])=j)(h:(i || j)=true) :
  Calls prog 123 #[.string a,.string b] w (zab (okV zdg) w):=by
 cases i <;> cases j <;> simp only[Bool.or_self,Bool.or_true,Bool.true_or,Bool.false_eq_true] at h
 all_goals
  go_enter func123,ntmps123;exact zQaY
def zmY (a b:ByteArray)(i j:Bool)(w:World)(p0:(a.toList==[105,110,102])=false)(q0:(b.toList==[105,110,102])=false)(p1:(a.toList==[45,105,110,102])=i)(q1:(b.toList==[45,105,110,102])=j)(h:(i || j)=true) :
  Calls prog 123 #[.string a,.string b] w (zab (okV zgz) w):=by
 cases i <;> cases j <;> simp only[Bool.or_self,Bool.or_true,Bool.true_or,Bool.false_eq_true] at h
 all_goals
  go_enter func123,ntmps123;exact zQaY
def zEi (a b S:ByteArray)(E:Int)(w:World)(p0:(a.toList==[105,110,102])=false)(q0:(b.toList==[105,110,102])=false)(p1:(a.toList==[45,105,110,102])=false)(q1:(b.toList==[45,105,110,102])=false)(C:Hid (ziF 162 a b (.tuple #[.string S,.int .i64 E]))) :
  Calls prog 123 #[.string a,.string b] w (zab (.tuple #[.string S,.int .i64 E]) w):=by
 go_enter func123,ntmps123;go_wp2_with fail;refine(C.out _).mono ?_;exact zQaj
def zzr (a b:ByteArray)(i j:Bool)(w:World)(p0:(a.toList==[105,110,102])=i)(q0:(b.toList==[105,110,102])=j)(h:(i || j)=true) :
  Calls prog 129 #[.string a,.string b] w (zab (okV zdg) w):=by
 cases i <;> cases j <;> simp only[Bool.or_self,Bool.or_true,Bool.true_or,Bool.false_eq_true] at h
 all_goals
  go_enter func129,ntmps129;exact zQaY
def zKm (a b S:ByteArray)(E:Int)(w:World)(p0:(a.toList==[105,110,102])=false)(q0:(b.toList==[105,110,102])=false)(C:Hid (ziF 162 a b (.tuple #[.string S,.int .i64 E]))) :
  Calls prog 129 #[.string a,.string b] w (zab (.tuple #[.string S,.int .i64 E]) w):=by
 go_enter func129,ntmps129;go_wp2_with fail;refine(C.out _).mono ?_;exact zQaj
def zEj (a b:ByteArray)(i j:Bool)(w:World)(p0:(a.toList==[48])=i)(q0:(b.toList==[48])=j)(h:(i || j)=true) :
  Calls prog 130 #[.string a,.string b] w (zab (okV zdM) w):=by
 cases i <;> cases j <;> simp only[Bool.or_self,Bool.or_true,Bool.true_or,Bool.false_eq_true] at h
 all_goals
  go_enter func130,ntmps130;exact zQaY
def zvY (a b:ByteArray)(i j:Bool)(w:World)(p0:(a.toList==[48])=false)(q0:(b.toList==[48])=false)(p1:(a.toList==[105,110,102])=i)(q1:(b.toList==[105,110,102])=j)(h:(i || j)=true) :
  Calls prog 130 #[.string a,.string b] w (zab (okV zdg) w):=by
 cases i <;> cases j <;> simp only[Bool.or_self,Bool.or_true,Bool.true_or,Bool.false_eq_true] at h
 all_goals
  go_enter func130,ntmps130;exact zQaY
def zHN (a b S:ByteArray)(E:Int)(w:World)(p0:(a.toList==[48])=false)(q0:(b.toList==[48])=false)(p1:(a.toList==[105,110,102])=false)(q1:(b.toList==[105,110,102])=false)(C:Hid (ziF 167 a b (.tuple #[.string S,.int .i64 E]))) :
  Calls prog 130 #[.string a,.string b] w (zab (.tuple #[.string S,.int .i64 E]) w):=by
 go_enter func130,ntmps130;go_wp2_with fail;refine(C.out _).mono ?_;exact zQaj
def zqU (a:ByteArray)(c:Int)(k:Bool)(w:World)(C:Hid (zfI a ⟨#[48]⟩ c))(hk:decide (c<0)=k) :
  Calls prog 124 #[.string a] w (zab (okV (if k then zgz else zdM)) w):=by
 cases k
 all_goals
  have hk2:=hk;simp only[zqca,decide_eq_false_iff_not] at hk2;go_enter func124,ntmps124;go_wp2_with fail;refine(C.out _).mono ?_;exact zQaj
def zpq (a:ByteArray)(c:Int)(k:Bool)(w:World)(C:Hid (zfI a ⟨#[49]⟩ c))(hk:decide (0<c)=k) :
  Calls prog 135 #[.string a] w (zab (okV (if k then zdg else zkr)) w):=by
 cases k
 all_goals
  have hk2:=hk;simp only[zqca,decide_eq_false_iff_not] at hk2;go_enter func135,ntmps135;go_wp2_with fail;refine(C.out _).mono ?_;exact zQaj
def zmZ (a:ByteArray)(c:Int)(w:World)(C:Hid (zfI a ⟨#[49]⟩ c))(hk:0<=c) :
  Calls prog 131 #[.string a] w (zab (okV zdg) w):=by
 go_enter func131,ntmps131;go_wp2_with fail;refine(C.out _).mono ?_;exact zQaj
def zvZ (a R S:ByteArray)(c K E:Int)(w:World)(C:Hid (zfI a ⟨#[49]⟩ c))(hk:¬ 0<=c)(D:Hid (ziF 163 ⟨#[49]⟩ a (.tuple #[.string R,.int .i64 K])))
  (V:Hid (ziF 132 ⟨#[49]⟩ R (.tuple #[.string S,.int .i64 E]))) :
  Calls prog 131 #[.string a] w (zab (.tuple #[.string S,.int .i64 E]) w):=by
 go_enter func131,ntmps131;go_wp2_with fail;refine(C.out _).mono ?_;rintro e w1 ⟨rfl,hg⟩;have G1:=zHd hg;clear hg;go_wp2_with fail;refine(D.out _).mono ?_;rintro e w2 ⟨rfl,hg⟩;have G2:=zHd (zaa G1.out hg);clear hg G1;go_wp2_with fail;refine(V.out _).mono ?_;exact zQaF
open Go.RowKit
open Go.Lib (nDigits decDigits)
structure Kind (k:Int)(z o:ByteArray)(V W:Nat)(p t s ov b:Value):Prop where
 f:∀ w,Calls prog 92 #[.int .i64 k] w (zab (.agg #[.string z,.string o,.func (.func V) #[] #[],.func (.func W) #[] #[],p,t,s,ov,b]) w)
 ev:Enters V
 ew:Enters W
 one:(p.oneCell'&&t.oneCell'&&s.oneCell'&&ov.oneCell'&&b.oneCell')=true
def zhK (v:Value):Prop:=∀ (a:Addr) (m:Mode) (w:World),(store a v m).run prog w=stored prog w a v m
def zkW {v:Value}(h:v.oneCell'=true):zhK v:=fun a m w=>run_store _ w a v m h
def zgA {p t s ov b:Value}(h:(p.oneCell'&&t.oneCell'&&s.oneCell'&&ov.oneCell'&&b.oneCell')=true):zhK p/\zhK t/\zhK s/\zhK ov/\zhK b:=by
 simp only[zqbb] at h;exact⟨zkW h.1.1.1.1,zkW h.1.1.1.2,zkW h.1.1.2,zkW h.1.2,zkW h.2⟩
def zwa {w:World}{g:Nat}{z o v x p t s ov b:Value}(h:w.heap[g]?=some (.cells #[z,o,v,x,p,t,s,ov,b] 111 (0,0))) :
  w.cell? ⟨g,0,none⟩=some z/\w.cell? ⟨g,1,none⟩=some o/\w.cell? ⟨g,2,none⟩=some v/\w.cell? ⟨g,3,none⟩=some x/\w.cell? ⟨g,4,none⟩=some p/\w.cell? ⟨g,5,none⟩=some t/\w.cell? ⟨g,6,none⟩=some s/\w.cell? ⟨g,7,none⟩=some ov/\w.cell? ⟨g,8,none⟩=some b :=
 ⟨by rw[zqbw w g 0 _ _ (0,0) h];rfl,by rw[zqbw w g 1 _ _ (0,0) h];rfl,by rw[zqbw w g 2 _ _ (0,0) h];rfl,by rw[zqbw w g 3 _ _ (0,0) h];rfl,by rw[zqbw w g 4 _ _ (0,0) h];rfl,by rw[zqbw w g 5 _ _ (0,0) h];rfl,by rw[zqbw w g 6 _ _ (0,0) h];rfl,by rw[zqbw w g 7 _ _ (0,0) h];rfl,by rw[zqbw w g 8 _ _ (0,0) h];rfl⟩
@[go_sem] theorem field_z (z o v x p t s ov b:Value) (w:World):(Instr.field 111 (.agg #[z,o,v,x,p,t,s,ov,b]) 0).run prog w=.ok z w:=by kernel_rfl
@[go_sem] theorem field_o (z o v x p t s ov b:Value) (w:World):(Instr.field 111 (.agg #[z,o,v,x,p,t,s,ov,b]) 1).run prog w=.ok o w:=by kernel_rfl
@[go_sem] theorem field_v (z o v x p t s ov b:Value) (w:World):(Instr.field 111 (.agg #[z,o,v,x,p,t,s,ov,b]) 2).run prog w=.ok v w:=by kernel_rfl
@[go_sem] theorem field_x (z o v x p t s ov b:Value) (w:World):(Instr.field 111 (.agg #[z,o,v,x,p,t,s,ov,b]) 3).run prog w=.ok x w:=by kernel_rfl
def zoM {k:Int}{z o:ByteArray}{V W:Nat}{p t s ov b:Value}(K:Hid (Kind k z o V W p t s ov b))(a:ByteArray)(x:Bool)(w:World)(X:Hid (zcv V a x)) :
  Calls prog 65 #[.int .i64 k,.string a] w (zab (.bool x) w):=by
 have HE:=zHd K.out.ev;go_enter func65,ntmps65;exact zQaK
def zna {k:Int}{z o:ByteArray}{V W:Nat}{p t s ov b:Value}(K:Hid (Kind k z o V W p t s ov b))(a:ByteArray)(x:Bool)(w:World)(X:Hid (zcv W a x)) :
  Calls prog 110 #[.int .i64 k,.string a] w (zab (.bool x) w):=by
 have HE:=zHd K.out.ew;go_enter func110,ntmps110;exact zQaK
def zAY {k:Int}{z o:ByteArray}{V W:Nat}{p t s ov b:Value}(K:Hid (Kind k z o V W p t s ov b))(w:World):Calls prog 91 #[.int .i64 k] w (zab (.string z) w):=by
 go_enter func91,ntmps91;obtain⟨u1,u2,u3,u4,u5⟩:=zgA K.out.one;unfold zhK at u1 u2 u3 u4 u5;go_wp2_with fail;refine(K.out.f _).mono ?_;exact zQau
def zEk {k:Int}{z o:ByteArray}{V W:Nat}{p t s ov b:Value}(K:Hid (Kind k z o V W p t s ov b))(w:World):Calls prog 66 #[.int .i64 k] w (zab (.string o) w):=by
 go_enter func66,ntmps66;obtain⟨u1,u2,u3,u4,u5⟩:=zgA K.out.one;unfold zhK at u1 u2 u3 u4 u5;go_wp2_with fail;refine(K.out.f _).mono ?_;exact zQau
def zpr {k:Int}{z o:ByteArray}{V W F:Nat}{t s ov b:Value}(K:Hid (Kind k z o V W (.func (.func F) #[] #[]) t s ov b))(EF:Hid (Enters F))(a c:ByteArray)(S:ByteArray)(E:Int)(w:World)(X:Hid (zcv V a true))(Y:Hid (zcv V c true))(C:Hid (ziF F a c (.tuple #[.string S,.int .i64 E]))) :
  Calls prog 105 #[.int .i64 k,.string a,.string c] w (zab (.tuple #[.string S,.int .i64 E]) w):=by
 have HE:=zHd K.out.ev;go_enter func105,ntmps105;exact zQaq
def znb {k:Int}{z o:ByteArray}{V W F:Nat}{p s ov b:Value}(K:Hid (Kind k z o V W p (.func (.func F) #[] #[]) s ov b))(EF:Hid (Enters F))(a c:ByteArray)(S:ByteArray)(E:Int)(w:World)(X:Hid (zcv V a true))(Y:Hid (zcv V c true))(C:Hid (ziF F a c (.tuple #[.string S,.int .i64 E]))) :
  Calls prog 56 #[.int .i64 k,.string a,.string c] w (zab (.tuple #[.string S,.int .i64 E]) w):=by
 have HE:=zHd K.out.ev;go_enter func56,ntmps56;exact zQaq
def zps {k:Int}{z o:ByteArray}{V W F:Nat}{p t ov b:Value}(K:Hid (Kind k z o V W p t (.func (.func F) #[] #[]) ov b))(EF:Hid (Enters F))(a S:ByteArray)(E:Int)(w:World)(X:Hid (zcv V a true))(C:Hid (zuP F a (.tuple #[.string S,.int .i64 E]))) :
  Calls prog 183 #[.int .i64 k,.string a] w (zab (.tuple #[.string S,.int .i64 E]) w):=by
 have HE:=zHd K.out.ev;go_enter func183,ntmps183;obtain⟨u1,u2,u3,u4,u5⟩:=zgA K.out.one;unfold zhK at u1 u2 u3 u4 u5;go_wp2_with fail;refine(K.out.f _).mono ?_;rintro e w1 ⟨rfl,hg⟩;have G1:=zHd hg;clear hg;go_wp2_with fail;rw[HE.out];refine(X.out _).mono ?_;rintro e w2 ⟨rfl,hg⟩;have HB:=zHd (alloc_old hg);have hc:=zwa HB.out;have G2:=zHd (zaa G1.out (zaa (zGA _ _ none) hg));clear hg;clear HB;go_wp2_with fail;rw[EF.out];refine(C.out _).mono ?_;rintro e w3 ⟨rfl,hg⟩;have G3:=zHd (zaa G2.out hg);clear hg hc;go_wp2;go_ret2;exact⟨rfl,G3.out⟩
open Go.RowKit
open Go.Lib (nDigits decDigits)
def zoN:Enters 119:=enters_of func119 (by kernel_rfl) rfl
def zqV:Enters 120:=enters_of func120 (by kernel_rfl) rfl
def zwb:Enters 121:=enters_of func121 (by kernel_rfl) rfl
def zmm:Enters 127:=enters_of func127 (by kernel_rfl) rfl
def zka:Enters 128:=enters_of func128 (by kernel_rfl) rfl
def zuv:Enters 122:=enters_of func122 (by kernel_rfl) rfl
def zsB:Enters 134:=enters_of func134 (by kernel_rfl) rfl
def zwc:Enters 123:=enters_of func123 (by kernel_rfl) rfl
def enters_sum':Enters 129:=enters_of func129 (by kernel_rfl) rfl
def enters_product':Enters 130:=enters_of func130 (by kernel_rfl) rfl
def zwd:Enters 124:=enters_of func124 (by kernel_rfl) rfl
def zwe:Enters 131:=enters_of func131 (by kernel_rfl) rfl
def zwf:Enters 135:=enters_of func135 (by kernel_rfl) rfl
def zlD:Kind 1 zdg zdM 120 121 (fnV 122) (fnV 123) (fnV 124) (fnV 125) (fnV 126) :=
 ⟨fun w=>zqP 1 w,zqV,zwb,rfl⟩
def zlE:Kind 2 zdM zkr 127 128 (fnV 129) (fnV 130) (fnV 131) (fnV 132) (fnV 133) :=
 ⟨fun w=>zqP 2 w,zmm,zka,rfl⟩
def ziQ:Kind 3 zdM zkr 127 128 (fnV 134) (fnV 130) (fnV 135) (fnV 132) (fnV 133) :=
 ⟨fun w=>zqP 3 w,zmm,zka,rfl⟩
def zEl {k:Int}(h1:k≠1)(h2:k≠2)(h3:k≠3):Kind k ⟨#[]⟩ ⟨#[]⟩ 119 119 .nilFunc .nilFunc .nilFunc .nilFunc .nilFunc :=
 ⟨fun w=>by
  have h:=zqP k w;unfold zAV zay at h;rw[if_neg h1,if_neg h2,if_neg h3] at h;exact h,zoN,zoN,rfl⟩
def zag (k:Int):ByteArray:=if k=1 then zdg else if k=2∨k=3 then zdM else ⟨#[]⟩
def zal (k:Int):ByteArray:=if k=1 then zdM else if k=2∨k=3 then zkr else ⟨#[]⟩
structure znc (k:Int)(V W:Nat):Prop where
 vy:∀ a v,Val k a v->zcv V a true
 vn:∀ a,a.size<=maxLen->zqI k a->zcv V a false
 wy:∀ a v,Wgt k a v->zcv W a true
 wn:∀ a,a.size<=maxLen->zuO k a->zcv W a false
def zkX:znc 1 120 121:=by
 refine⟨fun a v h=>zvW h.e,fun a ha h=>zyd (fun v k=>?_) ha,fun a v h=>?_,fun a ha h=>?_⟩;have:=h v k;rw[zoh] at this;cases this;have:=zqT h.e;rw[h.has] at this;exact this;rcases zqR a with⟨v,hv⟩|hn
 ·have:=zqT hv;rw[h v hv] at this;exact this
 exact fun w=>zia hn.rat ha w
def zgm:znc 2 127 128:=by
 refine⟨fun a v h=>?_,fun a ha h=>?_,fun a v h=>?_,fun a ha h=>?_⟩;have:=zqS h.e;rw[h.has] at this;exact this
 ·rcases zqR a with⟨v,hv⟩|hn
  ·have:=zqS hv;rw[h v hv] at this;exact this
  exact zEh hn ha
 have:=zmX h.e;rw[h.has] at this;exact this;rcases zqR a with⟨v,hv⟩|hn
 ·have:=zmX hv;rw[h v hv] at this;exact this
 exact zye hn ha
def zhL:znc 3 127 128 :=
 ⟨fun a v h=>zgm.vy a v ⟨h.e,by rw[zcD];exact h.has⟩,fun a ha h=>zgm.vn a ha (fun v hv=>by rw[zcD];exact h v hv),
  fun a v h=>zgm.wy a v ⟨h.e,by rw[zzf];exact h.has⟩,fun a ha h=>zgm.wn a ha (fun v hv=>by rw[zzf];exact h v hv)⟩
def zKn {k:Int}(h1:k≠1)(h2:k≠2)(h3:k≠3):znc k 119 119 :=
 ⟨fun a v h=>absurd h.has (by rw[zss h1 h2 h3];simp),fun a _ _=>zvV a,fun a v h=>absurd h.val.has (by rw[zss h1 h2 h3];simp),fun a _ _=>zvV a⟩
def zhM (k:Int):∃ V W p t s ov b,Kind k (zag k) (zal k) V W p t s ov b/\znc k V W:=by
 unfold zag zal
 by_cases h1:k=1
 subst h1;exact⟨_,_,_,_,_,_,_,zlD,zkX⟩
 by_cases h2:k=2
 subst h2;exact⟨_,_,_,_,_,_,_,zlE,zgm⟩
 by_cases h3:k=3
 subst h3;exact⟨_,_,_,_,_,_,_,ziQ,zhL⟩;simp only[h1,h2,h3,if_false,or_self];exact⟨_,_,_,_,_,_,_,zEl h1 h2 h3,zKn h1 h2 h3⟩
def VB (F:Nat)(k:Int)(a:ByteArray)(x:Bool):Prop:=∀ w,Calls prog F #[.int .i64 k,.string a] w (zab (.bool x) w)
def zqW {k:Int}{a:ByteArray}{v:Ext}(h:Val k a v):VB 65 k a true:=fun w=>by
 obtain⟨V,W,p,t,s,ov,b,K,I⟩:=zhM k;exact zoM (zHd K) a true w (zHd (I.vy a v h))
def ztz {k:Int}{a:ByteArray}(h:zqI k a)(ha:a.size<=maxLen):VB 65 k a false:=fun w=>by
 obtain⟨V,W,p,t,s,ov,b,K,I⟩:=zhM k;exact zoM (zHd K) a false w (zHd (I.vn a ha h))
def zyh {k:Int}{a:ByteArray}{v:Ext}(h:Wgt k a v):VB 110 k a true:=fun w=>by
 obtain⟨V,W,p,t,s,ov,b,K,I⟩:=zhM k;exact zna (zHd K) a true w (zHd (I.wy a v h))
def zAZ {k:Int}{a:ByteArray}(h:zuO k a)(ha:a.size<=maxLen):VB 110 k a false:=fun w=>by
 obtain⟨V,W,p,t,s,ov,b,K,I⟩:=zhM k;exact zna (zHd K) a false w (zHd (I.wn a ha h))
def zEm (k:Int)(w:World):Calls prog 91 #[.int .i64 k] w (zab (.string (zag k)) w):=by
 obtain⟨V,W,p,t,s,ov,b,K,I⟩:=zhM k;exact zAY (zHd K) w
def zpt (k:Int)(w:World):Calls prog 66 #[.int .i64 k] w (zab (.string (zal k)) w):=by
 obtain⟨V,W,p,t,s,ov,b,K,I⟩:=zhM k;exact zEk (zHd K) w
def SOp (F:Nat)(k:Int)(a b:ByteArray)(V:Value):Prop:=∀ w,Calls prog F #[.int .i64 k,.string a,.string b] w (zab V w)
def znd (v:Ext):∃ S E,zbI v=.tuple #[.string S,.int .i64 E]:=by
 rcases v with(_|_)|x;exact⟨_,_,rfl⟩;exact⟨_,_,rfl⟩;exact zbx x
def zKo {a b:ByteArray}{u v:Ext}(ha:IsE a u)(hb:IsE b v)(hu:zaq 2 u=true)(hv:zaq 2 v=true):ziF 129 a b (zbI (zdr u v)):=fun w=>by
 have i:=zbX ha;have j:=zbX hb;rcases u with(_|_)|x
 cases hu;exact zzr a b _ _ w i j rfl;rcases v with(_|_)|y;cases hv;exact zzr a b _ _ w i j rfl;obtain⟨S,E,e⟩:=zbx (x+y);have C:=fun w=>zzb ha hb w;show Calls _ _ _ w (zab (zcV (x+y)) w);rw[e] at C ⊢;exact zKm a b S E w i j (zHd C)
def zEn {a b:ByteArray}{u v:Ext}(ha:IsE a u)(hb:IsE b v):ziF 123 a b (zbI (zco u v)):=fun w=>by
 have i:=zbX ha;have j:=zbX hb;have m:=zeK ha;have n:=zeK hb;rcases u with(_|_)|x <;> rcases v with(_|_)|y
 exact zmY a b _ _ w i j m n rfl;exact zir a b _ _ w i j rfl;exact zmY a b _ _ w i j m n rfl;exact zir a b _ _ w i j rfl;exact zir a b _ _ w i j rfl;exact zir a b _ _ w i j rfl;exact zmY a b _ _ w i j m n rfl;exact zir a b _ _ w i j rfl;obtain⟨S,E,e⟩:=zbx (x+y);have C:=fun w=>zzb ha hb w;show Calls _ _ _ w (zab (zcV (x+y)) w);rw[e] at C ⊢;exact zEi a b S E w i j m n (zHd C)
def zeroV:zbI (.inr 0)=okV zdM:=zhA zlp
def zeV (v:Ext):isNil v=true↔v=.inr 0:=by
 rcases v with(_|_)|x;exact⟨fun h=>(by cases h),fun h=>(by cases h)⟩;exact⟨fun h=>(by cases h),fun h=>(by cases h)⟩;exact⟨fun h=>by rw[of_decide_eq_true h],fun h=>decide_eq_true (Sum.inr.inj h)⟩
def zwg {a b:ByteArray}{u v:Ext}(ha:IsE a u)(hb:IsE b v)(hu:zaq 2 u=true)(hv:zaq 2 v=true):ziF 130 a b (zbI (zaP u v)):=fun w=>by
 have i:=zbX ha;have j:=zbX hb;have m:=zjx ha;have n:=zjx hb;unfold zaP
 by_cases h:u=.inr 0∨v=.inr 0
 ·rw[if_pos h,zeroV]
  refine zEj a b _ _ w m n ?_;rw[Bool.or_eq_true,zeV,zeV];exact h
 rw[if_neg h];have hm:isNil u=false:=by rw[<- Bool.not_eq_true,zeV];exact fun k=>h (.inl k)
 have hn:isNil v=false:=by rw[<- Bool.not_eq_true,zeV];exact fun k=>h (.inr k)
 rw[hm] at m;rw[hn] at n;rcases u with(_|_)|x
 cases hu;exact zvY a b _ _ w m n i j rfl;rcases v with(_|_)|y;cases hv;exact zvY a b _ _ w m n i j rfl;obtain⟨S,E,e⟩:=zbx (x*y);have C:=fun w=>zJZ ha hb w;show Calls _ _ _ w (zab (zcV (x*y)) w);rw[e] at C ⊢;exact zHN a b S E w m n i j (zHd C)
def zEo {k:Int}{a b:ByteArray}{u v:Ext}(ha:Val k a u)(hb:Val k b v):SOp 105 k a b (zbI (zcI k u v)):=fun w=>by
 obtain⟨S,E,e⟩:=znd (zcI k u v);rw[e];rcases ha.kind with rfl|rfl|rfl
 ·have C:=zAX ha.e hb.e
  rw[show zct u v=zcI 1 u v from rfl,e] at C;exact zpr (zHd zlD) (zHd zuv) a b S E w (zHd (zkX.vy a u ha)) (zHd (zkX.vy b v hb)) (zHd C)
 ·have C:=zKo ha.e hb.e ha.has hb.has
  rw[show zdr u v=zcI 2 u v from rfl,e] at C;exact zpr (zHd zlE) (zHd enters_sum') a b S E w (zHd (zgm.vy a u ha)) (zHd (zgm.vy b v hb)) (zHd C)
 have C:=zyg ha.e hb.e;rw[show zbR u v=zcI 3 u v from rfl,e] at C;exact zpr (zHd ziQ) (zHd zsB) a b S E w (zHd (zhL.vy a u ha)) (zHd (zhL.vy b v hb)) (zHd C)
def zBa {k:Int}{a b:ByteArray}{u v:Ext}(ha:Val k a u)(hb:Val k b v):SOp 56 k a b (zbI (zbi k u v)):=fun w=>by
 obtain⟨S,E,e⟩:=znd (zbi k u v);rw[e];rcases ha.kind with rfl|rfl|rfl
 ·have C:=zEn ha.e hb.e
  rw[show zco u v=zbi 1 u v from rfl,e] at C;exact znb (zHd zlD) (zHd zwc) a b S E w (zHd (zkX.vy a u ha)) (zHd (zkX.vy b v hb)) (zHd C)
 ·have C:=zwg ha.e hb.e ha.has hb.has
  rw[show zaP u v=zbi 2 u v from rfl,e] at C;exact znb (zHd zlE) (zHd enters_product') a b S E w (zHd (zgm.vy a u ha)) (zHd (zgm.vy b v hb)) (zHd C)
 have C:=zwg ha.e hb.e (by rw[zcD];exact ha.has) (by rw[zcD];exact hb.has);rw[show zaP u v=zbi 3 u v from rfl,e] at C;exact znb (zHd ziQ) (zHd enters_product') a b S E w (zHd (zhL.vy a u ha)) (zHd (zhL.vy b v hb)) (zHd C)
def zHO (F:Nat)(k:Int)(a:ByteArray)(V:Value):Prop:=∀ w,Calls prog F #[.int .i64 k,.string a] w (zab V w)
def zEp {a:ByteArray}{u:Ext}(ha:IsE a u):zuP 124 a (zbI (zcJ 1 u)):=fun w=>by
 have k:=zqU a _ _ w (zHd (zeB ha zof)) rfl;show Calls _ _ _ w (zab (zbI (if zbu u (.inr 0)<0 then .inl false else .inr 0)) w)
 by_cases h:zbu u (.inr 0)<0
 ·rw[if_pos h]
  exact zQbN
 rw[if_neg h,zeroV];rw[zqcb h] at k;exact k
def oneV:zbI (.inr 1)=okV zkr:=zhA zhG
def zEq {a:ByteArray}{u:Ext}(ha:IsE a u):zuP 135 a (zbI (zcJ 3 u)):=fun w=>by
 have k:=zpq a _ _ w (zHd (zeB ha zhG)) rfl;show Calls _ _ _ w (zab (zbI (if 0<zbu u (.inr 1) then .inl true else .inr 1)) w)
 by_cases h:0<zbu u (.inr 1)
 ·rw[if_pos h]
  exact zQbN
 rw[if_neg h,oneV];rw[zqcb h] at k;exact k
def zEr {a:ByteArray}{u:Ext}(ha:IsE a u)(hu:zaq 2 u=true):zuP 131 a (zbI (zcJ 2 u)):=fun w=>by
 rcases zaE u hu with rfl|⟨x,rfl,hx⟩;exact zmZ a _ w (zHd (zeB ha zhG)) (by decide);show Calls _ _ _ w (zab (zbI (if x<1 then .inr (1/(1-x)) else .inl true)) w)
 by_cases h:x<1
 ·rw[if_pos h]
  have hs:=zqJ hx (Rat.le_of_lt h) (show zbr x from zaA.short ha);have hR:zaA (zeE (1-x)) (1-x):=⟨hs,rfl⟩;have hne:(1-x).num≠0:=zoj h;obtain⟨S,E,e⟩:=zbx (1/(1-x));show Calls _ _ _ w (zab (zcV (1/(1-x))) w);have D:=fun w=>zJY zhG ha w;have V:=fun w=>zKa zhG hR hne w;rw[zhA hR] at D;rw[e] at V ⊢;exact zvZ a _ S _ 0 E w (zHd (zeB ha zhG)) (fun k=>by have:=(zfG x 1).2 h;have k:0<=zcz x 1:=k;omega) (zHd D) (zHd V)
 rw[if_neg h];refine zmZ a _ w (zHd (zeB ha zhG)) ?_;have:¬ zcz x 1<0:=fun k=>h ((zfG x 1).1 k);show 0<=zcz x 1;omega
def zEs {k:Int}{a:ByteArray}{u:Ext}(ha:Val k a u):zHO 183 k a (zbI (zcJ k u)):=fun w=>by
 obtain⟨S,E,e⟩:=znd (zcJ k u);rw[e];rcases ha.kind with rfl|rfl|rfl
 ·have C:=zEp ha.e
  rw[e] at C;exact zps (zHd zlD) (zHd zwd) a S E w (zHd (zkX.vy a u ha)) (zHd C)
 ·have C:=zEr ha.e ha.has
  rw[e] at C;exact zps (zHd zlE) (zHd zwe) a S E w (zHd (zgm.vy a u ha)) (zHd C)
 have C:=zEq ha.e;rw[e] at C;exact zps (zHd ziQ) (zHd zwf) a S E w (zHd (zhL.vy a u ha)) (zHd C)
def zHP {k:Int}(h:k=1∨k=2∨k=3):IsE (zag k) (zic k):=by
 rcases h with rfl|rfl|rfl;exact topE;exact zof;exact zof
def zsC {k:Int}(h:k=1∨k=2∨k=3):IsE (zal k) (ziq k):=by
 rcases h with rfl|rfl|rfl;exact zof;exact zhG;exact zhG
open Go.RowKit
section
variable {k:Int}
def tx (v:El k):ByteArray:=zsv v.1
def zam (v:El k):Prop:=Fits v.1
def zbl (k:Int):Value:=.agg #[.int .i64 k,.string (zag k),.string (zal k)]
def zpu (k:Int)(a:ByteArray):Value:=.agg #[.int .i64 k,.string (zag k),.string (zal k),.string a]
def zkY (P:Prop)(V:Value)(w:World)(e:Ending)(w':World):Prop:=(P/\zab V w e w')∨(¬ P/\zfY 2 w e w')
def zuQ {v:El k}(h:zam v):IsE (tx v) v.1:=zzh h
def zfJ {v:El k}(h:zam v):Val k (tx v) v.1:=⟨zuQ h,v.2⟩
def zdj (hk:zad k):tx (srE k hk).zero=zag k:=(zHP hk).text.symm
def zwh (hk:zad k):tx (srE k hk).one=zal k:=(zsC hk).text.symm
def zce (hk:zad k):zam (srE k hk).zero:=(zdR k).fits (by omega)
def zsD (hk:zad k):zam (srE k hk).one:=(zhp k).fits (by omega)
def zds {u v:El k}(hu:zam u)(hv:zam v)(h:tx u=tx v):u=v:=Subtype.ext ((zuQ hu).uniq (h▸zuQ hv))
def zfd (hk:zad k){u:El k}(hu:zam u)(h:tx u=zag k):u=(srE k hk).zero:=zds hu (zce hk) (by rw[h,zdj])
def ztA (hk:zad k){u:El k}(hu:zam u)(h:tx u=zal k):u=(srE k hk).one:=zds hu (zsD hk) (by rw[h,zwh])
def zlF {v:Ext}(h:¬ Fits v):zbI v=.tuple #[.string ⟨#[]⟩,.int .i64 2]:=by
 rcases v with(_|_)|x;exact absurd trivial h;exact absurd trivial h;exact zgE h
def zdn (a b:ByteArray):((a.toList==b.toList)=true/\a=b)∨((a.toList==b.toList)=false/\a≠b):=by
 by_cases h:a=b
 left;exact⟨by rw[h];exact beq_self_eq_true _,h⟩;right;refine⟨?_,h⟩;rw[Bool.eq_false_iff];intro e;have:=eq_of_beq e;rw[Lib.toList_data,Lib.toList_data] at this;exact h (ByteArray.ext (Array.ext' this))
def zpv (a:ByteArray)(w:World):Calls prog 55 #[.string a,.int .i64 0] w (zab (.string a) w):=by
 go_enter func55,ntmps55;exact zQaN
def zne (a:ByteArray)(w:World):Calls prog 55 #[.string a,.int .i64 2] w (zfY 2 w):=by
 go_enter func55,ntmps55;go_wp2;exact⟨rfl,rfl,zae _ _⟩
def zkb (hk:zad k){u v:El k}(hu:zam u)(hv:zam v)(w:World) :
  Calls prog 80 #[zbl k,.string (tx u),.string (tx v)] w (zkY (zam ((srE k hk).add u v)) (.string (tx ((srE k hk).add u v))) w):=by
 unfold zbl;rcases zdn (tx u) (zag k) with⟨f1,e1⟩|⟨f1,e1⟩
 ·have hz:=zfd hk hu e1
  have hs:(srE k hk).add u v=v:=by rw[hz,(srE k hk).zero_add]
  rw[hs];have HFV:=zHd hv;clear hs hz e1;go_enter func80,ntmps80;go_wp2;go_ret;exact .inl ⟨HFV.out,rfl,zGA _ _ _⟩
 rcases zdn (tx v) (zag k) with⟨f2,e2⟩|⟨f2,e2⟩
 ·have hz:=zfd hk hv e2
  have hs:(srE k hk).add u v=u:=by rw[hz,(srE k hk).add_zero]
  rw[hs];clear hs hz e2 e1;go_enter func80,ntmps80;exact zQbF
 have hp:=zEo (zfJ hu) (zfJ hv);clear e1 e2
 by_cases hf:zam ((srE k hk).add u v)
 ·have e:zbI (zcI k u.1 v.1)=.tuple #[.string (tx ((srE k hk).add u v)),.int .i64 0]:=zmR hf
  rw[e] at hp;have HP:=zHd hp;have HFF:=zHd hf;clear hp e hf;generalize (srE k hk).add u v=s at *;go_enter func80,ntmps80;exact zQaz
 have e:zbI (zcI k u.1 v.1)=.tuple #[.string ⟨#[]⟩,.int .i64 2]:=zlF hf;rw[e] at hp;have HP:=zHd hp;have HF:=zHd hf;clear hp e hf;go_enter func80,ntmps80;exact zQaD
def zqX (hk:zad k){u v:El k}(hu:zam u)(hv:zam v)(w:World) :
  Calls prog 28 #[zbl k,.string (tx u),.string (tx v)] w (zkY (zam ((srE k hk).mul u v)) (.string (tx ((srE k hk).mul u v))) w):=by
 unfold zbl;rcases zdn (tx u) (zag k) with⟨f1,e1⟩|⟨f1,e1⟩
 ·have hz:=zfd hk hu e1
  have hs:(srE k hk).mul u v=u:=by rw[hz,(srE k hk).zero_mul]
  rw[hs];clear hs hz e1;go_enter func28,ntmps28;exact zQbF
 rcases zdn (tx v) (zal k) with⟨f2,e2⟩|⟨f2,e2⟩
 ·have hz:=ztA hk hv e2
  have hs:(srE k hk).mul u v=u:=by rw[hz,(srE k hk).mul_one]
  rw[hs];clear hs hz e2 e1;go_enter func28,ntmps28;exact zQbF
 rcases zdn (tx v) (zag k) with⟨f3,e3⟩|⟨f3,e3⟩
 ·have hz:=zfd hk hv e3
  have hs:(srE k hk).mul u v=v:=(by rw[hz,(srE k hk).mul_zero]);rw[hs];clear hs hz e2 e1 e3;exact zQbM
 rcases zdn (tx u) (zal k) with⟨f4,e4⟩|⟨f4,e4⟩
 ·have hz:=ztA hk hu e4
  have hs:(srE k hk).mul u v=v:=(by rw[hz,(srE k hk).one_mul]);rw[hs];clear hs hz e2 e1 e3 e4;exact zQbM
 have hp:=zBa (zfJ hu) (zfJ hv);clear e1 e2 e3 e4
 by_cases hf:zam ((srE k hk).mul u v)
 ·have e:zbI (zbi k u.1 v.1)=.tuple #[.string (tx ((srE k hk).mul u v)),.int .i64 0]:=zmR hf
  rw[e] at hp;have HP:=zHd hp;have HFF:=zHd hf;clear hp e hf;generalize (srE k hk).mul u v=s at *;go_enter func28,ntmps28;exact zQaz
 have e:zbI (zbi k u.1 v.1)=.tuple #[.string ⟨#[]⟩,.int .i64 2]:=zlF hf;rw[e] at hp;have HP:=zHd hp;have HF:=zHd hf;clear hp e hf;go_enter func28,ntmps28;exact zQaD
def zEt (hk:zad k){u:El k}(hu:zam u)(w:World) :
  Calls prog 147 #[zbl k,.string (tx u)] w (zkY (zam ((srE k hk).star u)) (.string (tx ((srE k hk).star u))) w):=by
 unfold zbl;have hp:=zEs (zfJ hu)
 by_cases hf:zam ((srE k hk).star u)
 ·have e:zbI (zcJ k u.1)=.tuple #[.string (tx ((srE k hk).star u)),.int .i64 0]:=zmR hf
  rw[e] at hp;have HP:=zHd hp;have HFF:=zHd hf;clear hp e hf;generalize (srE k hk).star u=s at *;go_enter func147,ntmps147;exact zQaz
 have e:zbI (zcJ k u.1)=.tuple #[.string ⟨#[]⟩,.int .i64 2]:=zlF hf;rw[e] at hp;have HP:=zHd hp;have HF:=zHd hf;clear hp e hf;go_enter func147,ntmps147;exact zQaD
def znf (hk:zad k){u v:El k}(hu:zam u)(hv:zam v)(w:World) :
  Calls prog 148 #[zpu k (tx u),.string (tx v)] w (zkY (zam ((srE k hk).mul u v)) (.string (tx ((srE k hk).mul u v))) w):=by
 have ht:=fun w'=>zqX hk hu hv w';unfold zpu;unfold zbl at *;have HT:=zHd ht;clear ht;go_enter func148,ntmps148;go_wp2_with fail;refine(HT.out _).mono ?_;rintro e w1 (⟨hp,rfl,hg⟩|⟨hn,rfl,hg⟩)
 ·have HG:=zHd hg;have HPP:=zHd hp
  clear hg HT hp;go_wp2;go_ret;exact .inl ⟨HPP.out,rfl,zaa (zGA _ _ none) HG.out⟩
 exact⟨rfl,.inr ⟨hn,rfl,zaa (zGA _ _ none) hg⟩⟩
def zan (w:World)(cur:Array Value)(t:TypeId){j:Nat}{u:Value}(h:cur[j]?=some u):(w.alloc (.cells cur t)).cell? ⟨w.heap.size,j,none⟩=some u:=by
 rw[zqbw (w.alloc (.cells cur t)) w.heap.size j cur t (0,0) (by show(w.heap.push _)[w.heap.size]?=_;rw[zqaz])];exact h
def zqY (hk:zad k){u v t:El k}(hu:zam u)(hv:zam v)(ht:zam t)(w:World) :
  Calls prog 104 #[zpu k (tx u),.string (tx t),.string (tx v)] w (zkY (zam ((srE k hk).mul u v)/\zam ((srE k hk).add t ((srE k hk).mul u v))) (.string (tx ((srE k hk).add t ((srE k hk).mul u v)))) w):=by
 have h1:=fun w'=>znf hk hu hv w';have h2:=fun(hm:zam ((srE k hk).mul u v)) w'=>zkb hk ht hm w';generalize (srE k hk).mul u v=p at *;generalize (srE k hk).add t p=s at *;unfold zpu at *;unfold zbl at *;have H1:=zHd h1;have H2:=zHd h2;clear h1 h2;go_enter func104,ntmps104;go_upto_region 1 with(fail);have x0:(w.alloc (.cells #[.int .i64 k,.string (zag k),.string (zal k),.string (tx u)] 124)).cell? ⟨w.heap.size,0,none⟩=some (.int .i64 k):=zan w _ _ rfl;have x1:(w.alloc (.cells #[.int .i64 k,.string (zag k),.string (zal k),.string (tx u)] 124)).cell? ⟨w.heap.size,1,none⟩=some (.string (zag k)):=zan w _ _ rfl;have x2:(w.alloc (.cells #[.int .i64 k,.string (zag k),.string (zal k),.string (tx u)] 124)).cell? ⟨w.heap.size,2,none⟩=some (.string (zal k)):=zan w _ _ rfl;have x3:(w.alloc (.cells #[.int .i64 k,.string (zag k),.string (zal k),.string (tx u)] 124)).cell? ⟨w.heap.size,3,none⟩=some (.string (tx u)):=zan w _ _ rfl;have hg0:w.grownBy (w.alloc (.cells #[.int .i64 k,.string (zag k),.string (zal k),.string (tx u)] 124)) none:=zGA _ _ none;generalize w.alloc (.cells #[.int .i64 k,.string (zag k),.string (zal k),.string (tx u)] 124)=W at *;have d0:W.drew.cell? ⟨w.heap.size,0,none⟩=some (.int .i64 k):=x0;have d1:W.drew.cell? ⟨w.heap.size,1,none⟩=some (.string (zag k)):=x1;have d2:W.drew.cell? ⟨w.heap.size,2,none⟩=some (.string (zal k)):=x2;have d3:W.drew.cell? ⟨w.heap.size,3,none⟩=some (.string (tx u)):=x3;have HGD:=zHd (zaa hg0 (zaf W none));clear x0 x1 x2 x3 hg0
 go_region_with (first
  | (go_at_call 148;refine(H1.out _).mono ?_;clear H1;rintro e w5 (⟨hp,rfl,hg5⟩|⟨hn,rfl,hg5⟩);rotate_left 1;(exact⟨rfl,.inr ⟨fun h=>hn h.1,rfl,zaa HGD.out hg5⟩⟩);have s0:=hg5.cell d0 (by simp);have s1:=hg5.cell d1 (by simp);have s2:=hg5.cell d2 (by simp);have s3:=hg5.cell d3 (by simp);have HG5:=zHd hg5;have HPP:=zHd hp;clear hg5 hp)
  | (go_at_call 80;refine(H2.out HPP.out _).mono ?_;clear H2;rintro e w6 (⟨hs,rfl,hg6⟩|⟨hn,rfl,hg6⟩);rotate_left 1;(exact⟨rfl,.inr ⟨fun h=>hn h.2,rfl,zaa (zaa HGD.out HG5.out) hg6⟩⟩);have HG6:=zHd hg6;have HSS:=zHd hs;clear hg6 hs))
 all_goals
  go_wp2;go_ret;exact .inl ⟨⟨HPP.out,HSS.out⟩,rfl,zaa (zaa HGD.out HG5.out) HG6.out⟩
end
open Go.RowKit
def zHQ (n:Nat)(hn:n<=10000)(w:World):Calls prog 112 #[.int .u64 1,.int .u64 (n:Int)] w fun e w'=>e=.returned (.tuple #[.int .u64 0,.int .u64 (n:Int)])/\w'=w:=by
 have h:=fun w=>Tryz.bits_Mul64 1 n (by omega) (by omega) w;rw[Nat.one_mul,Nat.div_eq_of_lt (by omega),Nat.mod_eq_of_lt (by omega)] at h;have H:=zHd h;clear h;go_enter func112,ntmps112;go_wp2_with fail;refine(H.out _).mono ?_;rintro e w' ⟨rfl,rfl⟩;go_wp2;go_ret2;exact⟨rfl,rfl⟩
def zMl (w:World)(g off dLen dCap sLen sCap:Nat)(ad:Addr)(cur cs:List Value)(T:TypeId)(hg:w.heap[g]?=some (.cells cur.toArray T (0,0)))(hn:cs.length=Nat.min sLen dLen)
  (hsrc:∀ j v,cs[j]?=some v->w.cell? (ad.add j)=some v) (zf:off+cs.length<=cur.length) (h1:∀ v∈cs,v.oneCell'=true) :
  ∃ w',(Builtin.copy_ #[27,27] 3 #[.slice (some ⟨g,off,none⟩) dLen dCap,.slice (some ad) sLen sCap]).run prog w=.ok (.int .i64 (cs.length:Nat)) w'/\w'.heap[g]?=some (.cells (splice cur off cs).toArray T (0,0))/\w.grownBy w' (some g):=by
 have hrun:=run_copy_row (P:=prog) w 27 27 3 9 g off dLen dCap ad sLen sCap cur.toArray T cs underlying27 (by kernel_rfl) hg hn hsrc (by simpa using zf) h1;exact zQbf
def zqZ (a:Value)(z:Value)(n p q:Nat)(h:p+q<=n):splice (List.replicate p a++List.replicate (n-p) z) p (List.replicate q a)=List.replicate (p+q) a++List.replicate (n-(p+q)) z:=by
 unfold splice;rw[List.take_left' (by simp),zqax,List.drop_append,List.drop_eq_nil_of_le (by simp),zqax,List.nil_append,show p+q-p=q by omega,List.drop_replicate,<- zqbj,List.replicate_append_replicate];congr 2;omega
def zsE (P:Program)(w:World)(dT sT ty elem:TypeId)(d a:Option Addr)(dLen dCap sLen sCap:Nat)(hu:P.underlying dT=some (.slice elem))(hs:((P.info? elem).map (·.size)).isSome=true)(hn:Nat.min sLen dLen=0) :
  (Builtin.copy_ #[dT,sT] ty #[.slice d dLen dCap,.slice a sLen sCap]).run P w=.ok (goInt 0) w:=by
 have hl:=fun a=>run_loadCells_list (P:=P) w a [] (fun j v h=>by simp at h);simp only[List.length_nil] at hl;cases hq:P.info? elem with
 | none=>simp[hq] at hs
 | some i=>cases d <;> cases a <;> simp[Builtin.copy_,run_underlying hu,Builtin.lenOf,Builtin.firstCells,sizeOf,typeInfo,hq,storeCells,hn,hl]
def zwi {P:Program}{ops:Array Oper}{o:Oper}{a:Act}{w:World}{K:Act->World->Prop}{Q:Exit->Act->World->Prop}{E:Prop}(hgd:o.guard=none)(d s:Operand)(dT sT:TypeId)
  (ho:o.op=.call { callee:=.builtin .copy,args:=#[d,s],argTypes:=#[dT,sT] }) (elem:TypeId) (hu:P.underlying dT=some (.slice elem)) (hsz:(P.info? elem).map (·.size)=some 1)
  (g off:Nat) (ad:Addr) (dLen dCap sLen sCap m:Nat) (hd:a.eval d=.slice (some ⟨g,off,none⟩) dLen dCap) (hs:a.eval s=.slice (some ad) sLen sCap)
  (cur:List Value) (t:TypeId) (hg:w.heap[g]?=some (.cells cur.toArray t (0,0))) (cs:List Value) (hm:Nat.min sLen dLen=m) (hn:cs.length=m)
  (hsrc:∀ j v,cs[j]?=some v->w.cell? (ad.add j)=some v)
  (zf:off+cs.length<=cur.length) (h1:∀ v∈cs,v.oneCell'=true)
  (h:K (a.put o.dst (goInt m)) (w.setRow g (splice cur off cs).toArray)) :
  if Region.wanted o (yielded ops a.tmps)=true then Oper.wp P o a w K Q else E:=by
 have hw:Region.wanted o (yielded ops a.tmps)=true:=by simp[Region.wanted,hgd]
 rw[if_pos hw];subst hm;rw[<- hn] at h;have hrun:=run_copy_row (P:=P) w dT sT o.type elem g off dLen dCap ad sLen sCap cur.toArray t cs hu hsz hg hn hsrc (by simpa using zf) h1;unfold Oper.wp;have e:splice cur off cs=List.take off cur.toArray.toList++cs++List.drop (off+cs.length) cur.toArray.toList:=by simp[splice]
 rw[e] at h;simp only[execOp,ho,resolve,invoke,builtin,hd,hs,Result.andThen];simp[hd,hs,hrun,Result.andThen]
 first|exact h|(simp only[Oper.upon];exact h)|(simp at h;exact h)
def zra {P:Program}{ops:Array Oper}{o:Oper}{a:Act}{w:World}{K:Act->World->Prop}{Q:Exit->Act->World->Prop}{E:Prop}(hgd:o.guard=none)(d s:Operand)(dT sT:TypeId)
  (ho:o.op=.call { callee:=.builtin .copy,args:=#[d,s],argTypes:=#[dT,sT] }) (elem:TypeId) (hu:P.underlying dT=some (.slice elem)) (hsz:(P.info? elem).map (·.size)=some 1)
  (dp sp:Option Addr) (dLen dCap sLen sCap m:Nat) (hd:a.eval d=.slice dp dLen dCap) (hs:a.eval s=.slice sp sLen sCap)
  (g off:Nat) (cur:List Value) (t:TypeId) (hg:w.heap[g]?=some (.cells cur.toArray t (0,0))) (cs:List Value) (hm:Nat.min sLen dLen=m) (hn:cs.length=m)
  (hpos:0<m->dp=some ⟨g,off,none⟩/\∃ ad,sp=some ad/\∀ j v,cs[j]?=some v->w.cell? (ad.add j)=some v)
  (zf:off+cs.length<=cur.length) (h1:∀ v∈cs,v.oneCell'=true)
  (h:∀ w',Hid (w'.heap[g]?=some (.cells (splice cur off cs).toArray t (0,0))/\w.grownBy w' (some g))->K (a.put o.dst (goInt m)) w') :
  if Region.wanted o (yielded ops a.tmps)=true then Oper.wp P o a w K Q else E:=by
 by_cases h0:m=0
 ·have hw:Region.wanted o (yielded ops a.tmps)=true:=by simp[Region.wanted,hgd]
  rw[if_pos hw];have hcs:cs=[]:=List.eq_nil_of_length_eq_zero (by rw[hn,h0])
  have hrun:=zsE P w dT sT o.type elem dp sp dLen dCap sLen sCap hu (by cases hq:P.info? elem with
   | none=>rw[hq] at hsz;simp at hsz
   | some i=>rfl) (hm.trans h0)
  have hK:=h w (zHd ⟨by rw[hcs];simpa [splice] using hg,World.grownBy.refl _ _⟩);rw[h0] at hK;unfold Oper.wp;simp[execOp,ho,resolve,invoke,builtin,hd,hs,hrun,Result.andThen];exact hK
 obtain⟨rfl,ad,rfl,hsrc⟩:=hpos (by omega);refine zwi hgd d s dT sT ho elem hu hsz g off ad dLen dCap sLen sCap m hd hs cur t hg cs hm hn hsrc zf h1 (h _ (zHd ⟨setRow_heap w g _ _ t _ hg,⟨rfl,rfl,rfl,by simp,fun k _ hk=>setRow_other w g k _ (fun e=>hk (by rw[e]))⟩⟩))
def zBb (a:ByteArray)(gx n:Nat)(w:World)(hx:w.cell? ⟨gx,0,none⟩=some (.string a))(hgx:gx<w.heap.size)(hn:n<=10000) :
  Calls prog 83 #[.slice (some ⟨gx,0,none⟩) 1 1,.int .i64 (n:Int)] w fun e w'=>e=.returned (.slice (some ⟨w.heap.size,0,none⟩) n n)/\zaD 9 (.string ⟨#[]⟩) n (List.replicate n (.string a)) w w':=by
 obtain⟨i0,hi,hz0,hz1,hz2⟩:=info_parts zfa;have hmul:=fun w=>zHQ n hn w;have HM:=zHd hmul;have HN:=zHd hn;have HX:=zHd (zAI hx hgx);have n0:¬ (n:Int)<0:=by omega
 have n1:IntKind.u64.wrap (n:Int)=(n:Int):=by rw[IntKind.wrap_u64];omega
 have n2:IntKind.i64.wrap (n:Int)=(n:Int):=by rw[zqah];omega
 have n3:¬ (9223372036854775807:Int)<(n:Int):=by omega
 clear hmul hn hx hgx;go_enter func83,ntmps83;go_wp2_with fail;refine(HM.out _).mono ?_;rintro e w0 ⟨rfl,rfl⟩;clear HM;go_wp2_with (at_make;refine wpList_make_full _ rfl _ _ 27 rfl w0.heap.size 9 i0 (.string ⟨#[]⟩) 1 underlying27 hi hz0 hz1 _ _ _ _ n rfl rfl ?c0 ?c1 ?c2 (by have:=HN.out;unfold maxLen;omega) (zqab _) ?_)
 case c0=>omega
 case c1=>omega
 case c2=>have:=HN.out;first|omega|(rw[hz2];omega)
 intro w1 zO hgr;have zF:=zaD.start zO hgr;have hx1:=hgr.cell HX.out.1 (by simp);have zW:=zF.row;simp only[List.nil_append,List.length_nil,Nat.sub_zero] at zW;obtain⟨q,hq⟩:∃ q,Nat.min 1 n=q:=⟨_,rfl⟩;have hq1:q<=1:=by rw[<- hq];exact Nat.min_le_left _ _
 have hq2:q<=n:=by rw[<- hq];exact Nat.min_le_right _ _
 have hq3:1<=n->q=1:=fun h=>by rw[<- hq];exact Nat.min_eq_left h
 obtain⟨w2,hrun,hrow2,hg2⟩:=zMl w1 w0.heap.size 0 n n 1 1 ⟨gx,0,none⟩ (List.replicate n (.string ⟨#[]⟩)) (List.replicate q (.string a)) 9 zW (by rw[zqax,hq]) (fun j v hj=>by
  obtain⟨hj1,rfl⟩:=zqae.1 hj;rw[zqax] at hj1;obtain rfl:j=0:=by omega
  rw[List.getElem_replicate,zcn];exact hx1) (by rw[zqax,zqax];omega) (fun v hv=>by rw[(List.mem_replicate.1 hv).2];rfl)
 have hsp:=zqZ (.string a) (.string ⟨#[]⟩) n 0 q (by omega);simp only[List.replicate_zero,List.nil_append,Nat.sub_zero,zqat] at hsp;rw[hsp] at hrow2;rw[zqax] at hrun;have hfill2:zaD 9 (.string ⟨#[]⟩) n (List.replicate q (.string a)) w0 w2:=⟨by rw[zqax];exact hrow2,zak hgr hg2 (zqab _),by rw[zqax];exact hq2⟩;have HFL:=zHd hfill2;have HQ:=zHd (zAI hq2 hq3);clear zO hgr zF hx1 zW hrow2 hg2 hsp hfill2 hq hq1 hq2 hq3;go_wp2;generalize w2=wr at *
 go_loopw [8] (fun iv wr=>∃ p:Nat,iv=.int .i64 (p:Int)/\p<=n/\(1<=n->1<=p)/\zaD 9 (.string ⟨#[]⟩) n (List.replicate p (.string a)) w0 wr) (fun iv _=>n-(intOf iv).toNat)
 case atStart=>exact⟨q,rfl,HQ.out.1,fun h=>by rw[HQ.out.2 h];exact zqab _,HFL.out⟩
 case round =>
  obtain⟨p,rfl,hp,hp1,zF⟩:=hrel
  by_cases hpn:p<n
  ·have t1:decide (p<n)=true:=by simpa using hpn
   have t1':decide ((p:Int)<(n:Int))=true:=by simpa using hpn
   have i1:(p:Int)<=(n:Int):=by omega
   have i2:¬ (n:Int)<(p:Int):=by omega
   have HFL:=zHd zF;have HP:=zHd (zAI hpn (zAI hp hp1));clear zF hpn hp hp1;obtain⟨c,hc⟩:∃ c,Nat.min p (n-p)=c:=⟨_,rfl⟩;have hc1:c<=p:=by rw[<- hc];exact Nat.min_le_left _ _
   have hc2:c<=n-p:=by rw[<- hc];exact Nat.min_le_right _ _
   have hc3:1<=p->1<=c:=fun h=>by
    have hp2:=HP.out.1;rw[<- hc];exact Nat.le_min.2 ⟨h,by omega⟩
   have n4:IntKind.i64.wrap ((p:Int)+(c:Int))=((p+c:Nat):Int):=by have:=HN.out;have:=HP.out.2.1;rw[zqah];omega
   have zW:=HFL.out.row;rw[zqax] at zW
   have zE:∀ j v,(List.replicate c (.string a):List Value)[j]?=some v->wr.drew.cell? ((⟨w0.heap.size,0,none⟩:Addr).add j)=some v:=fun j v hj=>by
    obtain⟨hj1,rfl⟩:=zqae.1 hj;rw[zqax] at hj1;rw[List.getElem_replicate,zcn,zqat];show wr.cell? _=_;rw[zqbw wr w0.heap.size j _ _ (0,0) zW,zqap,zqal (by rw[zqax];omega),zqbg,if_pos (by omega)]
   have zf:p+(List.replicate c (.string a):List Value).length<=(List.replicate p (.string a)++List.replicate (n-p) (.string ⟨#[]⟩):List Value).length:=by
    have:=HP.out.1;rw[zqag,zqax,zqax,zqax];omega
   have h1c:∀ v∈(List.replicate c (.string a):List Value),v.oneCell'=true:=fun v hv=>by rw[(List.mem_replicate.1 hv).2];rfl
   have HNP:Hid (¬ n=p):=zHd (by have:=HP.out.1;omega);have HC:=zHd (zAI hc1 (zAI hc2 hc3));have HROW:=zHd (show wr.drew.heap[w0.heap.size]?=_ from zW);clear hc1 hc2 hc3 zW;go_wp2_with (fail)
   go_region_law ((refine zra rfl (.tmp 41) (.tmp 44) 27 27 rfl 9 underlying27 (by kernel_rfl) (some ⟨w0.heap.size,p,none⟩) (some ⟨w0.heap.size,0,none⟩) (n-p) (n-p) p n c (by simp[Act.eval,Act.put,HNP.out]) (by simp[Act.eval,Act.put]) w0.heap.size p (List.replicate p (.string a)++List.replicate (n-p) (.string ⟨#[]⟩)) 9 HROW.out (List.replicate c (.string a)) hc (by simp) (fun h=>⟨rfl,_,rfl,zE⟩) zf h1c ?_;intro w6 h6))
   all_goals
    go_wp2_with (fail)
    first
    | exact absurd HP.out.1 (Nat.lt_irrefl _)
    | (obtain⟨hc1,hc2,hc3⟩:=HC.out
       obtain⟨hpn,hp,hp1⟩:=HP.out;have hsp:=zqZ (.string a) (.string ⟨#[]⟩) n p c (by omega);refine⟨⟨p+c,by simp,by omega,fun h=>by omega,?_,?_,by rw[zqax];omega⟩,by have:=hc3 (by omega);simp[intOf];omega⟩;rw[zqax,<- hsp];exact h6.out.1;exact zak (zaa HFL.out.gr (zaf wr none)) h6.out.2 (zqab _))
  have hpe:p=n:=by omega
  subst hpe;have t1:decide (p<p)=false:=by simp
  have t1':decide ((p:Int)<(p:Int))=false:=by simp
  have HFL:=zHd zF;clear zF hpn hp hp1;go_wp2;go_ret;exact⟨rfl,HFL.out⟩
def zzs (a:ByteArray)(n:Nat)(w:World)(e:Ending)(w':World):Prop :=
 ∃ g,e=.returned (.slice (some ⟨g,0,none⟩) n n)/\w.heap.size<=g/\w'.heap[g]?=some (.cells (List.replicate n (.string a)).toArray 9 (0,0))/\w.grownBy w' none
def zkZ {w:World}{g n:Nat}{a:ByteArray}(h:w.heap[g]?=some (.cells (List.replicate n (.string a)).toArray 9 (0,0))):zar w g 0 n (fun _=>.string a):=by
 refine⟨(zqad.1 h).1,fun j hj=>?_⟩;rw[zqat,zqbw w g j _ _ (0,0) h,zqap,zqbg,if_pos hj]
def zgU (k:Int)(n:Nat)(w:World)(hn:n<=10000):Calls prog 47 #[zbl k,.int .i64 (n:Int)] w (zzs (zag k) n w):=by
 unfold zbl zzs;have hr:=fun(w1:World) (gx:Nat) h1 h2=>zBb (zag k) gx n w1 h1 h2 hn;have HR:=zHd hr;clear hr hn;go_enter func47,ntmps47;go_wp2_with fail;refine(HR.out ((w.alloc (.cells #[.int .i64 k,.string (zag k),.string (zal k)] 57)).alloc (.cells #[.string (zag k)] 9)) (w.heap.size+1) ?h1 ?h2).mono ?_
 case h1 =>
  have h:=zan (w.alloc (.cells #[.int .i64 k,.string (zag k),.string (zal k)] 57)) #[.string (zag k)] 9 (j:=0) (u:=.string (zag k)) rfl;exact zQaQ
 case h2=>simp
 rintro e w1 ⟨rfl,hf⟩;have HF:=zHd hf;clear hf;go_wp2;go_ret;have zW:=HF.out.row;have hg:=HF.out.gr;rw[zqax,zqbr,List.replicate_zero,List.append_nil] at zW;rw[show((w.alloc (.cells #[.int .i64 k,.string (zag k),.string (zal k)] 57)).alloc (.cells #[.string (zag k)] 9)).heap.size=w.heap.size+1+1 by simp] at zW;exact⟨_,rfl,by omega,zW,zaa (zaa (zGA _ _ none) (zGA _ _ none)) hg⟩
end Go.Proofs.YtiblmbpfcmcccaaGreatDoor
