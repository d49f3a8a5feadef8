/- W14 -/
import Derived.Test.YtaogepcaoogpgaaGreatDoorX11
import Derived.Laws.EntriesVeiled
import Derived.Great.Walk
set_option linter.unusedVariables false
set_option linter.unusedSimpArgs false
set_option maxRecDepth 100000
set_option maxHeartbeats 16000000
namespace Go.Proofs.YtaogepcaoogpgaaGreatDoor
open Go.RowKit
def fnV (F:Nat):Value := .func (.func F) #[] #[]
def zcq:Array Value:=#[.string ⟨#[]⟩,.string ⟨#[]⟩,fnV 107,fnV 107,.nilFunc,.nilFunc,.nilFunc,.nilFunc,.nilFunc]
def zcr:Array Value:=#[.string infS,.string zdL,fnV 108,fnV 109,fnV 110,fnV 111,fnV 112,fnV 113,fnV 114]
def zcs:Array Value:=#[.string zdL,.string oneS,fnV 115,fnV 116,fnV 117,fnV 118,fnV 119,fnV 120,fnV 121]
def zct:Array Value:=#[.string zdL,.string oneS,fnV 115,fnV 116,fnV 122,fnV 118,fnV 123,fnV 120,fnV 121]
def tabC:Array Value:=zcq++zcr++zcs++zct
def zcv:Array Value:=#[.string ⟨#[]⟩,.string ⟨#[]⟩,.nilFunc,.nilFunc,.nilFunc,.nilFunc,.nilFunc,.nilFunc,.nilFunc]
def zcw:Array Value:=zcv++zcv++zcv++zcv
def zap (k:Int):Array Value:=if k=1 then zcr else if k=2 then zcs else if k=3 then zct else zcq
def zxI (k:Int):Value := .agg (zap k)
theorem ziF (j:Nat)(hj:j<4)(i:Nat)(v:Value)(h:(zap j).toList[i]? = some v):tabC[j * 9+i]? = some v:=by
 have h4:j=0∨j=1∨j=2∨j=3:=by omega
 have hi:i<9:=by
  have h1:=(List.getElem?_eq_some_iff.1 h).1;rcases h4 with rfl|rfl|rfl|rfl <;> exact h1
 have h9:i=0∨i=1∨i=2∨i=3∨i=4∨i=5∨i=6∨i=7∨i=8:=by omega
 rcases h4 with rfl|rfl|rfl|rfl <;> rcases h9 with rfl|rfl|rfl|rfl|rfl|rfl|rfl|rfl|rfl <;> exact h
theorem zeW (o:Oper)(ho:o.op = .alloc 115)(ρ:Operand→Value)(w:World){g:Nat}(hg:w.heap.size=g):(execOp ρ o).run Tryz.prog w = .ok (.value (.pointer (some ⟨g,0,none⟩))) (w.alloc (.cells zcw 115)):=by
 subst hg;obtain⟨d,p,t,q,af,gd⟩:=o;cases ho
 kernel_rfl
theorem zgW (o:Oper)(x y:Operand)(ho:o.op = .indexAddr 115 x y)(ρ:Operand→Value)(w:World)(g:Nat)(j:Nat)(hj:j<4)(hx:ρ x = .pointer (some ⟨g,0,none⟩))(hy:ρ y = .int .i64 j) :
  (execOp ρ o).run Tryz.prog w = .ok (.value (.pointer (some ⟨g,j * 9,none⟩))) w:=by
 obtain⟨d,p,t,q,af,gd⟩:=o;cases ho;unfold execOp
 dsimp only
 rw[hx,hy];have h4:j=0∨j=1∨j=2∨j=3:=by omega
 rcases h4 with rfl|rfl|rfl|rfl <;> exact rfl
theorem zeX {w w1:World}{g:Nat}{cs:Array Value}(h:w.grownBy w1 none)(hg:w.heap.size≤g):w.grownBy (w1.setRow g cs) none :=
 ⟨h.1,h.2,h.3,by rw[setRow_size];exact h.4,fun k hk hn=>by rw[setRow_other _ _ _ _ (by omega)];exact h.5 k hk hn⟩
theorem zHl (w:World):Calls Tryz.prog 66 #[.int .i64 1] w (zab (.agg (zap 1)) w):=by
 go_enter Tryz.func66,Tryz.ntmps66;go_upto_region 1 with(fail)
 rename_i K hK
 generalize hW:w.alloc (.cells #[.string ⟨#[]⟩,.string ⟨#[]⟩,.nilFunc,.nilFunc,.nilFunc,.nilFunc,.nilFunc,.nilFunc,.nilFunc] 89)=W at *;have h1:W.heap[w.heap.size]? = some (.cells zcv 89 (0,0)):=by subst hW;exact zau _ _
 have h2:w.grownBy W none:=by subst hW;exact zGA _ _ none
 have h3:W.heap.size=w.heap.size+1:=by subst hW;simp
 clear hW
 apply wp_region_lit
 refine wpList_buildTo rfl 89 _ rfl (some 4) rfl zcq (by as_aux_lemma=>kernel_rfl) ?_;refine wpList_buildTo rfl 89 _ rfl (some 5) rfl zcr (by as_aux_lemma=>kernel_rfl) ?_;refine wpList_buildTo rfl 89 _ rfl (some 6) rfl zcs (by as_aux_lemma=>kernel_rfl) ?_;refine wpList_buildTo rfl 89 _ rfl (some 7) rfl zct (by as_aux_lemma=>kernel_rfl) ?_;refine wpList_buildTo rfl 115 _ rfl (some 8) rfl tabC (by as_aux_lemma=>kernel_rfl) ?_;refine Great.wpList_allocTo rfl (some 3) rfl (.pointer (some ⟨w.heap.size+1,0,none⟩)) (.cells zcw 115) ?_ ?_
 ·exact zeW _ rfl _ _ h3
 refine wpList_store_rowTo rfl 115 _ _ rfl rfl (w.heap.size+1) tabC ?_ ?_ 115 zcw ?_ ?_ ?_ ?_ ?_
 ·exact Act.eval_put_same _ 3 _ (by simp[Act.size_put])
 ·exact(Act.eval_put_ne _ 3 8 _ (by decide)).trans (Act.eval_put_same _ 8 _ (by simp[Act.size_put]))
 ·exact zcG _ _ _ h3.symm
 ·as_aux_lemma=>kernel_rfl
 ·as_aux_lemma=>kernel_rfl
 ·as_aux_lemma=>kernel_rfl
 refine wpList_nil (hK _ _ ?_);have e1:(W.alloc (.cells zcw 115)).setRow (w.heap.size+1) tabC=W.alloc (.cells tabC 115):=by rw[← h3];exact World.setRow_alloc_new _ _ _ _
 rw[e1]
 change Code.wp _ _ _ ⟨#[.int .i64 1,undef,.pointer (some ⟨w.heap.size,0,none⟩),.pointer (some ⟨w.heap.size+1,0,none⟩),.agg zcq,.agg zcr,.agg zcs,.agg zct,.agg tabC,undef,undef,undef,undef,undef,undef,undef,undef,undef],[]⟩ _
 clear hK;go_upto_region 4 with(fail)
 rename_i K2 hK2
 apply wp_region_lit
 refine Great.wpList_readTo rfl (some 15) rfl (.int .i64 1) rfl ?_;refine Great.wpList_readTo rfl (some 16) rfl (.pointer (some ⟨w.heap.size+1,1 * 9,none⟩)) ?_ ?_
 ·exact zgW _ (.tmp 3) (.tmp 15) rfl _ _ _ 1 (by decide) rfl rfl
 refine wpList_load_mid rfl 89 _ rfl (w.heap.size+1) (1 * 9) rfl (zap 1).toList _ ?_ Tryz.underlying89 rfl (by as_aux_lemma=>kernel_rfl) ?_
 ·intro i v hv
  rw[← h3,cell_of_row _ _ _ _ _ (0,0) (zau _ _)];exact ziF 1 (by decide) i v hv
 refine wpList_store_rowTo rfl 89 _ _ rfl rfl w.heap.size (zap 1) rfl rfl 89 zcv ?_ ?_ ?_ ?_ ?_
 ·exact(zbk _ _ _ (by omega)).trans h1
 ·as_aux_lemma=>kernel_rfl
 ·as_aux_lemma=>kernel_rfl
 ·as_aux_lemma=>kernel_rfl
 refine wpList_nil (hK2 _ _ ?_);clear hK2
 have hb:((W.alloc (.cells tabC 115)).setRow w.heap.size (zap 1)).heap[w.heap.size]? = some (.cells (zap 1) 89 (0,0)) :=
  setRow_heap _ _ _ _ _ _ ((zbk _ _ _ (by omega)).trans h1)
 have hg:w.grownBy ((W.alloc (.cells tabC 115)).setRow w.heap.size (zap 1)) none :=
  zeX (zaa h2 (zGA _ _ none)) (Nat.le_refl _)
 generalize (W.alloc (.cells tabC 115)).setRow w.heap.size (zap 1)=W2 at *
 change Code.wp _ _ _ ⟨#[.int .i64 1,undef,.pointer (some ⟨w.heap.size,0,none⟩),.pointer (some ⟨w.heap.size+1,0,none⟩),.agg zcq,.agg zcr,.agg zcs,.agg zct,.agg tabC,_,_,_,_,_,_,.int .i64 1,.pointer (some ⟨w.heap.size+1,1 * 9,none⟩),.agg (zap 1)],[]⟩ _
 go_wp2;have hl:=run_loadVar_row (P:=Tryz.prog) W2 w.heap.size 89 89 (zap 1) (0,0) _ hb Tryz.underlying89 rfl (by as_aux_lemma=>kernel_rfl);refine bodyPost_ret (v := .agg (zap 1)) ?_ rfl ⟨rfl,hg⟩;unfold results;rw[Tryz.results66];simp[asAddr,hl]
theorem zHm (w:World):Calls Tryz.prog 66 #[.int .i64 2] w (zab (.agg (zap 2)) w):=by
 go_enter Tryz.func66,Tryz.ntmps66;go_upto_region 1 with(fail)
 rename_i K hK
 generalize hW:w.alloc (.cells #[.string ⟨#[]⟩,.string ⟨#[]⟩,.nilFunc,.nilFunc,.nilFunc,.nilFunc,.nilFunc,.nilFunc,.nilFunc] 89)=W at *;have h1:W.heap[w.heap.size]? = some (.cells zcv 89 (0,0)):=by subst hW;exact zau _ _
 have h2:w.grownBy W none:=by subst hW;exact zGA _ _ none
 have h3:W.heap.size=w.heap.size+1:=by subst hW;simp
 clear hW
 apply wp_region_lit
 refine wpList_buildTo rfl 89 _ rfl (some 4) rfl zcq (by as_aux_lemma=>kernel_rfl) ?_;refine wpList_buildTo rfl 89 _ rfl (some 5) rfl zcr (by as_aux_lemma=>kernel_rfl) ?_;refine wpList_buildTo rfl 89 _ rfl (some 6) rfl zcs (by as_aux_lemma=>kernel_rfl) ?_;refine wpList_buildTo rfl 89 _ rfl (some 7) rfl zct (by as_aux_lemma=>kernel_rfl) ?_;refine wpList_buildTo rfl 115 _ rfl (some 8) rfl tabC (by as_aux_lemma=>kernel_rfl) ?_;refine Great.wpList_allocTo rfl (some 3) rfl (.pointer (some ⟨w.heap.size+1,0,none⟩)) (.cells zcw 115) ?_ ?_
 ·exact zeW _ rfl _ _ h3
 refine wpList_store_rowTo rfl 115 _ _ rfl rfl (w.heap.size+1) tabC ?_ ?_ 115 zcw ?_ ?_ ?_ ?_ ?_
 ·exact Act.eval_put_same _ 3 _ (by simp[Act.size_put])
 ·exact(Act.eval_put_ne _ 3 8 _ (by decide)).trans (Act.eval_put_same _ 8 _ (by simp[Act.size_put]))
 ·exact zcG _ _ _ h3.symm
 ·as_aux_lemma=>kernel_rfl
 ·as_aux_lemma=>kernel_rfl
 ·as_aux_lemma=>kernel_rfl
 refine wpList_nil (hK _ _ ?_);have e1:(W.alloc (.cells zcw 115)).setRow (w.heap.size+1) tabC=W.alloc (.cells tabC 115):=by rw[← h3];exact World.setRow_alloc_new _ _ _ _
 rw[e1]
 change Code.wp _ _ _ ⟨#[.int .i64 2,undef,.pointer (some ⟨w.heap.size,0,none⟩),.pointer (some ⟨w.heap.size+1,0,none⟩),.agg zcq,.agg zcr,.agg zcs,.agg zct,.agg tabC,undef,undef,undef,undef,undef,undef,undef,undef,undef],[]⟩ _
 clear hK;go_upto_region 4 with(fail)
 rename_i K2 hK2
 apply wp_region_lit
 refine Great.wpList_readTo rfl (some 15) rfl (.int .i64 2) rfl ?_;refine Great.wpList_readTo rfl (some 16) rfl (.pointer (some ⟨w.heap.size+1,2 * 9,none⟩)) ?_ ?_
 ·exact zgW _ (.tmp 3) (.tmp 15) rfl _ _ _ 2 (by decide) rfl rfl
 refine wpList_load_mid rfl 89 _ rfl (w.heap.size+1) (2 * 9) rfl (zap 2).toList _ ?_ Tryz.underlying89 rfl (by as_aux_lemma=>kernel_rfl) ?_
 ·intro i v hv
  rw[← h3,cell_of_row _ _ _ _ _ (0,0) (zau _ _)];exact ziF 2 (by decide) i v hv
 refine wpList_store_rowTo rfl 89 _ _ rfl rfl w.heap.size (zap 2) rfl rfl 89 zcv ?_ ?_ ?_ ?_ ?_
 ·exact(zbk _ _ _ (by omega)).trans h1
 ·as_aux_lemma=>kernel_rfl
 ·as_aux_lemma=>kernel_rfl
 ·as_aux_lemma=>kernel_rfl
 refine wpList_nil (hK2 _ _ ?_);clear hK2
 have hb:((W.alloc (.cells tabC 115)).setRow w.heap.size (zap 2)).heap[w.heap.size]? = some (.cells (zap 2) 89 (0,0)) :=
  setRow_heap _ _ _ _ _ _ ((zbk _ _ _ (by omega)).trans h1)
 have hg:w.grownBy ((W.alloc (.cells tabC 115)).setRow w.heap.size (zap 2)) none :=
  zeX (zaa h2 (zGA _ _ none)) (Nat.le_refl _)
 generalize (W.alloc (.cells tabC 115)).setRow w.heap.size (zap 2)=W2 at *
 change Code.wp _ _ _ ⟨#[.int .i64 2,undef,.pointer (some ⟨w.heap.size,0,none⟩),.pointer (some ⟨w.heap.size+1,0,none⟩),.agg zcq,.agg zcr,.agg zcs,.agg zct,.agg tabC,_,_,_,_,_,_,.int .i64 2,.pointer (some ⟨w.heap.size+1,2 * 9,none⟩),.agg (zap 2)],[]⟩ _
 go_wp2;have hl:=run_loadVar_row (P:=Tryz.prog) W2 w.heap.size 89 89 (zap 2) (0,0) _ hb Tryz.underlying89 rfl (by as_aux_lemma=>kernel_rfl);refine bodyPost_ret (v := .agg (zap 2)) ?_ rfl ⟨rfl,hg⟩;unfold results;rw[Tryz.results66];simp[asAddr,hl]
theorem zDR (w:World):Calls Tryz.prog 66 #[.int .i64 3] w (zab (.agg (zap 3)) w):=by
 go_enter Tryz.func66,Tryz.ntmps66;go_upto_region 1 with(fail)
 rename_i K hK
 generalize hW:w.alloc (.cells #[.string ⟨#[]⟩,.string ⟨#[]⟩,.nilFunc,.nilFunc,.nilFunc,.nilFunc,.nilFunc,.nilFunc,.nilFunc] 89)=W at *;have h1:W.heap[w.heap.size]? = some (.cells zcv 89 (0,0)):=by subst hW;exact zau _ _
 have h2:w.grownBy W none:=by subst hW;exact zGA _ _ none
 have h3:W.heap.size=w.heap.size+1:=by subst hW;simp
 clear hW
 apply wp_region_lit
 refine wpList_buildTo rfl 89 _ rfl (some 4) rfl zcq (by as_aux_lemma=>kernel_rfl) ?_;refine wpList_buildTo rfl 89 _ rfl (some 5) rfl zcr (by as_aux_lemma=>kernel_rfl) ?_;refine wpList_buildTo rfl 89 _ rfl (some 6) rfl zcs (by as_aux_lemma=>kernel_rfl) ?_;refine wpList_buildTo rfl 89 _ rfl (some 7) rfl zct (by as_aux_lemma=>kernel_rfl) ?_;refine wpList_buildTo rfl 115 _ rfl (some 8) rfl tabC (by as_aux_lemma=>kernel_rfl) ?_;refine Great.wpList_allocTo rfl (some 3) rfl (.pointer (some ⟨w.heap.size+1,0,none⟩)) (.cells zcw 115) ?_ ?_
 ·exact zeW _ rfl _ _ h3
 refine wpList_store_rowTo rfl 115 _ _ rfl rfl (w.heap.size+1) tabC ?_ ?_ 115 zcw ?_ ?_ ?_ ?_ ?_
 ·exact Act.eval_put_same _ 3 _ (by simp[Act.size_put])
 ·exact(Act.eval_put_ne _ 3 8 _ (by decide)).trans (Act.eval_put_same _ 8 _ (by simp[Act.size_put]))
 ·exact zcG _ _ _ h3.symm
 ·as_aux_lemma=>kernel_rfl
 ·as_aux_lemma=>kernel_rfl
 ·as_aux_lemma=>kernel_rfl
 refine wpList_nil (hK _ _ ?_);have e1:(W.alloc (.cells zcw 115)).setRow (w.heap.size+1) tabC=W.alloc (.cells tabC 115):=by rw[← h3];exact World.setRow_alloc_new _ _ _ _
 rw[e1]
 change Code.wp _ _ _ ⟨#[.int .i64 3,undef,.pointer (some ⟨w.heap.size,0,none⟩),.pointer (some ⟨w.heap.size+1,0,none⟩),.agg zcq,.agg zcr,.agg zcs,.agg zct,.agg tabC,undef,undef,undef,undef,undef,undef,undef,undef,undef],[]⟩ _
 clear hK;go_upto_region 4 with(fail)
 rename_i K2 hK2
 apply wp_region_lit
 refine Great.wpList_readTo rfl (some 15) rfl (.int .i64 3) rfl ?_;refine Great.wpList_readTo rfl (some 16) rfl (.pointer (some ⟨w.heap.size+1,3 * 9,none⟩)) ?_ ?_
 ·exact zgW _ (.tmp 3) (.tmp 15) rfl _ _ _ 3 (by decide) rfl rfl
 refine wpList_load_mid rfl 89 _ rfl (w.heap.size+1) (3 * 9) rfl (zap 3).toList _ ?_ Tryz.underlying89 rfl (by as_aux_lemma=>kernel_rfl) ?_
 ·intro i v hv
  rw[← h3,cell_of_row _ _ _ _ _ (0,0) (zau _ _)];exact ziF 3 (by decide) i v hv
 refine wpList_store_rowTo rfl 89 _ _ rfl rfl w.heap.size (zap 3) rfl rfl 89 zcv ?_ ?_ ?_ ?_ ?_
 ·exact(zbk _ _ _ (by omega)).trans h1
 ·as_aux_lemma=>kernel_rfl
 ·as_aux_lemma=>kernel_rfl
 ·as_aux_lemma=>kernel_rfl
 refine wpList_nil (hK2 _ _ ?_);clear hK2
 have hb:((W.alloc (.cells tabC 115)).setRow w.heap.size (zap 3)).heap[w.heap.size]? = some (.cells (zap 3) 89 (0,0)) :=
  setRow_heap _ _ _ _ _ _ ((zbk _ _ _ (by omega)).trans h1)
 have hg:w.grownBy ((W.alloc (.cells tabC 115)).setRow w.heap.size (zap 3)) none :=
  zeX (zaa h2 (zGA _ _ none)) (Nat.le_refl _)
 generalize (W.alloc (.cells tabC 115)).setRow w.heap.size (zap 3)=W2 at *
 change Code.wp _ _ _ ⟨#[.int .i64 3,undef,.pointer (some ⟨w.heap.size,0,none⟩),.pointer (some ⟨w.heap.size+1,0,none⟩),.agg zcq,.agg zcr,.agg zcs,.agg zct,.agg tabC,_,_,_,_,_,_,.int .i64 3,.pointer (some ⟨w.heap.size+1,3 * 9,none⟩),.agg (zap 3)],[]⟩ _
 go_wp2;have hl:=run_loadVar_row (P:=Tryz.prog) W2 w.heap.size 89 89 (zap 3) (0,0) _ hb Tryz.underlying89 rfl (by as_aux_lemma=>kernel_rfl);refine bodyPost_ret (v := .agg (zap 3)) ?_ rfl ⟨rfl,hg⟩;unfold results;rw[Tryz.results66];simp[asAddr,hl]
theorem zGa (w:World):Calls Tryz.prog 66 #[.int .i64 0] w (zab (.agg (zap 0)) w):=by
 go_enter Tryz.func66,Tryz.ntmps66;go_upto_region 1 with(fail)
 rename_i K hK
 generalize hW:w.alloc (.cells #[.string ⟨#[]⟩,.string ⟨#[]⟩,.nilFunc,.nilFunc,.nilFunc,.nilFunc,.nilFunc,.nilFunc,.nilFunc] 89)=W at *;have h1:W.heap[w.heap.size]? = some (.cells zcv 89 (0,0)):=by subst hW;exact zau _ _
 have h2:w.grownBy W none:=by subst hW;exact zGA _ _ none
 have h3:W.heap.size=w.heap.size+1:=by subst hW;simp
 clear hW
 apply wp_region_lit
 refine wpList_buildTo rfl 89 _ rfl (some 4) rfl zcq (by as_aux_lemma=>kernel_rfl) ?_;refine wpList_buildTo rfl 89 _ rfl (some 5) rfl zcr (by as_aux_lemma=>kernel_rfl) ?_;refine wpList_buildTo rfl 89 _ rfl (some 6) rfl zcs (by as_aux_lemma=>kernel_rfl) ?_;refine wpList_buildTo rfl 89 _ rfl (some 7) rfl zct (by as_aux_lemma=>kernel_rfl) ?_;refine wpList_buildTo rfl 115 _ rfl (some 8) rfl tabC (by as_aux_lemma=>kernel_rfl) ?_;refine Great.wpList_allocTo rfl (some 3) rfl (.pointer (some ⟨w.heap.size+1,0,none⟩)) (.cells zcw 115) ?_ ?_
 ·exact zeW _ rfl _ _ h3
 refine wpList_store_rowTo rfl 115 _ _ rfl rfl (w.heap.size+1) tabC ?_ ?_ 115 zcw ?_ ?_ ?_ ?_ ?_
 ·exact Act.eval_put_same _ 3 _ (by simp[Act.size_put])
 ·exact(Act.eval_put_ne _ 3 8 _ (by decide)).trans (Act.eval_put_same _ 8 _ (by simp[Act.size_put]))
 ·exact zcG _ _ _ h3.symm
 ·as_aux_lemma=>kernel_rfl
 ·as_aux_lemma=>kernel_rfl
 ·as_aux_lemma=>kernel_rfl
 refine wpList_nil (hK _ _ ?_);have e1:(W.alloc (.cells zcw 115)).setRow (w.heap.size+1) tabC=W.alloc (.cells tabC 115):=by rw[← h3];exact World.setRow_alloc_new _ _ _ _
 rw[e1]
 change Code.wp _ _ _ ⟨#[.int .i64 0,undef,.pointer (some ⟨w.heap.size,0,none⟩),.pointer (some ⟨w.heap.size+1,0,none⟩),.agg zcq,.agg zcr,.agg zcs,.agg zct,.agg tabC,undef,undef,undef,undef,undef,undef,undef,undef,undef],[]⟩ _
 clear hK;go_upto_region 4 with(fail)
 rename_i K2 hK2
 apply wp_region_lit
 refine Great.wpList_readTo rfl (some 15) rfl (.int .i64 0) rfl ?_;refine Great.wpList_readTo rfl (some 16) rfl (.pointer (some ⟨w.heap.size+1,0 * 9,none⟩)) ?_ ?_
 ·exact zgW _ (.tmp 3) (.tmp 15) rfl _ _ _ 0 (by decide) rfl rfl
 refine wpList_load_mid rfl 89 _ rfl (w.heap.size+1) (0 * 9) rfl (zap 0).toList _ ?_ Tryz.underlying89 rfl (by as_aux_lemma=>kernel_rfl) ?_
 ·intro i v hv
  rw[← h3,cell_of_row _ _ _ _ _ (0,0) (zau _ _)];exact ziF 0 (by decide) i v hv
 refine wpList_store_rowTo rfl 89 _ _ rfl rfl w.heap.size (zap 0) rfl rfl 89 zcv ?_ ?_ ?_ ?_ ?_
 ·exact(zbk _ _ _ (by omega)).trans h1
 ·as_aux_lemma=>kernel_rfl
 ·as_aux_lemma=>kernel_rfl
 ·as_aux_lemma=>kernel_rfl
 refine wpList_nil (hK2 _ _ ?_);clear hK2
 have hb:((W.alloc (.cells tabC 115)).setRow w.heap.size (zap 0)).heap[w.heap.size]? = some (.cells (zap 0) 89 (0,0)) :=
  setRow_heap _ _ _ _ _ _ ((zbk _ _ _ (by omega)).trans h1)
 have hg:w.grownBy ((W.alloc (.cells tabC 115)).setRow w.heap.size (zap 0)) none :=
  zeX (zaa h2 (zGA _ _ none)) (Nat.le_refl _)
 generalize (W.alloc (.cells tabC 115)).setRow w.heap.size (zap 0)=W2 at *
 change Code.wp _ _ _ ⟨#[.int .i64 0,undef,.pointer (some ⟨w.heap.size,0,none⟩),.pointer (some ⟨w.heap.size+1,0,none⟩),.agg zcq,.agg zcr,.agg zcs,.agg zct,.agg tabC,_,_,_,_,_,_,.int .i64 0,.pointer (some ⟨w.heap.size+1,0 * 9,none⟩),.agg (zap 0)],[]⟩ _
 go_wp2;have hl:=run_loadVar_row (P:=Tryz.prog) W2 w.heap.size 89 89 (zap 0) (0,0) _ hb Tryz.underlying89 rfl (by as_aux_lemma=>kernel_rfl);refine bodyPost_ret (v := .agg (zap 0)) ?_ rfl ⟨rfl,hg⟩;unfold results;rw[Tryz.results66];simp[asAddr,hl]
theorem of_low (w:World)(k:Int)(h:k<0):Calls Tryz.prog 66 #[.int .i64 k] w (zab (.agg (zap 0)) w):=by
 go_enter Tryz.func66,Tryz.ntmps66;go_upto_region 1 with(fail)
 rename_i K hK
 generalize hW:w.alloc (.cells #[.string ⟨#[]⟩,.string ⟨#[]⟩,.nilFunc,.nilFunc,.nilFunc,.nilFunc,.nilFunc,.nilFunc,.nilFunc] 89)=W at *;have h1:W.heap[w.heap.size]? = some (.cells zcv 89 (0,0)):=by subst hW;exact zau _ _
 have h2:w.grownBy W none:=by subst hW;exact zGA _ _ none
 have h3:W.heap.size=w.heap.size+1:=by subst hW;simp
 clear hW
 apply wp_region_lit
 refine wpList_buildTo rfl 89 _ rfl (some 4) rfl zcq (by as_aux_lemma=>kernel_rfl) ?_;refine wpList_buildTo rfl 89 _ rfl (some 5) rfl zcr (by as_aux_lemma=>kernel_rfl) ?_;refine wpList_buildTo rfl 89 _ rfl (some 6) rfl zcs (by as_aux_lemma=>kernel_rfl) ?_;refine wpList_buildTo rfl 89 _ rfl (some 7) rfl zct (by as_aux_lemma=>kernel_rfl) ?_;refine wpList_buildTo rfl 115 _ rfl (some 8) rfl tabC (by as_aux_lemma=>kernel_rfl) ?_;refine Great.wpList_allocTo rfl (some 3) rfl (.pointer (some ⟨w.heap.size+1,0,none⟩)) (.cells zcw 115) ?_ ?_
 ·exact zeW _ rfl _ _ h3
 refine wpList_store_rowTo rfl 115 _ _ rfl rfl (w.heap.size+1) tabC ?_ ?_ 115 zcw ?_ ?_ ?_ ?_ ?_
 ·exact Act.eval_put_same _ 3 _ (by simp[Act.size_put])
 ·exact(Act.eval_put_ne _ 3 8 _ (by decide)).trans (Act.eval_put_same _ 8 _ (by simp[Act.size_put]))
 ·exact zcG _ _ _ h3.symm
 ·as_aux_lemma=>kernel_rfl
 ·as_aux_lemma=>kernel_rfl
 ·as_aux_lemma=>kernel_rfl
 refine wpList_nil (hK _ _ ?_);have e1:(W.alloc (.cells zcw 115)).setRow (w.heap.size+1) tabC=W.alloc (.cells tabC 115):=by rw[← h3];exact World.setRow_alloc_new _ _ _ _
 rw[e1]
 change Code.wp _ _ _ ⟨#[.int .i64 k,undef,.pointer (some ⟨w.heap.size,0,none⟩),.pointer (some ⟨w.heap.size+1,0,none⟩),.agg zcq,.agg zcr,.agg zcs,.agg zct,.agg tabC,undef,undef,undef,undef,undef,undef,undef,undef,undef],[]⟩ _
 clear hK;go_upto_region 4 with(fail)
 rename_i K2 hK2
 apply wp_region_lit
 refine Great.wpList_readTo rfl (some 15) rfl (.int .i64 0) rfl ?_;refine Great.wpList_readTo rfl (some 16) rfl (.pointer (some ⟨w.heap.size+1,0 * 9,none⟩)) ?_ ?_
 ·exact zgW _ (.tmp 3) (.tmp 15) rfl _ _ _ 0 (by decide) rfl rfl
 refine wpList_load_mid rfl 89 _ rfl (w.heap.size+1) (0 * 9) rfl (zap 0).toList _ ?_ Tryz.underlying89 rfl (by as_aux_lemma=>kernel_rfl) ?_
 ·intro i v hv
  rw[← h3,cell_of_row _ _ _ _ _ (0,0) (zau _ _)];exact ziF 0 (by decide) i v hv
 refine wpList_store_rowTo rfl 89 _ _ rfl rfl w.heap.size (zap 0) rfl rfl 89 zcv ?_ ?_ ?_ ?_ ?_
 ·exact(zbk _ _ _ (by omega)).trans h1
 ·as_aux_lemma=>kernel_rfl
 ·as_aux_lemma=>kernel_rfl
 ·as_aux_lemma=>kernel_rfl
 refine wpList_nil (hK2 _ _ ?_);clear hK2
 have hb:((W.alloc (.cells tabC 115)).setRow w.heap.size (zap 0)).heap[w.heap.size]? = some (.cells (zap 0) 89 (0,0)) :=
  setRow_heap _ _ _ _ _ _ ((zbk _ _ _ (by omega)).trans h1)
 have hg:w.grownBy ((W.alloc (.cells tabC 115)).setRow w.heap.size (zap 0)) none :=
  zeX (zaa h2 (zGA _ _ none)) (Nat.le_refl _)
 generalize (W.alloc (.cells tabC 115)).setRow w.heap.size (zap 0)=W2 at *
 change Code.wp _ _ _ ⟨#[.int .i64 0,undef,.pointer (some ⟨w.heap.size,0,none⟩),.pointer (some ⟨w.heap.size+1,0,none⟩),.agg zcq,.agg zcr,.agg zcs,.agg zct,.agg tabC,_,_,_,_,_,_,.int .i64 0,.pointer (some ⟨w.heap.size+1,0 * 9,none⟩),.agg (zap 0)],[]⟩ _
 go_wp2;have hl:=run_loadVar_row (P:=Tryz.prog) W2 w.heap.size 89 89 (zap 0) (0,0) _ hb Tryz.underlying89 rfl (by as_aux_lemma=>kernel_rfl);refine bodyPost_ret (v := .agg (zap 0)) ?_ rfl ⟨rfl,hg⟩;unfold results;rw[Tryz.results66];simp[asAddr,hl]
theorem zGb (w:World)(k:Int)(h:4≤k):Calls Tryz.prog 66 #[.int .i64 k] w (zab (.agg (zap 0)) w):=by
 have h2:¬ k<0:=by omega
 go_enter Tryz.func66,Tryz.ntmps66;go_upto_region 1 with(fail)
 rename_i K hK
 generalize hW:w.alloc (.cells #[.string ⟨#[]⟩,.string ⟨#[]⟩,.nilFunc,.nilFunc,.nilFunc,.nilFunc,.nilFunc,.nilFunc,.nilFunc] 89)=W at *;have h1:W.heap[w.heap.size]? = some (.cells zcv 89 (0,0)):=by subst hW;exact zau _ _
 have h2:w.grownBy W none:=by subst hW;exact zGA _ _ none
 have h3:W.heap.size=w.heap.size+1:=by subst hW;simp
 clear hW
 apply wp_region_lit
 refine wpList_buildTo rfl 89 _ rfl (some 4) rfl zcq (by as_aux_lemma=>kernel_rfl) ?_;refine wpList_buildTo rfl 89 _ rfl (some 5) rfl zcr (by as_aux_lemma=>kernel_rfl) ?_;refine wpList_buildTo rfl 89 _ rfl (some 6) rfl zcs (by as_aux_lemma=>kernel_rfl) ?_;refine wpList_buildTo rfl 89 _ rfl (some 7) rfl zct (by as_aux_lemma=>kernel_rfl) ?_;refine wpList_buildTo rfl 115 _ rfl (some 8) rfl tabC (by as_aux_lemma=>kernel_rfl) ?_;refine Great.wpList_allocTo rfl (some 3) rfl (.pointer (some ⟨w.heap.size+1,0,none⟩)) (.cells zcw 115) ?_ ?_
 ·exact zeW _ rfl _ _ h3
 refine wpList_store_rowTo rfl 115 _ _ rfl rfl (w.heap.size+1) tabC ?_ ?_ 115 zcw ?_ ?_ ?_ ?_ ?_
 ·exact Act.eval_put_same _ 3 _ (by simp[Act.size_put])
 ·exact(Act.eval_put_ne _ 3 8 _ (by decide)).trans (Act.eval_put_same _ 8 _ (by simp[Act.size_put]))
 ·exact zcG _ _ _ h3.symm
 ·as_aux_lemma=>kernel_rfl
 ·as_aux_lemma=>kernel_rfl
 ·as_aux_lemma=>kernel_rfl
 refine wpList_nil (hK _ _ ?_);have e1:(W.alloc (.cells zcw 115)).setRow (w.heap.size+1) tabC=W.alloc (.cells tabC 115):=by rw[← h3];exact World.setRow_alloc_new _ _ _ _
 rw[e1]
 change Code.wp _ _ _ ⟨#[.int .i64 k,undef,.pointer (some ⟨w.heap.size,0,none⟩),.pointer (some ⟨w.heap.size+1,0,none⟩),.agg zcq,.agg zcr,.agg zcs,.agg zct,.agg tabC,undef,undef,undef,undef,undef,undef,undef,undef,undef],[]⟩ _
 clear hK;go_upto_region 4 with(fail)
 rename_i K2 hK2
 apply wp_region_lit
 refine Great.wpList_readTo rfl (some 15) rfl (.int .i64 0) rfl ?_;refine Great.wpList_readTo rfl (some 16) rfl (.pointer (some ⟨w.heap.size+1,0 * 9,none⟩)) ?_ ?_
 ·exact zgW _ (.tmp 3) (.tmp 15) rfl _ _ _ 0 (by decide) rfl rfl
 refine wpList_load_mid rfl 89 _ rfl (w.heap.size+1) (0 * 9) rfl (zap 0).toList _ ?_ Tryz.underlying89 rfl (by as_aux_lemma=>kernel_rfl) ?_
 ·intro i v hv
  rw[← h3,cell_of_row _ _ _ _ _ (0,0) (zau _ _)];exact ziF 0 (by decide) i v hv
 refine wpList_store_rowTo rfl 89 _ _ rfl rfl w.heap.size (zap 0) rfl rfl 89 zcv ?_ ?_ ?_ ?_ ?_
 ·exact(zbk _ _ _ (by omega)).trans h1
 ·as_aux_lemma=>kernel_rfl
 ·as_aux_lemma=>kernel_rfl
 ·as_aux_lemma=>kernel_rfl
 refine wpList_nil (hK2 _ _ ?_);clear hK2
 have hb:((W.alloc (.cells tabC 115)).setRow w.heap.size (zap 0)).heap[w.heap.size]? = some (.cells (zap 0) 89 (0,0)) :=
  setRow_heap _ _ _ _ _ _ ((zbk _ _ _ (by omega)).trans h1)
 have hg:w.grownBy ((W.alloc (.cells tabC 115)).setRow w.heap.size (zap 0)) none :=
  zeX (zaa h2 (zGA _ _ none)) (Nat.le_refl _)
 generalize (W.alloc (.cells tabC 115)).setRow w.heap.size (zap 0)=W2 at *
 change Code.wp _ _ _ ⟨#[.int .i64 0,undef,.pointer (some ⟨w.heap.size,0,none⟩),.pointer (some ⟨w.heap.size+1,0,none⟩),.agg zcq,.agg zcr,.agg zcs,.agg zct,.agg tabC,_,_,_,_,_,_,.int .i64 0,.pointer (some ⟨w.heap.size+1,0 * 9,none⟩),.agg (zap 0)],[]⟩ _
 go_wp2;have hl:=run_loadVar_row (P:=Tryz.prog) W2 w.heap.size 89 89 (zap 0) (0,0) _ hb Tryz.underlying89 rfl (by as_aux_lemma=>kernel_rfl);refine bodyPost_ret (v := .agg (zap 0)) ?_ rfl ⟨rfl,hg⟩;unfold results;rw[Tryz.results66];simp[asAddr,hl]
theorem znN (k:Int)(w:World):Calls Tryz.prog 66 #[.int .i64 k] w (zab (zxI k) w):=by
 unfold zxI
 by_cases h1:k=1
 ·subst h1;exact zHl w
 by_cases h2:k=2
 ·subst h2;exact zHm w
 by_cases h3:k=3
 ·subst h3;exact zDR w
 have e:zap k=zap 0:=by
  unfold zap;rw[if_neg h1,if_neg h2,if_neg h3]
  rfl
 rw[e]
 by_cases h0:k=0
 ·subst h0;exact zGa w
 by_cases hl:k<0
 ·exact of_low w k hl
 ·exact zGb w k (by omega)
open Go.RowKit
open Go.Lib (nDigits decDigits)
def zHS:Ext→Bool
 | .inl false=>true
 | _=>false
def zHT:Ext→Bool
 | .inl true=>true
 | _=>false
def isNil:Ext→Bool
 | .inr x=>decide (x=0)
 | _=>false
theorem zsV {a c:ByteArray}{u v:Ext}(h:IsE a u)(k:IsE c v):decide (a=c)=decide (u=v):=by
 apply decide_eq_decide.2
 exact⟨fun e=>by subst e;exact h.uniq k,fun e=>by subst e;exact h.same k⟩
theorem zmw:lowS.toList=[45,105,110,102]:=by decide +kernel
theorem zjj:infS.toList=[105,110,102]:=by decide +kernel
theorem zAF:zdL.toList=[48]:=by decide +kernel
theorem zlD {a:ByteArray}{v:Ext}(h:IsE a v):(a.toList == [45,105,110,102])=zHS v:=by
 rw[← zmw,zdw,zsV h lowE];rcases v with(_|_)|x
 ·rfl
 ·exact decide_eq_false (fun e=>by cases e)
 ·exact decide_eq_false (fun e=>by cases e)
theorem zdj {a:ByteArray}{v:Ext}(h:IsE a v):(a.toList == [105,110,102])=zHT v:=by
 rw[← zjj,zdw,zsV h topE];rcases v with(_|_)|x
 ·exact decide_eq_false (fun e=>by cases e)
 ·rfl
 ·exact decide_eq_false (fun e=>by cases e)
theorem zsW {a:ByteArray}{v:Ext}(h:IsE a v):(a.toList == [48])=isNil v:=by
 rw[← zAF,zdw,zsV h znt];rcases v with(_|_)|x
 ·exact decide_eq_false (fun e=>by cases e)
 ·exact decide_eq_false (fun e=>by cases e)
 ·exact decide_eq_decide.2 ⟨fun e=>Sum.inr.inj e,fun e=>by rw[e]⟩
theorem zqp (a:ByteArray)(b1 b2:Bool)(f1:(a.toList == [45,105,110,102])=b1)(f2:(a.toList == [105,110,102])=b2)(w:World) :
  Calls Tryz.prog 151 #[.string a] w fun e w'=>e = .returned (.int .i64 (if b1 then -1 else if b2 then 1 else 0))∧w=w':=by
 cases b1 <;> cases b2
 all_goals
  go_enter Tryz.func151,Tryz.ntmps151;go_wp2;go_ret;exact⟨rfl,rfl⟩
def zfn (a:ByteArray)(s:Int):Prop:=∀ w,Calls Tryz.prog 151 #[.string a] w fun e w'=>e = .returned (.int .i64 s)∧w=w'
theorem zmx {a:ByteArray}{v:Ext}(h:IsE a v):zfn a (zxn v):=fun w=>by
 have k:=zqp a _ _ (zlD h) (zdj h) w;rcases v with(_|_)|x <;> exact k
theorem zGc {a:ByteArray}(h1:a≠lowS)(h2:a≠infS):zfn a 0:=fun w=>by
 have k:=zqp a false false (by rw[← zmw,zdw];exact decide_eq_false h1) (by rw[← zjj,zdw];exact decide_eq_false h2) w;exact k
def zwn (a b:ByteArray)(c:Int):Prop:=∀ w,Calls Tryz.prog 156 #[.string a,.string b] w (zab (.int .i64 c) w)
theorem zdk (a b:ByteArray)(s t c:Int)(w:World)(SA:Hid (zfn a s))(SB:Hid (zfn b t))(hc:Hid (Lib.compareInt s t=c))(f1:(c == 0)=false)(f2:(c != 0)=true) :
  Calls Tryz.prog 114 #[.string a,.string b] w (zab (.int .i64 c) w):=by
 go_enter Tryz.func114,Tryz.ntmps114;go_wp2_with fail;refine(SA.out _).mono ?_;rintro e w' ⟨rfl,rfl⟩;go_wp2_with fail;refine(SB.out _).mono ?_;rintro e w' ⟨rfl,rfl⟩;go_wp2_with fail;refine(Tryz.cmp_Compare_int s t _).mono ?_;rintro e w' ⟨rfl,rfl⟩;rw[hc.out];go_wp2;go_ret;exact⟨rfl,zah _ _⟩
theorem zih (a b:ByteArray)(s t c:Int)(w:World)(SA:Hid (zfn a s))(SB:Hid (zfn b t))(hc:Hid (Lib.compareInt s t=0))(C:Hid (zwn a b c)) :
  Calls Tryz.prog 114 #[.string a,.string b] w (zab (.int .i64 c) w):=by
 go_enter Tryz.func114,Tryz.ntmps114;go_wp2_with fail;refine(SA.out _).mono ?_;rintro e w' ⟨rfl,rfl⟩;go_wp2_with fail;refine(SB.out _).mono ?_;rintro e w' ⟨rfl,rfl⟩;go_wp2_with fail;refine(Tryz.cmp_Compare_int s t _).mono ?_;rintro e w' ⟨rfl,rfl⟩;rw[hc.out];go_wp2_with fail;refine(C.out _).mono ?_;rintro e w1 ⟨rfl,hg⟩;have G1:=zHd hg;clear hg;go_wp2;go_ret;exact⟨rfl,G1.out⟩
def zdu (a b:ByteArray)(c:Int):Prop:=∀ w,Calls Tryz.prog 114 #[.string a,.string b] w (zab (.int .i64 c) w)
theorem zgG:zcS infS:=zoN
theorem zgH:zcS lowS:=zoO
theorem zpw:infS.size≤maxLen:=by decide
theorem zpx:lowS.size≤maxLen:=by decide
theorem zck {a b:ByteArray}{u v:Ext}(ha:IsE a u)(hb:IsE b v):zdu a b (cmpE u v):=fun w=>by
 have sa:=zHd (zmx ha);have sb:=zHd (zmx hb);rcases u with(_|_)|x <;> rcases v with(_|_)|y
 ·cases ha;cases hb
  exact zih _ _ _ _ _ w sa sb (zHd (show Lib.compareInt (-1) (-1)=0 by decide +kernel)) (zHd fun w=>zgj zpx zpx (.inl zgH) w)
 ·exact zdk _ _ _ _ _ w sa sb (zHd (show Lib.compareInt (-1) (1) = -1 by decide +kernel)) rfl rfl
 ·exact zdk _ _ _ _ _ w sa sb (zHd (show Lib.compareInt (-1) (0) = -1 by decide +kernel)) rfl rfl
 ·exact zdk _ _ _ _ _ w sa sb (zHd (show Lib.compareInt (1) (-1)=1 by decide +kernel)) rfl rfl
 ·cases ha;cases hb
  exact zih _ _ _ _ _ w sa sb (zHd (show Lib.compareInt (1) (1)=0 by decide +kernel)) (zHd fun w=>zgj zpw zpw (.inl zgG) w)
 ·exact zdk _ _ _ _ _ w sa sb (zHd (show Lib.compareInt (1) (0)=1 by decide +kernel)) rfl rfl
 ·exact zdk _ _ _ _ _ w sa sb (zHd (show Lib.compareInt (0) (-1)=1 by decide +kernel)) rfl rfl
 ·exact zdk _ _ _ _ _ w sa sb (zHd (show Lib.compareInt (0) (1) = -1 by decide +kernel)) rfl rfl
 ·exact zih _ _ _ _ _ w sa sb (zHd (show Lib.compareInt (0) (0)=0 by decide +kernel)) (zHd fun w=>znF ha hb w)
theorem zAG (a b:ByteArray)(c:Int)(w:World)(C:Hid (zdu b a c)):Calls Tryz.prog 121 #[.string a,.string b] w (zab (.int .i64 c) w):=by
 go_enter Tryz.func121,Tryz.ntmps121;go_wp2_with fail;refine(C.out _).mono ?_;rintro e w1 ⟨rfl,hg⟩;have G1:=zHd hg;clear hg;go_wp2;go_ret;exact⟨rfl,G1.out⟩
theorem zsX {a b:ByteArray}{u v:Ext}(ha:IsE a u)(hb:IsE b v)(w:World):Calls Tryz.prog 121 #[.string a,.string b] w (zab (.int .i64 (cmpE v u)) w) :=
 zAG a b _ w (zHd (zck hb ha))
theorem zsY (a:ByteArray)(w:World):Calls Tryz.prog 107 #[.string a] w (zab (.bool false) w):=by
 go_enter Tryz.func107,Tryz.ntmps107;go_wp2;go_ret;exact⟨rfl,zah _ _⟩
def zHn (a:ByteArray)(k:Bool):Prop:=∀ w,Calls Tryz.prog 109 #[.string a] w (zab (.bool k) w)
theorem zjJ (a:ByteArray)(s:Int)(w:World)(SA:Hid (zfn a s))(f1:(s == 0)=false)(f2:(s != 0)=true) :
  Calls Tryz.prog 108 #[.string a] w (zab (.bool true) w):=by
 go_enter Tryz.func108,Tryz.ntmps108;go_wp2_with fail;refine(SA.out _).mono ?_;rintro e w' ⟨rfl,rfl⟩;go_wp2;go_ret;exact⟨rfl,zah _ _⟩
theorem zku (a:ByteArray)(k:Bool)(w:World)(SA:Hid (zfn a 0))(V:Hid (zHn a k)) :
  Calls Tryz.prog 108 #[.string a] w (zab (.bool k) w):=by
 go_enter Tryz.func108,Tryz.ntmps108;go_wp2_with fail;refine(SA.out _).mono ?_;rintro e w' ⟨rfl,rfl⟩;go_wp2_with fail;refine(V.out _).mono ?_;rintro e w1 ⟨rfl,hg⟩;have G1:=zHd hg;clear hg;go_wp2;go_ret;exact⟨rfl,G1.out⟩
def zaX (F:Nat)(a:ByteArray)(k:Bool):Prop:=∀ w,Calls Tryz.prog F #[.string a] w (zab (.bool k) w)
theorem zsZ {a:ByteArray}{v:Ext}(h:IsE a v):zaX 108 a true:=fun w=>by
 have sa:=zHd (zmx h);rcases v with(_|_)|x
 ·exact zjJ a _ w sa rfl rfl
 ·exact zjJ a _ w sa rfl rfl
 ·exact zku a true w sa (zHd fun w=>zkr h w)
def zfX (a:ByteArray):Prop:=∀ v,¬ IsE a v
theorem zfX.rat {a:ByteArray}(h:zfX a):zcS a:=fun x k=>h (.inr x) k
theorem zfX.size {a:ByteArray}(h:zfX a):zfn a 0:=zGc (fun e=>h (.inl false) e) (fun e=>h (.inl true) e)
theorem znO (a:ByteArray):(∃ v,IsE a v)∨zfX a:=by
 by_cases h:∃ v,IsE a v
 ·exact .inl h
 ·exact .inr fun v k=>h ⟨v,k⟩
theorem zuP {a:ByteArray}(h:zfX a)(ha:a.size≤maxLen):zaX 108 a false:=fun w =>
 zku a false w (zHd h.size) (zHd fun w=>zfW h.rat ha w)
def zpy (a:ByteArray)(b k:Bool):Prop:=∃ A B,∀ w,Calls Tryz.prog 157 #[.string a] w (zab (.tuple #[.bool b,.string A,.string B,.bool k]) w)
theorem zfY (a:ByteArray)(i b k:Bool)(w:World)(f1:(a.toList == [105,110,102])=i)(P:Hid (zpy a b k)) :
  Calls Tryz.prog 115 #[.string a] w (zab (.bool (i || (k && !b))) w):=by
 obtain⟨A,B,p⟩:=P.out;clear P;have P:=zHd p;clear p;cases i <;> cases b <;> cases k
 all_goals
  go_enter Tryz.func115,Tryz.ntmps115;go_wp2_with fail;refine(P.out _).mono ?_;rintro e w1 ⟨rfl,hg⟩;have G1:=zHd hg;clear hg;go_wp2;go_ret;exact⟨rfl,G1.out⟩
theorem zAH {a:ByteArray}{x:Rat}(h:zay a x):zpy a (sgn x) true:=⟨_,_,fun w=>zAt h w⟩
theorem zkv {a:ByteArray}(h:zcS a)(ha:a.size≤maxLen):zpy a false false:=⟨_,_,fun w=>zDM h ha w⟩
theorem zxJ (x:Rat):(!sgn x)=decide (0≤x):=by
 unfold sgn;have h:=Rat.num_nonneg (q:=x)
 by_cases k:0≤x
 ·have:=h.2 k
  simp[k]
  try omega
 ·have h2:¬ 0≤x.num:=fun z=>k (h.1 z)
  simp[k]
  try omega
theorem znP {a:ByteArray}{v:Ext}(h:IsE a v):zaX 115 a (hasE 2 v):=fun w=>by
 rcases v with(_|_)|x
 ·have:=zfY a _ _ _ w (zdj h) (zHd (zkv (by cases h;exact zgH) (IsE.len (v := .inl false) h)))
  exact this
 ·have:=zfY a _ _ _ w (zdj h) (zHd (zkv (by cases h;exact zgG) (IsE.len (v := .inl true) h)))
  exact this
 ·have:=zfY a _ _ _ w (zdj h) (zHd (zAH h))
  rw[Bool.true_and,zxJ] at this;rw[show hasE 2 (.inr x)=decide (0≤x) by simp[hasE]];exact this
theorem zAJ {a:ByteArray}(h:zfX a)(ha:a.size≤maxLen):zaX 115 a false:=fun w=>by
 have:=zfY a false _ _ w (by rw[← zjj,zdw];exact decide_eq_false (fun e=>h (.inl true) e)) (zHd (zkv h.rat ha));exact this
theorem zeG (a:ByteArray)(c:Int)(k:Bool)(w:World)(C:Hid (zwn a ⟨#[48]⟩ c))(hk:decide (0<c)=k) :
  Calls Tryz.prog 116 #[.string a] w (zab (.bool k) w):=by
 go_enter Tryz.func116,Tryz.ntmps116;go_wp2_with fail;refine(C.out _).mono ?_;rintro e w1 ⟨rfl,hg⟩;have G1:=zHd hg;clear hg;go_wp2;go_ret;exact⟨by first|rfl|rw[← hk]|simp_all,G1.out⟩
theorem zmy:zdL.size≤maxLen:=by decide
theorem zkw {a:ByteArray}{v:Ext}(h:IsE a v):zaX 116 a (wgtE 2 v):=fun w=>by
 rcases v with(_|_)|x
 ·exact zeG a 0 false w (zHd fun w=>zgj (IsE.len (v := .inl false) h) zmy (.inl (by cases h;exact zgH)) w) rfl
 ·exact zeG a 0 false w (zHd fun w=>zgj (IsE.len (v := .inl true) h) zmy (.inl (by cases h;exact zgG)) w) rfl
 ·refine zeG a _ _ w (zHd fun w=>znF h ziY w) ?_
  rw[show wgtE 2 (.inr x)=decide (0<x) by simp[wgtE]];exact decide_eq_decide.2 (zmr x 0)
theorem zuQ {a:ByteArray}(h:zfX a)(ha:a.size≤maxLen):zaX 116 a false:=fun w =>
 zeG a 0 false w (zHd fun w=>zgj ha zmy (.inl h.rat) w) rfl
theorem znQ {a:ByteArray}{v:Ext}(h:IsE a v):zaX 109 a (wgtE 1 v):=fun w=>by
 rcases v with(_|_)|x
 ·exact zfW (by cases h;exact zgH) (IsE.len (v := .inl false) h) w
 ·exact zfW (by cases h;exact zgG) (IsE.len (v := .inl true) h) w
 ·exact zkr h w
open Go.RowKit
open Go.Lib (nDigits decDigits)
def OpIs (F:Nat)(a b:ByteArray)(V:Value):Prop:=∀ w,Calls Tryz.prog F #[.string a,.string b] w (zab V w)
def zrI (F:Nat)(a:ByteArray)(V:Value):Prop:=∀ w,Calls Tryz.prog F #[.string a] w (zab V w)
def okV (a:ByteArray):Value := .tuple #[.string a,.int .i64 0]
theorem zuR (a b:ByteArray)(c:Int)(k:Bool)(w:World)(C:Hid (zdu b a c))(hk:decide (c<0)=k) :
  Calls Tryz.prog 110 #[.string a,.string b] w (zab (okV (if k then b else a)) w):=by
 cases k
 all_goals
  have hk2:=hk;simp only[decide_eq_true_eq,decide_eq_false_iff_not] at hk2;go_enter Tryz.func110,Tryz.ntmps110;go_wp2_with fail;refine(C.out _).mono ?_;rintro e w1 ⟨rfl,hg⟩;have G1:=zHd hg;clear hg;go_wp2
  go_ret2
  exact⟨rfl,G1.out⟩
theorem zta (a b:ByteArray)(c:Int)(k:Bool)(w:World)(C:Hid (zdu b a c))(hk:decide (0<c)=k) :
  Calls Tryz.prog 122 #[.string a,.string b] w (zab (okV (if k then b else a)) w):=by
 cases k
 all_goals
  have hk2:=hk;simp only[decide_eq_true_eq,decide_eq_false_iff_not] at hk2;go_enter Tryz.func122,Tryz.ntmps122;go_wp2_with fail;refine(C.out _).mono ?_;rintro e w1 ⟨rfl,hg⟩;have G1:=zHd hg;clear hg;go_wp2
  go_ret2
  exact⟨rfl,G1.out⟩
theorem zxK {a b:ByteArray}{u v:Ext}(ha:IsE a u)(hb:IsE b v):OpIs 110 a b (extV (zbH u v)):=fun w=>by
 have k:=zuR a b _ _ w (zHd (zck hb ha)) rfl;unfold zbH
 by_cases h:cmpE v u<0
 ·rw[if_pos h,zfF hb]
  rw[decide_eq_true h] at k;exact k
 ·rw[if_neg h,zfF ha]
  rw[decide_eq_false h] at k;exact k
theorem zuS {a b:ByteArray}{u v:Ext}(ha:IsE a u)(hb:IsE b v):OpIs 122 a b (extV (zbD u v)):=fun w=>by
 have k:=zta a b _ _ w (zHd (zck hb ha)) rfl;unfold zbD
 by_cases h:0<cmpE v u
 ·rw[if_pos h,zfF hb]
  rw[decide_eq_true h] at k;exact k
 ·rw[if_neg h,zfF ha]
  rw[decide_eq_false h] at k;exact k
theorem zgm (a b:ByteArray)(i j:Bool)(w:World)(p0:(a.toList == [105,110,102])=i)(q0:(b.toList == [105,110,102])=j)(h:(i || j)=true) :
  Calls Tryz.prog 111 #[.string a,.string b] w (zab (okV infS) w):=by
 cases i <;> cases j <;> simp only[Bool.or_self,Bool.or_true,Bool.true_or,Bool.false_eq_true] at h
 all_goals
  go_enter Tryz.func111,Tryz.ntmps111;go_wp2
  go_ret2
  exact⟨rfl,zah _ _⟩
theorem zkx (a b:ByteArray)(i j:Bool)(w:World)(p0:(a.toList == [105,110,102])=false)(q0:(b.toList == [105,110,102])=false)(p1:(a.toList == [45,105,110,102])=i)(q1:(b.toList == [45,105,110,102])=j)(h:(i || j)=true) :
  Calls Tryz.prog 111 #[.string a,.string b] w (zab (okV lowS) w):=by
 cases i <;> cases j <;> simp only[Bool.or_self,Bool.or_true,Bool.true_or,Bool.false_eq_true] at h
 all_goals
  go_enter Tryz.func111,Tryz.ntmps111;go_wp2
  go_ret2
  exact⟨rfl,zah _ _⟩
theorem zAK (a b S:ByteArray)(E:Int)(w:World)(p0:(a.toList == [105,110,102])=false)(q0:(b.toList == [105,110,102])=false)(p1:(a.toList == [45,105,110,102])=false)(q1:(b.toList == [45,105,110,102])=false)(C:Hid (OpIs 153 a b (.tuple #[.string S,.int .i64 E]))) :
  Calls Tryz.prog 111 #[.string a,.string b] w (zab (.tuple #[.string S,.int .i64 E]) w):=by
 go_enter Tryz.func111,Tryz.ntmps111;go_wp2_with fail;refine(C.out _).mono ?_;rintro e w1 ⟨rfl,hg⟩;have G1:=zHd hg;clear hg;go_wp2
 go_ret2
 exact⟨rfl,G1.out⟩
theorem zwo (a b:ByteArray)(i j:Bool)(w:World)(p0:(a.toList == [105,110,102])=i)(q0:(b.toList == [105,110,102])=j)(h:(i || j)=true) :
  Calls Tryz.prog 117 #[.string a,.string b] w (zab (okV infS) w):=by
 cases i <;> cases j <;> simp only[Bool.or_self,Bool.or_true,Bool.true_or,Bool.false_eq_true] at h
 all_goals
  go_enter Tryz.func117,Tryz.ntmps117;go_wp2
  go_ret2
  exact⟨rfl,zah _ _⟩
theorem zGd (a b S:ByteArray)(E:Int)(w:World)(p0:(a.toList == [105,110,102])=false)(q0:(b.toList == [105,110,102])=false)(C:Hid (OpIs 153 a b (.tuple #[.string S,.int .i64 E]))) :
  Calls Tryz.prog 117 #[.string a,.string b] w (zab (.tuple #[.string S,.int .i64 E]) w):=by
 go_enter Tryz.func117,Tryz.ntmps117;go_wp2_with fail;refine(C.out _).mono ?_;rintro e w1 ⟨rfl,hg⟩;have G1:=zHd hg;clear hg;go_wp2
 go_ret2
 exact⟨rfl,G1.out⟩
theorem zAL (a b:ByteArray)(i j:Bool)(w:World)(p0:(a.toList == [48])=i)(q0:(b.toList == [48])=j)(h:(i || j)=true) :
  Calls Tryz.prog 118 #[.string a,.string b] w (zab (okV zdL) w):=by
 cases i <;> cases j <;> simp only[Bool.or_self,Bool.or_true,Bool.true_or,Bool.false_eq_true] at h
 all_goals
  go_enter Tryz.func118,Tryz.ntmps118;go_wp2
  go_ret2
  exact⟨rfl,zah _ _⟩
theorem ztb (a b:ByteArray)(i j:Bool)(w:World)(p0:(a.toList == [48])=false)(q0:(b.toList == [48])=false)(p1:(a.toList == [105,110,102])=i)(q1:(b.toList == [105,110,102])=j)(h:(i || j)=true) :
  Calls Tryz.prog 118 #[.string a,.string b] w (zab (okV infS) w):=by
 cases i <;> cases j <;> simp only[Bool.or_self,Bool.or_true,Bool.true_or,Bool.false_eq_true] at h
 all_goals
  go_enter Tryz.func118,Tryz.ntmps118;go_wp2
  go_ret2
  exact⟨rfl,zah _ _⟩
theorem zDS (a b S:ByteArray)(E:Int)(w:World)(p0:(a.toList == [48])=false)(q0:(b.toList == [48])=false)(p1:(a.toList == [105,110,102])=false)(q1:(b.toList == [105,110,102])=false)(C:Hid (OpIs 158 a b (.tuple #[.string S,.int .i64 E]))) :
  Calls Tryz.prog 118 #[.string a,.string b] w (zab (.tuple #[.string S,.int .i64 E]) w):=by
 go_enter Tryz.func118,Tryz.ntmps118;go_wp2_with fail;refine(C.out _).mono ?_;rintro e w1 ⟨rfl,hg⟩;have G1:=zHd hg;clear hg;go_wp2
 go_ret2
 exact⟨rfl,G1.out⟩
theorem znR (a:ByteArray)(c:Int)(k:Bool)(w:World)(C:Hid (zdu a ⟨#[48]⟩ c))(hk:decide (c<0)=k) :
  Calls Tryz.prog 112 #[.string a] w (zab (okV (if k then lowS else zdL)) w):=by
 cases k
 all_goals
  have hk2:=hk;simp only[decide_eq_true_eq,decide_eq_false_iff_not] at hk2;go_enter Tryz.func112,Tryz.ntmps112;go_wp2_with fail;refine(C.out _).mono ?_;rintro e w1 ⟨rfl,hg⟩;have G1:=zHd hg;clear hg;go_wp2
  go_ret2
  exact⟨rfl,G1.out⟩
theorem zmz (a:ByteArray)(c:Int)(k:Bool)(w:World)(C:Hid (zdu a ⟨#[49]⟩ c))(hk:decide (0<c)=k) :
  Calls Tryz.prog 123 #[.string a] w (zab (okV (if k then infS else oneS)) w):=by
 cases k
 all_goals
  have hk2:=hk;simp only[decide_eq_true_eq,decide_eq_false_iff_not] at hk2;go_enter Tryz.func123,Tryz.ntmps123;go_wp2_with fail;refine(C.out _).mono ?_;rintro e w1 ⟨rfl,hg⟩;have G1:=zHd hg;clear hg;go_wp2
  go_ret2
  exact⟨rfl,G1.out⟩
theorem zky (a:ByteArray)(c:Int)(w:World)(C:Hid (zdu a ⟨#[49]⟩ c))(hk:0≤c) :
  Calls Tryz.prog 119 #[.string a] w (zab (okV infS) w):=by
 go_enter Tryz.func119,Tryz.ntmps119;go_wp2_with fail;refine(C.out _).mono ?_;rintro e w1 ⟨rfl,hg⟩;have G1:=zHd hg;clear hg;go_wp2
 go_ret2
 exact⟨rfl,G1.out⟩
theorem ztc (a R S:ByteArray)(c K E:Int)(w:World)(C:Hid (zdu a ⟨#[49]⟩ c))(hk:¬ 0≤c)(D:Hid (OpIs 154 ⟨#[49]⟩ a (.tuple #[.string R,.int .i64 K])))
  (V:Hid (OpIs 120 ⟨#[49]⟩ R (.tuple #[.string S,.int .i64 E]))) :
  Calls Tryz.prog 119 #[.string a] w (zab (.tuple #[.string S,.int .i64 E]) w):=by
 go_enter Tryz.func119,Tryz.ntmps119;go_wp2_with fail;refine(C.out _).mono ?_;rintro e w1 ⟨rfl,hg⟩;have G1:=zHd hg;clear hg;go_wp2_with fail;refine(D.out _).mono ?_;rintro e w2 ⟨rfl,hg⟩;have G2:=zHd (zaa G1.out hg);clear hg G1;go_wp2_with fail;refine(V.out _).mono ?_;rintro e w3 ⟨rfl,hg⟩;have G3:=zHd (zaa G2.out hg);clear hg G2;go_wp2
 go_ret2
 exact⟨rfl,G3.out⟩
end Go.Proofs.YtaogepcaoogpgaaGreatDoor
