/- U14 -/
import Derived.Test.YtaogepcaoogpgaaGreatDoorV10
import Derived.Test.YtaogepcaoogpgaaGreatDoorV11
import Derived.Laws.EntriesVeiled
import Derived.Deep.CutRange
import Derived.Deep.MidRow
import Derived.Deep.WholeRow
import Derived.Great.BuildSlice
import Derived.Great.Walk
set_option linter.unusedVariables false
set_option linter.unusedSimpArgs false
namespace Go.Proofs.YtaogepcaoogpgaaGreatDoor
open Go.RowKit
def fnV (F : Nat) : Value := .func (.func F) #[] #[]
def noneC : Array Value := #[.string ⟨#[]⟩, .string ⟨#[]⟩, fnV 107, fnV 107, .nilFunc, .nilFunc, .nilFunc, .nilFunc, .nilFunc]
def tropC : Array Value := #[.string infS, .string zeroS, fnV 108, fnV 109, fnV 110, fnV 111, fnV 112, fnV 113, fnV 114]
def probC : Array Value := #[.string zeroS, .string oneS, fnV 115, fnV 116, fnV 117, fnV 118, fnV 119, fnV 120, fnV 121]
def viteC : Array Value := #[.string zeroS, .string oneS, fnV 115, fnV 116, fnV 122, fnV 118, fnV 123, fnV 120, fnV 121]
def tabC : Array Value := noneC ++ tropC ++ probC ++ viteC
def blankC : Array Value := #[.string ⟨#[]⟩, .string ⟨#[]⟩, .nilFunc, .nilFunc, .nilFunc, .nilFunc, .nilFunc, .nilFunc, .nilFunc]
def roomC : Array Value := blankC ++ blankC ++ blankC ++ blankC
def semiC (k : Int) : Array Value := if k = 1 then tropC else if k = 2 then probC else if k = 3 then viteC else noneC
def semiV (k : Int) : Value := .agg (semiC k)
theorem at_tab (j : Nat) (hj : j < 4) (i : Nat) (v : Value) (h : (semiC j).toList[i]? = some v) : tabC[j * 9 + i]? = some v := by
 have h4 : j = 0 ∨ j = 1 ∨ j = 2 ∨ j = 3 := by omega
 have hi : i < 9 := by
  have h1 := (List.getElem?_eq_some_iff.1 h).1
  rcases h4 with rfl | rfl | rfl | rfl <;> exact h1
 have h9 : i = 0 ∨ i = 1 ∨ i = 2 ∨ i = 3 ∨ i = 4 ∨ i = 5 ∨ i = 6 ∨ i = 7 ∨ i = 8 := by omega
 rcases h4 with rfl | rfl | rfl | rfl <;> rcases h9 with rfl | rfl | rfl | rfl | rfl | rfl | rfl | rfl | rfl <;> exact h
theorem alloc_tab (o : Oper) (ho : o.op = .alloc 115) (ρ : Operand → Value) (w : World) {g : Nat} (hg : w.heap.size = g) : (execOp ρ o).run Tryz.prog w = .ok (.value (.pointer (some ⟨g, 0, none⟩))) (w.alloc (.cells roomC 115)) := by
 subst hg
 obtain ⟨d, p, t, q, af, gd⟩ := o
 cases ho
 kernel_rfl
set_option maxRecDepth 100000 in
theorem idx_tab (o : Oper) (x y : Operand) (ho : o.op = .indexAddr 115 x y) (ρ : Operand → Value) (w : World) (g : Nat) (j : Nat) (hj : j < 4) (hx : ρ x = .pointer (some ⟨g, 0, none⟩)) (hy : ρ y = .int .i64 j) :
  (execOp ρ o).run Tryz.prog w = .ok (.value (.pointer (some ⟨g, j * 9, none⟩))) w := by
 obtain ⟨d, p, t, q, af, gd⟩ := o
 cases ho
 unfold execOp
 dsimp only
 rw [hx, hy]
 have h4 : j = 0 ∨ j = 1 ∨ j = 2 ∨ j = 3 := by omega
 rcases h4 with rfl | rfl | rfl | rfl <;> exact rfl
theorem grown_row {w w1 : World} {g : Nat} {cs : Array Value} (h : w.grownBy w1 none) (hg : w.heap.size ≤ g) : w.grownBy (w1.setRow g cs) none :=
 ⟨h.1, h.2, h.3, by rw [setRow_size]; exact h.4, fun k hk hn => by rw [setRow_other _ _ _ _ (by omega)]; exact h.5 k hk hn⟩
set_option maxRecDepth 100000 in
set_option maxHeartbeats 1000000 in
theorem of_one (w : World) : Calls Tryz.prog 66 #[.int .i64 1] w (ValPost (.agg (semiC 1)) w) := by
 go_enter Tryz.func66, Tryz.ntmps66
 go_upto_region 1 with (fail)
 rename_i K hK
 generalize hW : w.alloc (.cells #[.string ⟨#[]⟩, .string ⟨#[]⟩, .nilFunc, .nilFunc, .nilFunc, .nilFunc, .nilFunc, .nilFunc, .nilFunc] 89) = W at *
 have h1 : W.heap[w.heap.size]? = some (.cells blankC 89 (0, 0)) := by subst hW; exact new_block _ _
 have h2 : w.grownBy W none := by subst hW; exact World.grownBy_alloc _ _ none
 have h3 : W.heap.size = w.heap.size + 1 := by subst hW; simp
 clear hW
 apply wp_region_lit
 refine wpList_buildTo rfl 89 _ rfl (some 4) rfl noneC (by as_aux_lemma => kernel_rfl) ?_
 refine wpList_buildTo rfl 89 _ rfl (some 5) rfl tropC (by as_aux_lemma => kernel_rfl) ?_
 refine wpList_buildTo rfl 89 _ rfl (some 6) rfl probC (by as_aux_lemma => kernel_rfl) ?_
 refine wpList_buildTo rfl 89 _ rfl (some 7) rfl viteC (by as_aux_lemma => kernel_rfl) ?_
 refine wpList_buildTo rfl 115 _ rfl (some 8) rfl tabC (by as_aux_lemma => kernel_rfl) ?_
 refine Great.wpList_allocTo rfl (some 3) rfl (.pointer (some ⟨w.heap.size + 1, 0, none⟩)) (.cells roomC 115) ?_ ?_
 ·exact alloc_tab _ rfl _ _ h3
 refine wpList_store_rowTo rfl 115 _ _ rfl rfl (w.heap.size + 1) tabC ?_ ?_ 115 roomC ?_ ?_ ?_ ?_ ?_
 ·exact Act.eval_put_same _ 3 _ (by simp [Act.size_put])
 ·exact (Act.eval_put_ne _ 3 8 _ (by decide)).trans (Act.eval_put_same _ 8 _ (by simp [Act.size_put]))
 ·exact block_at _ _ _ h3.symm
 ·as_aux_lemma => kernel_rfl
 ·as_aux_lemma => kernel_rfl
 ·as_aux_lemma => kernel_rfl
 refine wpList_nil (hK _ _ ?_)
 have e1 : (W.alloc (.cells roomC 115)).setRow (w.heap.size + 1) tabC = W.alloc (.cells tabC 115) := by rw [← h3]; exact World.setRow_alloc_new _ _ _ _
 rw [e1]
 change Code.wp _ _ _ ⟨#[.int .i64 1, undef, .pointer (some ⟨w.heap.size, 0, none⟩), .pointer (some ⟨w.heap.size + 1, 0, none⟩), .agg noneC, .agg tropC, .agg probC, .agg viteC, .agg tabC, undef, undef, undef, undef, undef, undef, undef, undef, undef], []⟩ _
 clear hK
 go_upto_region 4 with (fail)
 rename_i K2 hK2
 apply wp_region_lit
 refine Great.wpList_readTo rfl (some 15) rfl (.int .i64 1) rfl ?_
 refine Great.wpList_readTo rfl (some 16) rfl (.pointer (some ⟨w.heap.size + 1, 1 * 9, none⟩)) ?_ ?_
 ·exact idx_tab _ (.tmp 3) (.tmp 15) rfl _ _ _ 1 (by decide) rfl rfl
 refine wpList_load_mid rfl 89 _ rfl (w.heap.size + 1) (1 * 9) rfl (semiC 1).toList _ ?_ Tryz.underlying89 rfl (by as_aux_lemma => kernel_rfl) ?_
 ·intro i v hv
  rw [← h3, cell_of_row _ _ _ _ _ (0, 0) (new_block _ _)]
  exact at_tab 1 (by decide) i v hv
 refine wpList_store_rowTo rfl 89 _ _ rfl rfl w.heap.size (semiC 1) rfl rfl 89 blankC ?_ ?_ ?_ ?_ ?_
 ·exact (block_old _ _ _ (by omega)).trans h1
 ·as_aux_lemma => kernel_rfl
 ·as_aux_lemma => kernel_rfl
 ·as_aux_lemma => kernel_rfl
 refine wpList_nil (hK2 _ _ ?_)
 clear hK2
 have hb : ((W.alloc (.cells tabC 115)).setRow w.heap.size (semiC 1)).heap[w.heap.size]? = some (.cells (semiC 1) 89 (0, 0)) :=
  setRow_heap _ _ _ _ _ _ ((block_old _ _ _ (by omega)).trans h1)
 have hg : w.grownBy ((W.alloc (.cells tabC 115)).setRow w.heap.size (semiC 1)) none :=
  grown_row (grown_trans h2 (World.grownBy_alloc _ _ none)) (Nat.le_refl _)
 generalize (W.alloc (.cells tabC 115)).setRow w.heap.size (semiC 1) = W2 at *
 change Code.wp _ _ _ ⟨#[.int .i64 1, undef, .pointer (some ⟨w.heap.size, 0, none⟩), .pointer (some ⟨w.heap.size + 1, 0, none⟩), .agg noneC, .agg tropC, .agg probC, .agg viteC, .agg tabC, _, _, _, _, _, _, .int .i64 1, .pointer (some ⟨w.heap.size + 1, 1 * 9, none⟩), .agg (semiC 1)], []⟩ _
 go_wp2
 have hl := run_loadVar_row (P := Tryz.prog) W2 w.heap.size 89 89 (semiC 1) (0, 0) _ hb Tryz.underlying89 rfl (by as_aux_lemma => kernel_rfl)
 refine bodyPost_ret (v := .agg (semiC 1)) ?_ rfl ⟨rfl, hg⟩
 unfold results
 rw [Tryz.results66]
 simp [asAddr, hl]
set_option maxRecDepth 100000 in
set_option maxHeartbeats 1000000 in
theorem of_two (w : World) : Calls Tryz.prog 66 #[.int .i64 2] w (ValPost (.agg (semiC 2)) w) := by
 go_enter Tryz.func66, Tryz.ntmps66
 go_upto_region 1 with (fail)
 rename_i K hK
 generalize hW : w.alloc (.cells #[.string ⟨#[]⟩, .string ⟨#[]⟩, .nilFunc, .nilFunc, .nilFunc, .nilFunc, .nilFunc, .nilFunc, .nilFunc] 89) = W at *
 have h1 : W.heap[w.heap.size]? = some (.cells blankC 89 (0, 0)) := by subst hW; exact new_block _ _
 have h2 : w.grownBy W none := by subst hW; exact World.grownBy_alloc _ _ none
 have h3 : W.heap.size = w.heap.size + 1 := by subst hW; simp
 clear hW
 apply wp_region_lit
 refine wpList_buildTo rfl 89 _ rfl (some 4) rfl noneC (by as_aux_lemma => kernel_rfl) ?_
 refine wpList_buildTo rfl 89 _ rfl (some 5) rfl tropC (by as_aux_lemma => kernel_rfl) ?_
 refine wpList_buildTo rfl 89 _ rfl (some 6) rfl probC (by as_aux_lemma => kernel_rfl) ?_
 refine wpList_buildTo rfl 89 _ rfl (some 7) rfl viteC (by as_aux_lemma => kernel_rfl) ?_
 refine wpList_buildTo rfl 115 _ rfl (some 8) rfl tabC (by as_aux_lemma => kernel_rfl) ?_
 refine Great.wpList_allocTo rfl (some 3) rfl (.pointer (some ⟨w.heap.size + 1, 0, none⟩)) (.cells roomC 115) ?_ ?_
 ·exact alloc_tab _ rfl _ _ h3
 refine wpList_store_rowTo rfl 115 _ _ rfl rfl (w.heap.size + 1) tabC ?_ ?_ 115 roomC ?_ ?_ ?_ ?_ ?_
 ·exact Act.eval_put_same _ 3 _ (by simp [Act.size_put])
 ·exact (Act.eval_put_ne _ 3 8 _ (by decide)).trans (Act.eval_put_same _ 8 _ (by simp [Act.size_put]))
 ·exact block_at _ _ _ h3.symm
 ·as_aux_lemma => kernel_rfl
 ·as_aux_lemma => kernel_rfl
 ·as_aux_lemma => kernel_rfl
 refine wpList_nil (hK _ _ ?_)
 have e1 : (W.alloc (.cells roomC 115)).setRow (w.heap.size + 1) tabC = W.alloc (.cells tabC 115) := by rw [← h3]; exact World.setRow_alloc_new _ _ _ _
 rw [e1]
 change Code.wp _ _ _ ⟨#[.int .i64 2, undef, .pointer (some ⟨w.heap.size, 0, none⟩), .pointer (some ⟨w.heap.size + 1, 0, none⟩), .agg noneC, .agg tropC, .agg probC, .agg viteC, .agg tabC, undef, undef, undef, undef, undef, undef, undef, undef, undef], []⟩ _
 clear hK
 go_upto_region 4 with (fail)
 rename_i K2 hK2
 apply wp_region_lit
 refine Great.wpList_readTo rfl (some 15) rfl (.int .i64 2) rfl ?_
 refine Great.wpList_readTo rfl (some 16) rfl (.pointer (some ⟨w.heap.size + 1, 2 * 9, none⟩)) ?_ ?_
 ·exact idx_tab _ (.tmp 3) (.tmp 15) rfl _ _ _ 2 (by decide) rfl rfl
 refine wpList_load_mid rfl 89 _ rfl (w.heap.size + 1) (2 * 9) rfl (semiC 2).toList _ ?_ Tryz.underlying89 rfl (by as_aux_lemma => kernel_rfl) ?_
 ·intro i v hv
  rw [← h3, cell_of_row _ _ _ _ _ (0, 0) (new_block _ _)]
  exact at_tab 2 (by decide) i v hv
 refine wpList_store_rowTo rfl 89 _ _ rfl rfl w.heap.size (semiC 2) rfl rfl 89 blankC ?_ ?_ ?_ ?_ ?_
 ·exact (block_old _ _ _ (by omega)).trans h1
 ·as_aux_lemma => kernel_rfl
 ·as_aux_lemma => kernel_rfl
 ·as_aux_lemma => kernel_rfl
 refine wpList_nil (hK2 _ _ ?_)
 clear hK2
 have hb : ((W.alloc (.cells tabC 115)).setRow w.heap.size (semiC 2)).heap[w.heap.size]? = some (.cells (semiC 2) 89 (0, 0)) :=
  setRow_heap _ _ _ _ _ _ ((block_old _ _ _ (by omega)).trans h1)
 have hg : w.grownBy ((W.alloc (.cells tabC 115)).setRow w.heap.size (semiC 2)) none :=
  grown_row (grown_trans h2 (World.grownBy_alloc _ _ none)) (Nat.le_refl _)
 generalize (W.alloc (.cells tabC 115)).setRow w.heap.size (semiC 2) = W2 at *
 change Code.wp _ _ _ ⟨#[.int .i64 2, undef, .pointer (some ⟨w.heap.size, 0, none⟩), .pointer (some ⟨w.heap.size + 1, 0, none⟩), .agg noneC, .agg tropC, .agg probC, .agg viteC, .agg tabC, _, _, _, _, _, _, .int .i64 2, .pointer (some ⟨w.heap.size + 1, 2 * 9, none⟩), .agg (semiC 2)], []⟩ _
 go_wp2
 have hl := run_loadVar_row (P := Tryz.prog) W2 w.heap.size 89 89 (semiC 2) (0, 0) _ hb Tryz.underlying89 rfl (by as_aux_lemma => kernel_rfl)
 refine bodyPost_ret (v := .agg (semiC 2)) ?_ rfl ⟨rfl, hg⟩
 unfold results
 rw [Tryz.results66]
 simp [asAddr, hl]
set_option maxRecDepth 100000 in
set_option maxHeartbeats 1000000 in
theorem of_three (w : World) : Calls Tryz.prog 66 #[.int .i64 3] w (ValPost (.agg (semiC 3)) w) := by
 go_enter Tryz.func66, Tryz.ntmps66
 go_upto_region 1 with (fail)
 rename_i K hK
 generalize hW : w.alloc (.cells #[.string ⟨#[]⟩, .string ⟨#[]⟩, .nilFunc, .nilFunc, .nilFunc, .nilFunc, .nilFunc, .nilFunc, .nilFunc] 89) = W at *
 have h1 : W.heap[w.heap.size]? = some (.cells blankC 89 (0, 0)) := by subst hW; exact new_block _ _
 have h2 : w.grownBy W none := by subst hW; exact World.grownBy_alloc _ _ none
 have h3 : W.heap.size = w.heap.size + 1 := by subst hW; simp
 clear hW
 apply wp_region_lit
 refine wpList_buildTo rfl 89 _ rfl (some 4) rfl noneC (by as_aux_lemma => kernel_rfl) ?_
 refine wpList_buildTo rfl 89 _ rfl (some 5) rfl tropC (by as_aux_lemma => kernel_rfl) ?_
 refine wpList_buildTo rfl 89 _ rfl (some 6) rfl probC (by as_aux_lemma => kernel_rfl) ?_
 refine wpList_buildTo rfl 89 _ rfl (some 7) rfl viteC (by as_aux_lemma => kernel_rfl) ?_
 refine wpList_buildTo rfl 115 _ rfl (some 8) rfl tabC (by as_aux_lemma => kernel_rfl) ?_
 refine Great.wpList_allocTo rfl (some 3) rfl (.pointer (some ⟨w.heap.size + 1, 0, none⟩)) (.cells roomC 115) ?_ ?_
 ·exact alloc_tab _ rfl _ _ h3
 refine wpList_store_rowTo rfl 115 _ _ rfl rfl (w.heap.size + 1) tabC ?_ ?_ 115 roomC ?_ ?_ ?_ ?_ ?_
 ·exact Act.eval_put_same _ 3 _ (by simp [Act.size_put])
 ·exact (Act.eval_put_ne _ 3 8 _ (by decide)).trans (Act.eval_put_same _ 8 _ (by simp [Act.size_put]))
 ·exact block_at _ _ _ h3.symm
 ·as_aux_lemma => kernel_rfl
 ·as_aux_lemma => kernel_rfl
 ·as_aux_lemma => kernel_rfl
 refine wpList_nil (hK _ _ ?_)
 have e1 : (W.alloc (.cells roomC 115)).setRow (w.heap.size + 1) tabC = W.alloc (.cells tabC 115) := by rw [← h3]; exact World.setRow_alloc_new _ _ _ _
 rw [e1]
 change Code.wp _ _ _ ⟨#[.int .i64 3, undef, .pointer (some ⟨w.heap.size, 0, none⟩), .pointer (some ⟨w.heap.size + 1, 0, none⟩), .agg noneC, .agg tropC, .agg probC, .agg viteC, .agg tabC, undef, undef, undef, undef, undef, undef, undef, undef, undef], []⟩ _
 clear hK
 go_upto_region 4 with (fail)
 rename_i K2 hK2
 apply wp_region_lit
 refine Great.wpList_readTo rfl (some 15) rfl (.int .i64 3) rfl ?_
 refine Great.wpList_readTo rfl (some 16) rfl (.pointer (some ⟨w.heap.size + 1, 3 * 9, none⟩)) ?_ ?_
 ·exact idx_tab _ (.tmp 3) (.tmp 15) rfl _ _ _ 3 (by decide) rfl rfl
 refine wpList_load_mid rfl 89 _ rfl (w.heap.size + 1) (3 * 9) rfl (semiC 3).toList _ ?_ Tryz.underlying89 rfl (by as_aux_lemma => kernel_rfl) ?_
 ·intro i v hv
  rw [← h3, cell_of_row _ _ _ _ _ (0, 0) (new_block _ _)]
  exact at_tab 3 (by decide) i v hv
 refine wpList_store_rowTo rfl 89 _ _ rfl rfl w.heap.size (semiC 3) rfl rfl 89 blankC ?_ ?_ ?_ ?_ ?_
 ·exact (block_old _ _ _ (by omega)).trans h1
 ·as_aux_lemma => kernel_rfl
 ·as_aux_lemma => kernel_rfl
 ·as_aux_lemma => kernel_rfl
 refine wpList_nil (hK2 _ _ ?_)
 clear hK2
 have hb : ((W.alloc (.cells tabC 115)).setRow w.heap.size (semiC 3)).heap[w.heap.size]? = some (.cells (semiC 3) 89 (0, 0)) :=
  setRow_heap _ _ _ _ _ _ ((block_old _ _ _ (by omega)).trans h1)
 have hg : w.grownBy ((W.alloc (.cells tabC 115)).setRow w.heap.size (semiC 3)) none :=
  grown_row (grown_trans h2 (World.grownBy_alloc _ _ none)) (Nat.le_refl _)
 generalize (W.alloc (.cells tabC 115)).setRow w.heap.size (semiC 3) = W2 at *
 change Code.wp _ _ _ ⟨#[.int .i64 3, undef, .pointer (some ⟨w.heap.size, 0, none⟩), .pointer (some ⟨w.heap.size + 1, 0, none⟩), .agg noneC, .agg tropC, .agg probC, .agg viteC, .agg tabC, _, _, _, _, _, _, .int .i64 3, .pointer (some ⟨w.heap.size + 1, 3 * 9, none⟩), .agg (semiC 3)], []⟩ _
 go_wp2
 have hl := run_loadVar_row (P := Tryz.prog) W2 w.heap.size 89 89 (semiC 3) (0, 0) _ hb Tryz.underlying89 rfl (by as_aux_lemma => kernel_rfl)
 refine bodyPost_ret (v := .agg (semiC 3)) ?_ rfl ⟨rfl, hg⟩
 unfold results
 rw [Tryz.results66]
 simp [asAddr, hl]
set_option maxRecDepth 100000 in
set_option maxHeartbeats 1000000 in
theorem of_zero (w : World) : Calls Tryz.prog 66 #[.int .i64 0] w (ValPost (.agg (semiC 0)) w) := by
 go_enter Tryz.func66, Tryz.ntmps66
 go_upto_region 1 with (fail)
 rename_i K hK
 generalize hW : w.alloc (.cells #[.string ⟨#[]⟩, .string ⟨#[]⟩, .nilFunc, .nilFunc, .nilFunc, .nilFunc, .nilFunc, .nilFunc, .nilFunc] 89) = W at *
 have h1 : W.heap[w.heap.size]? = some (.cells blankC 89 (0, 0)) := by subst hW; exact new_block _ _
 have h2 : w.grownBy W none := by subst hW; exact World.grownBy_alloc _ _ none
 have h3 : W.heap.size = w.heap.size + 1 := by subst hW; simp
 clear hW
 apply wp_region_lit
 refine wpList_buildTo rfl 89 _ rfl (some 4) rfl noneC (by as_aux_lemma => kernel_rfl) ?_
 refine wpList_buildTo rfl 89 _ rfl (some 5) rfl tropC (by as_aux_lemma => kernel_rfl) ?_
 refine wpList_buildTo rfl 89 _ rfl (some 6) rfl probC (by as_aux_lemma => kernel_rfl) ?_
 refine wpList_buildTo rfl 89 _ rfl (some 7) rfl viteC (by as_aux_lemma => kernel_rfl) ?_
 refine wpList_buildTo rfl 115 _ rfl (some 8) rfl tabC (by as_aux_lemma => kernel_rfl) ?_
 refine Great.wpList_allocTo rfl (some 3) rfl (.pointer (some ⟨w.heap.size + 1, 0, none⟩)) (.cells roomC 115) ?_ ?_
 ·exact alloc_tab _ rfl _ _ h3
 refine wpList_store_rowTo rfl 115 _ _ rfl rfl (w.heap.size + 1) tabC ?_ ?_ 115 roomC ?_ ?_ ?_ ?_ ?_
 ·exact Act.eval_put_same _ 3 _ (by simp [Act.size_put])
 ·exact (Act.eval_put_ne _ 3 8 _ (by decide)).trans (Act.eval_put_same _ 8 _ (by simp [Act.size_put]))
 ·exact block_at _ _ _ h3.symm
 ·as_aux_lemma => kernel_rfl
 ·as_aux_lemma => kernel_rfl
 ·as_aux_lemma => kernel_rfl
 refine wpList_nil (hK _ _ ?_)
 have e1 : (W.alloc (.cells roomC 115)).setRow (w.heap.size + 1) tabC = W.alloc (.cells tabC 115) := by rw [← h3]; exact World.setRow_alloc_new _ _ _ _
 rw [e1]
 change Code.wp _ _ _ ⟨#[.int .i64 0, undef, .pointer (some ⟨w.heap.size, 0, none⟩), .pointer (some ⟨w.heap.size + 1, 0, none⟩), .agg noneC, .agg tropC, .agg probC, .agg viteC, .agg tabC, undef, undef, undef, undef, undef, undef, undef, undef, undef], []⟩ _
 clear hK
 go_upto_region 4 with (fail)
 rename_i K2 hK2
 apply wp_region_lit
 refine Great.wpList_readTo rfl (some 15) rfl (.int .i64 0) rfl ?_
 refine Great.wpList_readTo rfl (some 16) rfl (.pointer (some ⟨w.heap.size + 1, 0 * 9, none⟩)) ?_ ?_
 ·exact idx_tab _ (.tmp 3) (.tmp 15) rfl _ _ _ 0 (by decide) rfl rfl
 refine wpList_load_mid rfl 89 _ rfl (w.heap.size + 1) (0 * 9) rfl (semiC 0).toList _ ?_ Tryz.underlying89 rfl (by as_aux_lemma => kernel_rfl) ?_
 ·intro i v hv
  rw [← h3, cell_of_row _ _ _ _ _ (0, 0) (new_block _ _)]
  exact at_tab 0 (by decide) i v hv
 refine wpList_store_rowTo rfl 89 _ _ rfl rfl w.heap.size (semiC 0) rfl rfl 89 blankC ?_ ?_ ?_ ?_ ?_
 ·exact (block_old _ _ _ (by omega)).trans h1
 ·as_aux_lemma => kernel_rfl
 ·as_aux_lemma => kernel_rfl
 ·as_aux_lemma => kernel_rfl
 refine wpList_nil (hK2 _ _ ?_)
 clear hK2
 have hb : ((W.alloc (.cells tabC 115)).setRow w.heap.size (semiC 0)).heap[w.heap.size]? = some (.cells (semiC 0) 89 (0, 0)) :=
  setRow_heap _ _ _ _ _ _ ((block_old _ _ _ (by omega)).trans h1)
 have hg : w.grownBy ((W.alloc (.cells tabC 115)).setRow w.heap.size (semiC 0)) none :=
  grown_row (grown_trans h2 (World.grownBy_alloc _ _ none)) (Nat.le_refl _)
 generalize (W.alloc (.cells tabC 115)).setRow w.heap.size (semiC 0) = W2 at *
 change Code.wp _ _ _ ⟨#[.int .i64 0, undef, .pointer (some ⟨w.heap.size, 0, none⟩), .pointer (some ⟨w.heap.size + 1, 0, none⟩), .agg noneC, .agg tropC, .agg probC, .agg viteC, .agg tabC, _, _, _, _, _, _, .int .i64 0, .pointer (some ⟨w.heap.size + 1, 0 * 9, none⟩), .agg (semiC 0)], []⟩ _
 go_wp2
 have hl := run_loadVar_row (P := Tryz.prog) W2 w.heap.size 89 89 (semiC 0) (0, 0) _ hb Tryz.underlying89 rfl (by as_aux_lemma => kernel_rfl)
 refine bodyPost_ret (v := .agg (semiC 0)) ?_ rfl ⟨rfl, hg⟩
 unfold results
 rw [Tryz.results66]
 simp [asAddr, hl]
set_option maxRecDepth 100000 in
set_option maxHeartbeats 1000000 in
theorem of_low (w : World) (k : Int) (h : k < 0) : Calls Tryz.prog 66 #[.int .i64 k] w (ValPost (.agg (semiC 0)) w) := by
 go_enter Tryz.func66, Tryz.ntmps66
 go_upto_region 1 with (fail)
 rename_i K hK
 generalize hW : w.alloc (.cells #[.string ⟨#[]⟩, .string ⟨#[]⟩, .nilFunc, .nilFunc, .nilFunc, .nilFunc, .nilFunc, .nilFunc, .nilFunc] 89) = W at *
 have h1 : W.heap[w.heap.size]? = some (.cells blankC 89 (0, 0)) := by subst hW; exact new_block _ _
 have h2 : w.grownBy W none := by subst hW; exact World.grownBy_alloc _ _ none
 have h3 : W.heap.size = w.heap.size + 1 := by subst hW; simp
 clear hW
 apply wp_region_lit
 refine wpList_buildTo rfl 89 _ rfl (some 4) rfl noneC (by as_aux_lemma => kernel_rfl) ?_
 refine wpList_buildTo rfl 89 _ rfl (some 5) rfl tropC (by as_aux_lemma => kernel_rfl) ?_
 refine wpList_buildTo rfl 89 _ rfl (some 6) rfl probC (by as_aux_lemma => kernel_rfl) ?_
 refine wpList_buildTo rfl 89 _ rfl (some 7) rfl viteC (by as_aux_lemma => kernel_rfl) ?_
 refine wpList_buildTo rfl 115 _ rfl (some 8) rfl tabC (by as_aux_lemma => kernel_rfl) ?_
 refine Great.wpList_allocTo rfl (some 3) rfl (.pointer (some ⟨w.heap.size + 1, 0, none⟩)) (.cells roomC 115) ?_ ?_
 ·exact alloc_tab _ rfl _ _ h3
 refine wpList_store_rowTo rfl 115 _ _ rfl rfl (w.heap.size + 1) tabC ?_ ?_ 115 roomC ?_ ?_ ?_ ?_ ?_
 ·exact Act.eval_put_same _ 3 _ (by simp [Act.size_put])
 ·exact (Act.eval_put_ne _ 3 8 _ (by decide)).trans (Act.eval_put_same _ 8 _ (by simp [Act.size_put]))
 ·exact block_at _ _ _ h3.symm
 ·as_aux_lemma => kernel_rfl
 ·as_aux_lemma => kernel_rfl
 ·as_aux_lemma => kernel_rfl
 refine wpList_nil (hK _ _ ?_)
 have e1 : (W.alloc (.cells roomC 115)).setRow (w.heap.size + 1) tabC = W.alloc (.cells tabC 115) := by rw [← h3]; exact World.setRow_alloc_new _ _ _ _
 rw [e1]
 change Code.wp _ _ _ ⟨#[.int .i64 k, undef, .pointer (some ⟨w.heap.size, 0, none⟩), .pointer (some ⟨w.heap.size + 1, 0, none⟩), .agg noneC, .agg tropC, .agg probC, .agg viteC, .agg tabC, undef, undef, undef, undef, undef, undef, undef, undef, undef], []⟩ _
 clear hK
 go_upto_region 4 with (fail)
 rename_i K2 hK2
 apply wp_region_lit
 refine Great.wpList_readTo rfl (some 15) rfl (.int .i64 0) rfl ?_
 refine Great.wpList_readTo rfl (some 16) rfl (.pointer (some ⟨w.heap.size + 1, 0 * 9, none⟩)) ?_ ?_
 ·exact idx_tab _ (.tmp 3) (.tmp 15) rfl _ _ _ 0 (by decide) rfl rfl
 refine wpList_load_mid rfl 89 _ rfl (w.heap.size + 1) (0 * 9) rfl (semiC 0).toList _ ?_ Tryz.underlying89 rfl (by as_aux_lemma => kernel_rfl) ?_
 ·intro i v hv
  rw [← h3, cell_of_row _ _ _ _ _ (0, 0) (new_block _ _)]
  exact at_tab 0 (by decide) i v hv
 refine wpList_store_rowTo rfl 89 _ _ rfl rfl w.heap.size (semiC 0) rfl rfl 89 blankC ?_ ?_ ?_ ?_ ?_
 ·exact (block_old _ _ _ (by omega)).trans h1
 ·as_aux_lemma => kernel_rfl
 ·as_aux_lemma => kernel_rfl
 ·as_aux_lemma => kernel_rfl
 refine wpList_nil (hK2 _ _ ?_)
 clear hK2
 have hb : ((W.alloc (.cells tabC 115)).setRow w.heap.size (semiC 0)).heap[w.heap.size]? = some (.cells (semiC 0) 89 (0, 0)) :=
  setRow_heap _ _ _ _ _ _ ((block_old _ _ _ (by omega)).trans h1)
 have hg : w.grownBy ((W.alloc (.cells tabC 115)).setRow w.heap.size (semiC 0)) none :=
  grown_row (grown_trans h2 (World.grownBy_alloc _ _ none)) (Nat.le_refl _)
 generalize (W.alloc (.cells tabC 115)).setRow w.heap.size (semiC 0) = W2 at *
 change Code.wp _ _ _ ⟨#[.int .i64 0, undef, .pointer (some ⟨w.heap.size, 0, none⟩), .pointer (some ⟨w.heap.size + 1, 0, none⟩), .agg noneC, .agg tropC, .agg probC, .agg viteC, .agg tabC, _, _, _, _, _, _, .int .i64 0, .pointer (some ⟨w.heap.size + 1, 0 * 9, none⟩), .agg (semiC 0)], []⟩ _
 go_wp2
 have hl := run_loadVar_row (P := Tryz.prog) W2 w.heap.size 89 89 (semiC 0) (0, 0) _ hb Tryz.underlying89 rfl (by as_aux_lemma => kernel_rfl)
 refine bodyPost_ret (v := .agg (semiC 0)) ?_ rfl ⟨rfl, hg⟩
 unfold results
 rw [Tryz.results66]
 simp [asAddr, hl]
set_option maxRecDepth 100000 in
set_option maxHeartbeats 1000000 in
theorem of_high (w : World) (k : Int) (h : 4 ≤ k) : Calls Tryz.prog 66 #[.int .i64 k] w (ValPost (.agg (semiC 0)) w) := by
 have h2 : ¬ k < 0 := by omega
 go_enter Tryz.func66, Tryz.ntmps66
 go_upto_region 1 with (fail)
 rename_i K hK
 generalize hW : w.alloc (.cells #[.string ⟨#[]⟩, .string ⟨#[]⟩, .nilFunc, .nilFunc, .nilFunc, .nilFunc, .nilFunc, .nilFunc, .nilFunc] 89) = W at *
 have h1 : W.heap[w.heap.size]? = some (.cells blankC 89 (0, 0)) := by subst hW; exact new_block _ _
 have h2 : w.grownBy W none := by subst hW; exact World.grownBy_alloc _ _ none
 have h3 : W.heap.size = w.heap.size + 1 := by subst hW; simp
 clear hW
 apply wp_region_lit
 refine wpList_buildTo rfl 89 _ rfl (some 4) rfl noneC (by as_aux_lemma => kernel_rfl) ?_
 refine wpList_buildTo rfl 89 _ rfl (some 5) rfl tropC (by as_aux_lemma => kernel_rfl) ?_
 refine wpList_buildTo rfl 89 _ rfl (some 6) rfl probC (by as_aux_lemma => kernel_rfl) ?_
 refine wpList_buildTo rfl 89 _ rfl (some 7) rfl viteC (by as_aux_lemma => kernel_rfl) ?_
 refine wpList_buildTo rfl 115 _ rfl (some 8) rfl tabC (by as_aux_lemma => kernel_rfl) ?_
 refine Great.wpList_allocTo rfl (some 3) rfl (.pointer (some ⟨w.heap.size + 1, 0, none⟩)) (.cells roomC 115) ?_ ?_
 ·exact alloc_tab _ rfl _ _ h3
 refine wpList_store_rowTo rfl 115 _ _ rfl rfl (w.heap.size + 1) tabC ?_ ?_ 115 roomC ?_ ?_ ?_ ?_ ?_
 ·exact Act.eval_put_same _ 3 _ (by simp [Act.size_put])
 ·exact (Act.eval_put_ne _ 3 8 _ (by decide)).trans (Act.eval_put_same _ 8 _ (by simp [Act.size_put]))
 ·exact block_at _ _ _ h3.symm
 ·as_aux_lemma => kernel_rfl
 ·as_aux_lemma => kernel_rfl
 ·as_aux_lemma => kernel_rfl
 refine wpList_nil (hK _ _ ?_)
 have e1 : (W.alloc (.cells roomC 115)).setRow (w.heap.size + 1) tabC = W.alloc (.cells tabC 115) := by rw [← h3]; exact World.setRow_alloc_new _ _ _ _
 rw [e1]
 change Code.wp _ _ _ ⟨#[.int .i64 k, undef, .pointer (some ⟨w.heap.size, 0, none⟩), .pointer (some ⟨w.heap.size + 1, 0, none⟩), .agg noneC, .agg tropC, .agg probC, .agg viteC, .agg tabC, undef, undef, undef, undef, undef, undef, undef, undef, undef], []⟩ _
 clear hK
 go_upto_region 4 with (fail)
 rename_i K2 hK2
 apply wp_region_lit
 refine Great.wpList_readTo rfl (some 15) rfl (.int .i64 0) rfl ?_
 refine Great.wpList_readTo rfl (some 16) rfl (.pointer (some ⟨w.heap.size + 1, 0 * 9, none⟩)) ?_ ?_
 ·exact idx_tab _ (.tmp 3) (.tmp 15) rfl _ _ _ 0 (by decide) rfl rfl
 refine wpList_load_mid rfl 89 _ rfl (w.heap.size + 1) (0 * 9) rfl (semiC 0).toList _ ?_ Tryz.underlying89 rfl (by as_aux_lemma => kernel_rfl) ?_
 ·intro i v hv
  rw [← h3, cell_of_row _ _ _ _ _ (0, 0) (new_block _ _)]
  exact at_tab 0 (by decide) i v hv
 refine wpList_store_rowTo rfl 89 _ _ rfl rfl w.heap.size (semiC 0) rfl rfl 89 blankC ?_ ?_ ?_ ?_ ?_
 ·exact (block_old _ _ _ (by omega)).trans h1
 ·as_aux_lemma => kernel_rfl
 ·as_aux_lemma => kernel_rfl
 ·as_aux_lemma => kernel_rfl
 refine wpList_nil (hK2 _ _ ?_)
 clear hK2
 have hb : ((W.alloc (.cells tabC 115)).setRow w.heap.size (semiC 0)).heap[w.heap.size]? = some (.cells (semiC 0) 89 (0, 0)) :=
  setRow_heap _ _ _ _ _ _ ((block_old _ _ _ (by omega)).trans h1)
 have hg : w.grownBy ((W.alloc (.cells tabC 115)).setRow w.heap.size (semiC 0)) none :=
  grown_row (grown_trans h2 (World.grownBy_alloc _ _ none)) (Nat.le_refl _)
 generalize (W.alloc (.cells tabC 115)).setRow w.heap.size (semiC 0) = W2 at *
 change Code.wp _ _ _ ⟨#[.int .i64 0, undef, .pointer (some ⟨w.heap.size, 0, none⟩), .pointer (some ⟨w.heap.size + 1, 0, none⟩), .agg noneC, .agg tropC, .agg probC, .agg viteC, .agg tabC, _, _, _, _, _, _, .int .i64 0, .pointer (some ⟨w.heap.size + 1, 0 * 9, none⟩), .agg (semiC 0)], []⟩ _
 go_wp2
 have hl := run_loadVar_row (P := Tryz.prog) W2 w.heap.size 89 89 (semiC 0) (0, 0) _ hb Tryz.underlying89 rfl (by as_aux_lemma => kernel_rfl)
 refine bodyPost_ret (v := .agg (semiC 0)) ?_ rfl ⟨rfl, hg⟩
 unfold results
 rw [Tryz.results66]
 simp [asAddr, hl]
theorem of_any (k : Int) (w : World) : Calls Tryz.prog 66 #[.int .i64 k] w (ValPost (semiV k) w) := by
 unfold semiV
 by_cases h1 : k = 1
 ·subst h1; exact of_one w
 by_cases h2 : k = 2
 ·subst h2; exact of_two w
 by_cases h3 : k = 3
 ·subst h3; exact of_three w
 have e : semiC k = semiC 0 := by
  unfold semiC
  rw [if_neg h1, if_neg h2, if_neg h3]
  rfl
 rw [e]
 by_cases h0 : k = 0
 ·subst h0; exact of_zero w
 by_cases hl : k < 0
 ·exact of_low w k hl
 ·exact of_high w k (by omega)
open Go.RowKit
open Go.Lib (nDigits decDigits)
def isLow : Ext → Bool
 | .inl false => true
 | _ => false
def isTop : Ext → Bool
 | .inl true => true
 | _ => false
def isNil : Ext → Bool
 | .inr x => decide (x = 0)
 | _ => false
theorem txt_is {a c : ByteArray} {u v : Ext} (h : IsE a u) (k : IsE c v) : decide (a = c) = decide (u = v) := by
 apply decide_eq_decide.2
 exact ⟨fun e => by subst e; exact h.uniq k, fun e => by subst e; exact h.same k⟩
theorem low_list : lowS.toList = [45, 105, 110, 102] := by decide +kernel
theorem inf_list : infS.toList = [105, 110, 102] := by decide +kernel
theorem zero_list : zeroS.toList = [48] := by decide +kernel
theorem txt_low {a : ByteArray} {v : Ext} (h : IsE a v) : (a.toList == [45, 105, 110, 102]) = isLow v := by
 rw [← low_list, bytes_ne, txt_is h lowE]
 rcases v with (_ | _) | x
 ·rfl
 ·exact decide_eq_false (fun e => by cases e)
 ·exact decide_eq_false (fun e => by cases e)
theorem txt_top {a : ByteArray} {v : Ext} (h : IsE a v) : (a.toList == [105, 110, 102]) = isTop v := by
 rw [← inf_list, bytes_ne, txt_is h topE]
 rcases v with (_ | _) | x
 ·exact decide_eq_false (fun e => by cases e)
 ·rfl
 ·exact decide_eq_false (fun e => by cases e)
theorem txt_zero {a : ByteArray} {v : Ext} (h : IsE a v) : (a.toList == [48]) = isNil v := by
 rw [← zero_list, bytes_ne, txt_is h zeroE]
 rcases v with (_ | _) | x
 ·exact decide_eq_false (fun e => by cases e)
 ·exact decide_eq_false (fun e => by cases e)
 ·exact decide_eq_decide.2 ⟨fun e => Sum.inr.inj e, fun e => by rw [e]⟩
theorem size_walk (a : ByteArray) (b1 b2 : Bool) (f1 : (a.toList == [45, 105, 110, 102]) = b1) (f2 : (a.toList == [105, 110, 102]) = b2) (w : World) :
  Calls Tryz.prog 151 #[.string a] w fun e w' => e = .returned (.int .i64 (if b1 then -1 else if b2 then 1 else 0)) ∧ w = w' := by
 cases b1 <;> cases b2
 all_goals
  go_enter Tryz.func151, Tryz.ntmps151
  go_wp2
  go_ret
  exact ⟨rfl, rfl⟩
def SizeIs (a : ByteArray) (s : Int) : Prop := ∀ w, Calls Tryz.prog 151 #[.string a] w fun e w' => e = .returned (.int .i64 s) ∧ w = w'
theorem size_val {a : ByteArray} {v : Ext} (h : IsE a v) : SizeIs a (sizeE v) := fun w => by
 have k := size_walk a _ _ (txt_low h) (txt_top h) w
 rcases v with (_ | _) | x <;> exact k
theorem size_no {a : ByteArray} (h1 : a ≠ lowS) (h2 : a ≠ infS) : SizeIs a 0 := fun w => by
 have k := size_walk a false false (by rw [← low_list, bytes_ne]; exact decide_eq_false h1) (by rw [← inf_list, bytes_ne]; exact decide_eq_false h2) w
 exact k
def CmpCall (a b : ByteArray) (c : Int) : Prop := ∀ w, Calls Tryz.prog 156 #[.string a, .string b] w (ValPost (.int .i64 c) w)
set_option maxRecDepth 100000 in
theorem compare_size (a b : ByteArray) (s t c : Int) (w : World) (SA : Hid (SizeIs a s)) (SB : Hid (SizeIs b t)) (hc : Hid (Lib.compareInt s t = c)) (f1 : (c == 0) = false) (f2 : (c != 0) = true) :
  Calls Tryz.prog 114 #[.string a, .string b] w (ValPost (.int .i64 c) w) := by
 go_enter Tryz.func114, Tryz.ntmps114
 go_wp2_with fail
 refine (SA.out _).mono ?_
 rintro e w' ⟨rfl, rfl⟩
 go_wp2_with fail
 refine (SB.out _).mono ?_
 rintro e w' ⟨rfl, rfl⟩
 go_wp2_with fail
 refine (Tryz.cmp_Compare_int s t _).mono ?_
 rintro e w' ⟨rfl, rfl⟩
 rw [hc.out]
 go_wp2
 go_ret
 exact ⟨rfl, grown_refl _ _⟩
set_option maxRecDepth 100000 in
theorem compare_cmp (a b : ByteArray) (s t c : Int) (w : World) (SA : Hid (SizeIs a s)) (SB : Hid (SizeIs b t)) (hc : Hid (Lib.compareInt s t = 0)) (C : Hid (CmpCall a b c)) :
  Calls Tryz.prog 114 #[.string a, .string b] w (ValPost (.int .i64 c) w) := by
 go_enter Tryz.func114, Tryz.ntmps114
 go_wp2_with fail
 refine (SA.out _).mono ?_
 rintro e w' ⟨rfl, rfl⟩
 go_wp2_with fail
 refine (SB.out _).mono ?_
 rintro e w' ⟨rfl, rfl⟩
 go_wp2_with fail
 refine (Tryz.cmp_Compare_int s t _).mono ?_
 rintro e w' ⟨rfl, rfl⟩
 rw [hc.out]
 go_wp2_with fail
 refine (C.out _).mono ?_
 rintro e w1 ⟨rfl, hg⟩
 have G1 := Lib.hid hg
 clear hg
 go_wp2
 go_ret
 exact ⟨rfl, G1.out⟩
def CompareIs (a b : ByteArray) (c : Int) : Prop := ∀ w, Calls Tryz.prog 114 #[.string a, .string b] w (ValPost (.int .i64 c) w)
theorem notrat_inf : notRat infS := not_inf
theorem notrat_low : notRat lowS := not_low
theorem inf_len : infS.size ≤ maxLen := by decide
theorem low_len : lowS.size ≤ maxLen := by decide
theorem compare_val {a b : ByteArray} {u v : Ext} (ha : IsE a u) (hb : IsE b v) : CompareIs a b (cmpE u v) := fun w => by
 have sa := Lib.hid (size_val ha); have sb := Lib.hid (size_val hb)
 rcases u with (_ | _) | x <;> rcases v with (_ | _) | y
 ·cases ha; cases hb
  exact compare_cmp _ _ _ _ _ w sa sb (Lib.hid (show Lib.compareInt (-1) (-1) = 0 by decide +kernel)) (Lib.hid fun w => ratcmp_no low_len low_len (.inl notrat_low) w)
 ·exact compare_size _ _ _ _ _ w sa sb (Lib.hid (show Lib.compareInt (-1) (1) = -1 by decide +kernel)) rfl rfl
 ·exact compare_size _ _ _ _ _ w sa sb (Lib.hid (show Lib.compareInt (-1) (0) = -1 by decide +kernel)) rfl rfl
 ·exact compare_size _ _ _ _ _ w sa sb (Lib.hid (show Lib.compareInt (1) (-1) = 1 by decide +kernel)) rfl rfl
 ·cases ha; cases hb
  exact compare_cmp _ _ _ _ _ w sa sb (Lib.hid (show Lib.compareInt (1) (1) = 0 by decide +kernel)) (Lib.hid fun w => ratcmp_no inf_len inf_len (.inl notrat_inf) w)
 ·exact compare_size _ _ _ _ _ w sa sb (Lib.hid (show Lib.compareInt (1) (0) = 1 by decide +kernel)) rfl rfl
 ·exact compare_size _ _ _ _ _ w sa sb (Lib.hid (show Lib.compareInt (0) (-1) = 1 by decide +kernel)) rfl rfl
 ·exact compare_size _ _ _ _ _ w sa sb (Lib.hid (show Lib.compareInt (0) (1) = -1 by decide +kernel)) rfl rfl
 ·exact compare_cmp _ _ _ _ _ w sa sb (Lib.hid (show Lib.compareInt (0) (0) = 0 by decide +kernel)) (Lib.hid fun w => ratcmp_yes ha hb w)
theorem none_any (a : ByteArray) (w : World) : Calls Tryz.prog 107 #[.string a] w (ValPost (.bool false) w) := by
 go_enter Tryz.func107, Tryz.ntmps107
 go_wp2
 go_ret
 exact ⟨rfl, grown_refl _ _⟩
def RatVal (a : ByteArray) (k : Bool) : Prop := ∀ w, Calls Tryz.prog 109 #[.string a] w (ValPost (.bool k) w)
set_option maxRecDepth 100000 in
theorem extended_size (a : ByteArray) (s : Int) (w : World) (SA : Hid (SizeIs a s)) (f1 : (s == 0) = false) (f2 : (s != 0) = true) :
  Calls Tryz.prog 108 #[.string a] w (ValPost (.bool true) w) := by
 go_enter Tryz.func108, Tryz.ntmps108
 go_wp2_with fail
 refine (SA.out _).mono ?_
 rintro e w' ⟨rfl, rfl⟩
 go_wp2
 go_ret
 exact ⟨rfl, grown_refl _ _⟩
set_option maxRecDepth 100000 in
theorem extended_rat (a : ByteArray) (k : Bool) (w : World) (SA : Hid (SizeIs a 0)) (V : Hid (RatVal a k)) :
  Calls Tryz.prog 108 #[.string a] w (ValPost (.bool k) w) := by
 go_enter Tryz.func108, Tryz.ntmps108
 go_wp2_with fail
 refine (SA.out _).mono ?_
 rintro e w' ⟨rfl, rfl⟩
 go_wp2_with fail
 refine (V.out _).mono ?_
 rintro e w1 ⟨rfl, hg⟩
 have G1 := Lib.hid hg
 clear hg
 go_wp2
 go_ret
 exact ⟨rfl, G1.out⟩
def ValueIs (F : Nat) (a : ByteArray) (k : Bool) : Prop := ∀ w, Calls Tryz.prog F #[.string a] w (ValPost (.bool k) w)
theorem extended_yes {a : ByteArray} {v : Ext} (h : IsE a v) : ValueIs 108 a true := fun w => by
 have sa := Lib.hid (size_val h)
 rcases v with (_ | _) | x
 ·exact extended_size a _ w sa rfl rfl
 ·exact extended_size a _ w sa rfl rfl
 ·exact extended_rat a true w sa (Lib.hid fun w => ratvalid_yes h w)
def NoExt (a : ByteArray) : Prop := ∀ v, ¬ IsE a v
theorem NoExt.rat {a : ByteArray} (h : NoExt a) : notRat a := fun x k => h (.inr x) k
theorem NoExt.size {a : ByteArray} (h : NoExt a) : SizeIs a 0 := size_no (fun e => h (.inl false) e) (fun e => h (.inl true) e)
theorem ext_or (a : ByteArray) : (∃ v, IsE a v) ∨ NoExt a := by
 by_cases h : ∃ v, IsE a v
 ·exact .inl h
 ·exact .inr fun v k => h ⟨v, k⟩
theorem extended_no {a : ByteArray} (h : NoExt a) (ha : a.size ≤ maxLen) : ValueIs 108 a false := fun w =>
 extended_rat a false w (Lib.hid h.size) (Lib.hid fun w => ratvalid_no h.rat ha w)
def PartsIs (a : ByteArray) (b k : Bool) : Prop := ∃ A B, ∀ w, Calls Tryz.prog 157 #[.string a] w (ValPost (.tuple #[.bool b, .string A, .string B, .bool k]) w)
set_option maxRecDepth 100000 in
theorem notNeg_walk (a : ByteArray) (i b k : Bool) (w : World) (f1 : (a.toList == [105, 110, 102]) = i) (P : Hid (PartsIs a b k)) :
  Calls Tryz.prog 115 #[.string a] w (ValPost (.bool (i || (k && !b))) w) := by
 obtain ⟨A, B, p⟩ := P.out
 clear P
 have P := Lib.hid p
 clear p
 cases i <;> cases b <;> cases k
 all_goals
  go_enter Tryz.func115, Tryz.ntmps115
  go_wp2_with fail
  refine (P.out _).mono ?_
  rintro e w1 ⟨rfl, hg⟩
  have G1 := Lib.hid hg
  clear hg
  go_wp2
  go_ret
  exact ⟨rfl, G1.out⟩
theorem parts_num {a : ByteArray} {x : Rat} (h : IsRat a x) : PartsIs a (sgn x) true := ⟨_, _, fun w => parts_yes h w⟩
theorem parts_not {a : ByteArray} (h : notRat a) (ha : a.size ≤ maxLen) : PartsIs a false false := ⟨_, _, fun w => parts_no h ha w⟩
theorem sgn_nonneg (x : Rat) : (!sgn x) = decide (0 ≤ x) := by
 unfold sgn
 have h := Rat.num_nonneg (q := x)
 by_cases k : 0 ≤ x
 ·have := h.2 k
  simp [k]
  try omega
 ·have h2 : ¬ 0 ≤ x.num := fun z => k (h.1 z)
  simp [k]
  try omega
theorem notNeg_val {a : ByteArray} {v : Ext} (h : IsE a v) : ValueIs 115 a (hasE 2 v) := fun w => by
 rcases v with (_ | _) | x
 ·have := notNeg_walk a _ _ _ w (txt_top h) (Lib.hid (parts_not (by cases h; exact notrat_low) (IsE.len (v := .inl false) h)))
  exact this
 ·have := notNeg_walk a _ _ _ w (txt_top h) (Lib.hid (parts_not (by cases h; exact notrat_inf) (IsE.len (v := .inl true) h)))
  exact this
 ·have := notNeg_walk a _ _ _ w (txt_top h) (Lib.hid (parts_num h))
  rw [Bool.true_and, sgn_nonneg] at this
  rw [show hasE 2 (.inr x) = decide (0 ≤ x) by simp [hasE]]
  exact this
theorem notNeg_no {a : ByteArray} (h : NoExt a) (ha : a.size ≤ maxLen) : ValueIs 115 a false := fun w => by
 have := notNeg_walk a false _ _ w (by rw [← inf_list, bytes_ne]; exact decide_eq_false (fun e => h (.inl true) e)) (Lib.hid (parts_not h.rat ha))
 exact this
set_option maxRecDepth 100000 in
theorem positive_walk (a : ByteArray) (c : Int) (k : Bool) (w : World) (C : Hid (CmpCall a ⟨#[48]⟩ c)) (hk : decide (0 < c) = k) :
  Calls Tryz.prog 116 #[.string a] w (ValPost (.bool k) w) := by
 go_enter Tryz.func116, Tryz.ntmps116
 go_wp2_with fail
 refine (C.out _).mono ?_
 rintro e w1 ⟨rfl, hg⟩
 have G1 := Lib.hid hg
 clear hg
 go_wp2
 go_ret
 exact ⟨by first | rfl | rw [← hk] | simp_all, G1.out⟩
theorem zero_len : zeroS.size ≤ maxLen := by decide
theorem positive_val {a : ByteArray} {v : Ext} (h : IsE a v) : ValueIs 116 a (wgtE 2 v) := fun w => by
 rcases v with (_ | _) | x
 ·exact positive_walk a 0 false w (Lib.hid fun w => ratcmp_no (IsE.len (v := .inl false) h) zero_len (.inl (by cases h; exact notrat_low)) w) rfl
 ·exact positive_walk a 0 false w (Lib.hid fun w => ratcmp_no (IsE.len (v := .inl true) h) zero_len (.inl (by cases h; exact notrat_inf)) w) rfl
 ·refine positive_walk a _ _ w (Lib.hid fun w => ratcmp_yes h zero_rat w) ?_
  rw [show wgtE 2 (.inr x) = decide (0 < x) by simp [wgtE]]
  exact decide_eq_decide.2 (cmpQ_pos x 0)
theorem positive_no {a : ByteArray} (h : NoExt a) (ha : a.size ≤ maxLen) : ValueIs 116 a false := fun w =>
 positive_walk a 0 false w (Lib.hid fun w => ratcmp_no ha zero_len (.inl h.rat) w) rfl
theorem ratval_val {a : ByteArray} {v : Ext} (h : IsE a v) : ValueIs 109 a (wgtE 1 v) := fun w => by
 rcases v with (_ | _) | x
 ·exact ratvalid_no (by cases h; exact notrat_low) (IsE.len (v := .inl false) h) w
 ·exact ratvalid_no (by cases h; exact notrat_inf) (IsE.len (v := .inl true) h) w
 ·exact ratvalid_yes h w
open Go.RowKit
open Go.Lib (nDigits decDigits)
def OpIs (F : Nat) (a b : ByteArray) (V : Value) : Prop := ∀ w, Calls Tryz.prog F #[.string a, .string b] w (ValPost V w)
def Op1Is (F : Nat) (a : ByteArray) (V : Value) : Prop := ∀ w, Calls Tryz.prog F #[.string a] w (ValPost V w)
def okV (a : ByteArray) : Value := .tuple #[.string a, .int .i64 0]
set_option maxRecDepth 100000 in
theorem lesser_walk (a b : ByteArray) (c : Int) (k : Bool) (w : World) (C : Hid (CompareIs b a c)) (hk : decide (c < 0) = k) :
  Calls Tryz.prog 110 #[.string a, .string b] w (ValPost (okV (if k then b else a)) w) := by
 cases k
 all_goals
  have hk2 := hk
  simp only [decide_eq_true_eq, decide_eq_false_iff_not] at hk2
  go_enter Tryz.func110, Tryz.ntmps110
  go_wp2_with fail
  refine (C.out _).mono ?_
  rintro e w1 ⟨rfl, hg⟩
  have G1 := Lib.hid hg
  clear hg
  go_wp2
  go_ret2
  exact ⟨rfl, G1.out⟩
set_option maxRecDepth 100000 in
theorem greater_walk (a b : ByteArray) (c : Int) (k : Bool) (w : World) (C : Hid (CompareIs b a c)) (hk : decide (0 < c) = k) :
  Calls Tryz.prog 122 #[.string a, .string b] w (ValPost (okV (if k then b else a)) w) := by
 cases k
 all_goals
  have hk2 := hk
  simp only [decide_eq_true_eq, decide_eq_false_iff_not] at hk2
  go_enter Tryz.func122, Tryz.ntmps122
  go_wp2_with fail
  refine (C.out _).mono ?_
  rintro e w1 ⟨rfl, hg⟩
  have G1 := Lib.hid hg
  clear hg
  go_wp2
  go_ret2
  exact ⟨rfl, G1.out⟩
theorem lesser_val {a b : ByteArray} {u v : Ext} (ha : IsE a u) (hb : IsE b v) : OpIs 110 a b (extV (lessE u v)) := fun w => by
 have k := lesser_walk a b _ _ w (Lib.hid (compare_val hb ha)) rfl
 unfold lessE
 by_cases h : cmpE v u < 0
 ·rw [if_pos h, extV_is hb]
  rw [decide_eq_true h] at k
  exact k
 ·rw [if_neg h, extV_is ha]
  rw [decide_eq_false h] at k
  exact k
theorem greater_val {a b : ByteArray} {u v : Ext} (ha : IsE a u) (hb : IsE b v) : OpIs 122 a b (extV (moreE u v)) := fun w => by
 have k := greater_walk a b _ _ w (Lib.hid (compare_val hb ha)) rfl
 unfold moreE
 by_cases h : 0 < cmpE v u
 ·rw [if_pos h, extV_is hb]
  rw [decide_eq_true h] at k
  exact k
 ·rw [if_neg h, extV_is ha]
  rw [decide_eq_false h] at k
  exact k
theorem costs_inf (a b : ByteArray) (i j : Bool) (w : World) (p0 : (a.toList == [105, 110, 102]) = i) (q0 : (b.toList == [105, 110, 102]) = j) (h : (i || j) = true) :
  Calls Tryz.prog 111 #[.string a, .string b] w (ValPost (okV infS) w) := by
 cases i <;> cases j <;> simp only [Bool.or_self, Bool.or_true, Bool.true_or, Bool.false_eq_true] at h
 all_goals
  go_enter Tryz.func111, Tryz.ntmps111
  go_wp2
  go_ret2
  exact ⟨rfl, grown_refl _ _⟩
theorem costs_low (a b : ByteArray) (i j : Bool) (w : World) (p0 : (a.toList == [105, 110, 102]) = false) (q0 : (b.toList == [105, 110, 102]) = false) (p1 : (a.toList == [45, 105, 110, 102]) = i) (q1 : (b.toList == [45, 105, 110, 102]) = j) (h : (i || j) = true) :
  Calls Tryz.prog 111 #[.string a, .string b] w (ValPost (okV lowS) w) := by
 cases i <;> cases j <;> simp only [Bool.or_self, Bool.or_true, Bool.true_or, Bool.false_eq_true] at h
 all_goals
  go_enter Tryz.func111, Tryz.ntmps111
  go_wp2
  go_ret2
  exact ⟨rfl, grown_refl _ _⟩
set_option maxRecDepth 100000 in
theorem costs_add (a b S : ByteArray) (E : Int) (w : World) (p0 : (a.toList == [105, 110, 102]) = false) (q0 : (b.toList == [105, 110, 102]) = false) (p1 : (a.toList == [45, 105, 110, 102]) = false) (q1 : (b.toList == [45, 105, 110, 102]) = false) (C : Hid (OpIs 153 a b (.tuple #[.string S, .int .i64 E]))) :
  Calls Tryz.prog 111 #[.string a, .string b] w (ValPost (.tuple #[.string S, .int .i64 E]) w) := by
 go_enter Tryz.func111, Tryz.ntmps111
 go_wp2_with fail
 refine (C.out _).mono ?_
 rintro e w1 ⟨rfl, hg⟩
 have G1 := Lib.hid hg
 clear hg
 go_wp2
 go_ret2
 exact ⟨rfl, G1.out⟩
theorem sum_inf (a b : ByteArray) (i j : Bool) (w : World) (p0 : (a.toList == [105, 110, 102]) = i) (q0 : (b.toList == [105, 110, 102]) = j) (h : (i || j) = true) :
  Calls Tryz.prog 117 #[.string a, .string b] w (ValPost (okV infS) w) := by
 cases i <;> cases j <;> simp only [Bool.or_self, Bool.or_true, Bool.true_or, Bool.false_eq_true] at h
 all_goals
  go_enter Tryz.func117, Tryz.ntmps117
  go_wp2
  go_ret2
  exact ⟨rfl, grown_refl _ _⟩
set_option maxRecDepth 100000 in
theorem sum_add (a b S : ByteArray) (E : Int) (w : World) (p0 : (a.toList == [105, 110, 102]) = false) (q0 : (b.toList == [105, 110, 102]) = false) (C : Hid (OpIs 153 a b (.tuple #[.string S, .int .i64 E]))) :
  Calls Tryz.prog 117 #[.string a, .string b] w (ValPost (.tuple #[.string S, .int .i64 E]) w) := by
 go_enter Tryz.func117, Tryz.ntmps117
 go_wp2_with fail
 refine (C.out _).mono ?_
 rintro e w1 ⟨rfl, hg⟩
 have G1 := Lib.hid hg
 clear hg
 go_wp2
 go_ret2
 exact ⟨rfl, G1.out⟩
theorem prod_zero (a b : ByteArray) (i j : Bool) (w : World) (p0 : (a.toList == [48]) = i) (q0 : (b.toList == [48]) = j) (h : (i || j) = true) :
  Calls Tryz.prog 118 #[.string a, .string b] w (ValPost (okV zeroS) w) := by
 cases i <;> cases j <;> simp only [Bool.or_self, Bool.or_true, Bool.true_or, Bool.false_eq_true] at h
 all_goals
  go_enter Tryz.func118, Tryz.ntmps118
  go_wp2
  go_ret2
  exact ⟨rfl, grown_refl _ _⟩
theorem prod_inf (a b : ByteArray) (i j : Bool) (w : World) (p0 : (a.toList == [48]) = false) (q0 : (b.toList == [48]) = false) (p1 : (a.toList == [105, 110, 102]) = i) (q1 : (b.toList == [105, 110, 102]) = j) (h : (i || j) = true) :
  Calls Tryz.prog 118 #[.string a, .string b] w (ValPost (okV infS) w) := by
 cases i <;> cases j <;> simp only [Bool.or_self, Bool.or_true, Bool.true_or, Bool.false_eq_true] at h
 all_goals
  go_enter Tryz.func118, Tryz.ntmps118
  go_wp2
  go_ret2
  exact ⟨rfl, grown_refl _ _⟩
set_option maxRecDepth 100000 in
theorem prod_mul (a b S : ByteArray) (E : Int) (w : World) (p0 : (a.toList == [48]) = false) (q0 : (b.toList == [48]) = false) (p1 : (a.toList == [105, 110, 102]) = false) (q1 : (b.toList == [105, 110, 102]) = false) (C : Hid (OpIs 158 a b (.tuple #[.string S, .int .i64 E]))) :
  Calls Tryz.prog 118 #[.string a, .string b] w (ValPost (.tuple #[.string S, .int .i64 E]) w) := by
 go_enter Tryz.func118, Tryz.ntmps118
 go_wp2_with fail
 refine (C.out _).mono ?_
 rintro e w1 ⟨rfl, hg⟩
 have G1 := Lib.hid hg
 clear hg
 go_wp2
 go_ret2
 exact ⟨rfl, G1.out⟩
set_option maxRecDepth 100000 in
theorem starOfCost_walk (a : ByteArray) (c : Int) (k : Bool) (w : World) (C : Hid (CompareIs a ⟨#[48]⟩ c)) (hk : decide (c < 0) = k) :
  Calls Tryz.prog 112 #[.string a] w (ValPost (okV (if k then lowS else zeroS)) w) := by
 cases k
 all_goals
  have hk2 := hk
  simp only [decide_eq_true_eq, decide_eq_false_iff_not] at hk2
  go_enter Tryz.func112, Tryz.ntmps112
  go_wp2_with fail
  refine (C.out _).mono ?_
  rintro e w1 ⟨rfl, hg⟩
  have G1 := Lib.hid hg
  clear hg
  go_wp2
  go_ret2
  exact ⟨rfl, G1.out⟩
set_option maxRecDepth 100000 in
theorem starOfScore_walk (a : ByteArray) (c : Int) (k : Bool) (w : World) (C : Hid (CompareIs a ⟨#[49]⟩ c)) (hk : decide (0 < c) = k) :
  Calls Tryz.prog 123 #[.string a] w (ValPost (okV (if k then infS else oneS)) w) := by
 cases k
 all_goals
  have hk2 := hk
  simp only [decide_eq_true_eq, decide_eq_false_iff_not] at hk2
  go_enter Tryz.func123, Tryz.ntmps123
  go_wp2_with fail
  refine (C.out _).mono ?_
  rintro e w1 ⟨rfl, hg⟩
  have G1 := Lib.hid hg
  clear hg
  go_wp2
  go_ret2
  exact ⟨rfl, G1.out⟩
set_option maxRecDepth 100000 in
theorem starProb_inf (a : ByteArray) (c : Int) (w : World) (C : Hid (CompareIs a ⟨#[49]⟩ c)) (hk : 0 ≤ c) :
  Calls Tryz.prog 119 #[.string a] w (ValPost (okV infS) w) := by
 go_enter Tryz.func119, Tryz.ntmps119
 go_wp2_with fail
 refine (C.out _).mono ?_
 rintro e w1 ⟨rfl, hg⟩
 have G1 := Lib.hid hg
 clear hg
 go_wp2
 go_ret2
 exact ⟨rfl, G1.out⟩
set_option maxRecDepth 100000 in
theorem starProb_div (a R S : ByteArray) (c K E : Int) (w : World) (C : Hid (CompareIs a ⟨#[49]⟩ c)) (hk : ¬ 0 ≤ c) (D : Hid (OpIs 154 ⟨#[49]⟩ a (.tuple #[.string R, .int .i64 K])))
  (V : Hid (OpIs 120 ⟨#[49]⟩ R (.tuple #[.string S, .int .i64 E]))) :
  Calls Tryz.prog 119 #[.string a] w (ValPost (.tuple #[.string S, .int .i64 E]) w) := by
 go_enter Tryz.func119, Tryz.ntmps119
 go_wp2_with fail
 refine (C.out _).mono ?_
 rintro e w1 ⟨rfl, hg⟩
 have G1 := Lib.hid hg
 clear hg
 go_wp2_with fail
 refine (D.out _).mono ?_
 rintro e w2 ⟨rfl, hg⟩
 have G2 := Lib.hid (grown_trans G1.out hg)
 clear hg G1
 go_wp2_with fail
 refine (V.out _).mono ?_
 rintro e w3 ⟨rfl, hg⟩
 have G3 := Lib.hid (grown_trans G2.out hg)
 clear hg G2
 go_wp2
 go_ret2
 exact ⟨rfl, G3.out⟩
end Go.Proofs.YtaogepcaoogpgaaGreatDoor
