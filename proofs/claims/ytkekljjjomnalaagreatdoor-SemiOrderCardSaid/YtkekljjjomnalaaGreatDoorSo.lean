/- The kinds of semirings, as of returns them. -/
import Derived.Test.YtkekljjjomnalaaGreatDoorQh
import Derived.Test.YtkekljjjomnalaaGreatDoorPs
import Derived.Laws.EntriesVeiled
import Derived.Deep.CutRange
import Derived.Deep.MidRow
import Derived.Deep.WholeRow
import Derived.Great.BuildSlice
import Derived.Great.Walk
set_option linter.unusedVariables false
set_option linter.unusedSimpArgs false
namespace Go.Proofs.YtkekljjjomnalaaGreatDoor
open Go.RowKit

def fnV (F : Nat) : Value := .func (.func F) #[] #[]
def noneC : Array Value := #[.string ⟨#[]⟩, .string ⟨#[]⟩, fnV 43, fnV 43, .nilFunc, .nilFunc, .nilFunc, .nilFunc, .nilFunc]
def tropC : Array Value := #[.string infS, .string zeroS, fnV 44, fnV 45, fnV 46, fnV 47, fnV 48, fnV 49, fnV 50]
def probC : Array Value := #[.string zeroS, .string oneS, fnV 51, fnV 52, fnV 53, fnV 54, fnV 55, fnV 56, fnV 57]
def viteC : Array Value := #[.string zeroS, .string oneS, fnV 51, fnV 52, fnV 58, fnV 54, fnV 59, fnV 56, fnV 57]
def tabC : Array Value := noneC ++ tropC ++ probC ++ viteC
def blankC : Array Value := #[.string ⟨#[]⟩, .string ⟨#[]⟩, .nilFunc, .nilFunc, .nilFunc, .nilFunc, .nilFunc, .nilFunc, .nilFunc]
def roomC : Array Value := blankC ++ blankC ++ blankC ++ blankC
def semiC (k : Int) : Array Value := if k = 1 then tropC else if k = 2 then probC else if k = 3 then viteC else noneC
def semiV (k : Int) : Value := .agg (semiC k)
theorem at_tab (j : Nat) (hj : j < 4) (i : Nat) (v : Value) (h : (semiC j).toList[i]? = some v) : tabC[j * 9 + i]? = some v := by
  have h4 : j = 0 ∨ j = 1 ∨ j = 2 ∨ j = 3 := by omega
  have hi : i < 9 := by
    have h1 := (List.getElem?_eq_some_iff.1 h).1
    rcases h4 with rfl | rfl | rfl | rfl <;> exact h1
  have h9 : i = 0 ∨ i = 1 ∨ i = 2 ∨ i = 3 ∨ i = 4 ∨ i = 5 ∨ i = 6 ∨ i = 7 ∨ i = 8 := by omega
  rcases h4 with rfl | rfl | rfl | rfl <;> rcases h9 with rfl | rfl | rfl | rfl | rfl | rfl | rfl | rfl | rfl <;> exact h
theorem alloc_tab (o : Oper) (ho : o.op = .alloc 47) (ρ : Operand → Value) (w : World) {g : Nat} (hg : w.heap.size = g) : (execOp ρ o).run Tryz.prog w = .ok (.value (.pointer (some ⟨g, 0, none⟩))) (w.alloc (.cells roomC 47)) := by
  subst hg
  obtain ⟨d, p, t, q, af, gd⟩ := o
  cases ho
  kernel_rfl
set_option maxRecDepth 100000 in
theorem idx_tab (o : Oper) (x y : Operand) (ho : o.op = .indexAddr 47 x y) (ρ : Operand → Value) (w : World) (g : Nat) (j : Nat) (hj : j < 4) (hx : ρ x = .pointer (some ⟨g, 0, none⟩)) (hy : ρ y = .int .i64 j) :
    (execOp ρ o).run Tryz.prog w = .ok (.value (.pointer (some ⟨g, j * 9, none⟩))) w := by
  obtain ⟨d, p, t, q, af, gd⟩ := o
  cases ho
  unfold execOp
  dsimp only
  rw [hx, hy]
  have h4 : j = 0 ∨ j = 1 ∨ j = 2 ∨ j = 3 := by omega
  rcases h4 with rfl | rfl | rfl | rfl <;> exact rfl
theorem grown_row {w w1 : World} {g : Nat} {cs : Array Value} (h : w.grownBy w1 none) (hg : w.heap.size ≤ g) : w.grownBy (w1.setRow g cs) none :=
  ⟨h.1, h.2, h.3, by rw [setRow_size]; exact h.4, fun k hk hn => by rw [setRow_other _ _ _ _ (by omega)]; exact h.5 k hk hn⟩
set_option maxRecDepth 100000 in
set_option maxHeartbeats 1000000 in
theorem of_one (w : World) : Calls Tryz.prog 34 #[.int .i64 1] w (ValPost (.agg (semiC 1)) w) := by
  go_enter Tryz.func34, Tryz.ntmps34
  go_upto_region 1 with (fail)
  rename_i K hK
  generalize hW : w.alloc (.cells #[.string ⟨#[]⟩, .string ⟨#[]⟩, .nilFunc, .nilFunc, .nilFunc, .nilFunc, .nilFunc, .nilFunc, .nilFunc] 43) = W at *
  have h1 : W.heap[w.heap.size]? = some (.cells blankC 43 (0, 0)) := by subst hW; exact new_block _ _
  have h2 : w.grownBy W none := by subst hW; exact World.grownBy_alloc _ _ none
  have h3 : W.heap.size = w.heap.size + 1 := by subst hW; simp
  clear hW
  apply wp_region_lit
  refine wpList_buildTo rfl 43 _ rfl (some 4) rfl noneC (by as_aux_lemma => kernel_rfl) ?_
  refine wpList_buildTo rfl 43 _ rfl (some 5) rfl tropC (by as_aux_lemma => kernel_rfl) ?_
  refine wpList_buildTo rfl 43 _ rfl (some 6) rfl probC (by as_aux_lemma => kernel_rfl) ?_
  refine wpList_buildTo rfl 43 _ rfl (some 7) rfl viteC (by as_aux_lemma => kernel_rfl) ?_
  refine wpList_buildTo rfl 47 _ rfl (some 8) rfl tabC (by as_aux_lemma => kernel_rfl) ?_
  refine Great.wpList_allocTo rfl (some 3) rfl (.pointer (some ⟨w.heap.size + 1, 0, none⟩)) (.cells roomC 47) ?_ ?_
  · exact alloc_tab _ rfl _ _ h3
  refine wpList_store_rowTo rfl 47 _ _ rfl rfl (w.heap.size + 1) tabC ?_ ?_ 47 roomC ?_ ?_ ?_ ?_ ?_
  · exact Act.eval_put_same _ 3 _ (by simp [Act.size_put])
  · exact (Act.eval_put_ne _ 3 8 _ (by decide)).trans (Act.eval_put_same _ 8 _ (by simp [Act.size_put]))
  · exact block_at _ _ _ h3.symm
  · as_aux_lemma => kernel_rfl
  · as_aux_lemma => kernel_rfl
  · as_aux_lemma => kernel_rfl
  refine wpList_nil (hK _ _ ?_)
  have e1 : (W.alloc (.cells roomC 47)).setRow (w.heap.size + 1) tabC = W.alloc (.cells tabC 47) := by rw [← h3]; exact World.setRow_alloc_new _ _ _ _
  rw [e1]
  change Code.wp _ _ _ ⟨#[.int .i64 1, undef, .pointer (some ⟨w.heap.size, 0, none⟩), .pointer (some ⟨w.heap.size + 1, 0, none⟩), .agg noneC, .agg tropC, .agg probC, .agg viteC, .agg tabC, undef, undef, undef, undef, undef, undef, undef, undef, undef], []⟩ _
  clear hK
  go_upto_region 4 with (fail)
  rename_i K2 hK2
  apply wp_region_lit
  refine Great.wpList_readTo rfl (some 15) rfl (.int .i64 1) rfl ?_
  refine Great.wpList_readTo rfl (some 16) rfl (.pointer (some ⟨w.heap.size + 1, 1 * 9, none⟩)) ?_ ?_
  · exact idx_tab _ (.tmp 3) (.tmp 15) rfl _ _ _ 1 (by decide) rfl rfl
  refine wpList_load_mid rfl 43 _ rfl (w.heap.size + 1) (1 * 9) rfl (semiC 1).toList _ ?_ Tryz.underlying43 rfl (by as_aux_lemma => kernel_rfl) ?_
  · intro i v hv
    rw [← h3, cell_of_row _ _ _ _ _ (0, 0) (new_block _ _)]
    exact at_tab 1 (by decide) i v hv
  refine wpList_store_rowTo rfl 43 _ _ rfl rfl w.heap.size (semiC 1) rfl rfl 43 blankC ?_ ?_ ?_ ?_ ?_
  · exact (block_old _ _ _ (by omega)).trans h1
  · as_aux_lemma => kernel_rfl
  · as_aux_lemma => kernel_rfl
  · as_aux_lemma => kernel_rfl
  refine wpList_nil (hK2 _ _ ?_)
  clear hK2
  have hb : ((W.alloc (.cells tabC 47)).setRow w.heap.size (semiC 1)).heap[w.heap.size]? = some (.cells (semiC 1) 43 (0, 0)) :=
    setRow_heap _ _ _ _ _ _ ((block_old _ _ _ (by omega)).trans h1)
  have hg : w.grownBy ((W.alloc (.cells tabC 47)).setRow w.heap.size (semiC 1)) none :=
    grown_row (grown_trans h2 (World.grownBy_alloc _ _ none)) (Nat.le_refl _)
  generalize (W.alloc (.cells tabC 47)).setRow w.heap.size (semiC 1) = W2 at *
  change Code.wp _ _ _ ⟨#[.int .i64 1, undef, .pointer (some ⟨w.heap.size, 0, none⟩), .pointer (some ⟨w.heap.size + 1, 0, none⟩), .agg noneC, .agg tropC, .agg probC, .agg viteC, .agg tabC, _, _, _, _, _, _, .int .i64 1, .pointer (some ⟨w.heap.size + 1, 1 * 9, none⟩), .agg (semiC 1)], []⟩ _
  go_wp2
  have hl := run_loadVar_row (P := Tryz.prog) W2 w.heap.size 43 43 (semiC 1) (0, 0) _ hb Tryz.underlying43 rfl (by as_aux_lemma => kernel_rfl)
  refine bodyPost_ret (v := .agg (semiC 1)) ?_ rfl ⟨rfl, hg⟩
  unfold results
  rw [Tryz.results34]
  simp [asAddr, hl]
set_option maxRecDepth 100000 in
set_option maxHeartbeats 1000000 in
theorem of_two (w : World) : Calls Tryz.prog 34 #[.int .i64 2] w (ValPost (.agg (semiC 2)) w) := by
  go_enter Tryz.func34, Tryz.ntmps34
  go_upto_region 1 with (fail)
  rename_i K hK
  generalize hW : w.alloc (.cells #[.string ⟨#[]⟩, .string ⟨#[]⟩, .nilFunc, .nilFunc, .nilFunc, .nilFunc, .nilFunc, .nilFunc, .nilFunc] 43) = W at *
  have h1 : W.heap[w.heap.size]? = some (.cells blankC 43 (0, 0)) := by subst hW; exact new_block _ _
  have h2 : w.grownBy W none := by subst hW; exact World.grownBy_alloc _ _ none
  have h3 : W.heap.size = w.heap.size + 1 := by subst hW; simp
  clear hW
  apply wp_region_lit
  refine wpList_buildTo rfl 43 _ rfl (some 4) rfl noneC (by as_aux_lemma => kernel_rfl) ?_
  refine wpList_buildTo rfl 43 _ rfl (some 5) rfl tropC (by as_aux_lemma => kernel_rfl) ?_
  refine wpList_buildTo rfl 43 _ rfl (some 6) rfl probC (by as_aux_lemma => kernel_rfl) ?_
  refine wpList_buildTo rfl 43 _ rfl (some 7) rfl viteC (by as_aux_lemma => kernel_rfl) ?_
  refine wpList_buildTo rfl 47 _ rfl (some 8) rfl tabC (by as_aux_lemma => kernel_rfl) ?_
  refine Great.wpList_allocTo rfl (some 3) rfl (.pointer (some ⟨w.heap.size + 1, 0, none⟩)) (.cells roomC 47) ?_ ?_
  · exact alloc_tab _ rfl _ _ h3
  refine wpList_store_rowTo rfl 47 _ _ rfl rfl (w.heap.size + 1) tabC ?_ ?_ 47 roomC ?_ ?_ ?_ ?_ ?_
  · exact Act.eval_put_same _ 3 _ (by simp [Act.size_put])
  · exact (Act.eval_put_ne _ 3 8 _ (by decide)).trans (Act.eval_put_same _ 8 _ (by simp [Act.size_put]))
  · exact block_at _ _ _ h3.symm
  · as_aux_lemma => kernel_rfl
  · as_aux_lemma => kernel_rfl
  · as_aux_lemma => kernel_rfl
  refine wpList_nil (hK _ _ ?_)
  have e1 : (W.alloc (.cells roomC 47)).setRow (w.heap.size + 1) tabC = W.alloc (.cells tabC 47) := by rw [← h3]; exact World.setRow_alloc_new _ _ _ _
  rw [e1]
  change Code.wp _ _ _ ⟨#[.int .i64 2, undef, .pointer (some ⟨w.heap.size, 0, none⟩), .pointer (some ⟨w.heap.size + 1, 0, none⟩), .agg noneC, .agg tropC, .agg probC, .agg viteC, .agg tabC, undef, undef, undef, undef, undef, undef, undef, undef, undef], []⟩ _
  clear hK
  go_upto_region 4 with (fail)
  rename_i K2 hK2
  apply wp_region_lit
  refine Great.wpList_readTo rfl (some 15) rfl (.int .i64 2) rfl ?_
  refine Great.wpList_readTo rfl (some 16) rfl (.pointer (some ⟨w.heap.size + 1, 2 * 9, none⟩)) ?_ ?_
  · exact idx_tab _ (.tmp 3) (.tmp 15) rfl _ _ _ 2 (by decide) rfl rfl
  refine wpList_load_mid rfl 43 _ rfl (w.heap.size + 1) (2 * 9) rfl (semiC 2).toList _ ?_ Tryz.underlying43 rfl (by as_aux_lemma => kernel_rfl) ?_
  · intro i v hv
    rw [← h3, cell_of_row _ _ _ _ _ (0, 0) (new_block _ _)]
    exact at_tab 2 (by decide) i v hv
  refine wpList_store_rowTo rfl 43 _ _ rfl rfl w.heap.size (semiC 2) rfl rfl 43 blankC ?_ ?_ ?_ ?_ ?_
  · exact (block_old _ _ _ (by omega)).trans h1
  · as_aux_lemma => kernel_rfl
  · as_aux_lemma => kernel_rfl
  · as_aux_lemma => kernel_rfl
  refine wpList_nil (hK2 _ _ ?_)
  clear hK2
  have hb : ((W.alloc (.cells tabC 47)).setRow w.heap.size (semiC 2)).heap[w.heap.size]? = some (.cells (semiC 2) 43 (0, 0)) :=
    setRow_heap _ _ _ _ _ _ ((block_old _ _ _ (by omega)).trans h1)
  have hg : w.grownBy ((W.alloc (.cells tabC 47)).setRow w.heap.size (semiC 2)) none :=
    grown_row (grown_trans h2 (World.grownBy_alloc _ _ none)) (Nat.le_refl _)
  generalize (W.alloc (.cells tabC 47)).setRow w.heap.size (semiC 2) = W2 at *
  change Code.wp _ _ _ ⟨#[.int .i64 2, undef, .pointer (some ⟨w.heap.size, 0, none⟩), .pointer (some ⟨w.heap.size + 1, 0, none⟩), .agg noneC, .agg tropC, .agg probC, .agg viteC, .agg tabC, _, _, _, _, _, _, .int .i64 2, .pointer (some ⟨w.heap.size + 1, 2 * 9, none⟩), .agg (semiC 2)], []⟩ _
  go_wp2
  have hl := run_loadVar_row (P := Tryz.prog) W2 w.heap.size 43 43 (semiC 2) (0, 0) _ hb Tryz.underlying43 rfl (by as_aux_lemma => kernel_rfl)
  refine bodyPost_ret (v := .agg (semiC 2)) ?_ rfl ⟨rfl, hg⟩
  unfold results
  rw [Tryz.results34]
  simp [asAddr, hl]
set_option maxRecDepth 100000 in
set_option maxHeartbeats 1000000 in
theorem of_three (w : World) : Calls Tryz.prog 34 #[.int .i64 3] w (ValPost (.agg (semiC 3)) w) := by
  go_enter Tryz.func34, Tryz.ntmps34
  go_upto_region 1 with (fail)
  rename_i K hK
  generalize hW : w.alloc (.cells #[.string ⟨#[]⟩, .string ⟨#[]⟩, .nilFunc, .nilFunc, .nilFunc, .nilFunc, .nilFunc, .nilFunc, .nilFunc] 43) = W at *
  have h1 : W.heap[w.heap.size]? = some (.cells blankC 43 (0, 0)) := by subst hW; exact new_block _ _
  have h2 : w.grownBy W none := by subst hW; exact World.grownBy_alloc _ _ none
  have h3 : W.heap.size = w.heap.size + 1 := by subst hW; simp
  clear hW
  apply wp_region_lit
  refine wpList_buildTo rfl 43 _ rfl (some 4) rfl noneC (by as_aux_lemma => kernel_rfl) ?_
  refine wpList_buildTo rfl 43 _ rfl (some 5) rfl tropC (by as_aux_lemma => kernel_rfl) ?_
  refine wpList_buildTo rfl 43 _ rfl (some 6) rfl probC (by as_aux_lemma => kernel_rfl) ?_
  refine wpList_buildTo rfl 43 _ rfl (some 7) rfl viteC (by as_aux_lemma => kernel_rfl) ?_
  refine wpList_buildTo rfl 47 _ rfl (some 8) rfl tabC (by as_aux_lemma => kernel_rfl) ?_
  refine Great.wpList_allocTo rfl (some 3) rfl (.pointer (some ⟨w.heap.size + 1, 0, none⟩)) (.cells roomC 47) ?_ ?_
  · exact alloc_tab _ rfl _ _ h3
  refine wpList_store_rowTo rfl 47 _ _ rfl rfl (w.heap.size + 1) tabC ?_ ?_ 47 roomC ?_ ?_ ?_ ?_ ?_
  · exact Act.eval_put_same _ 3 _ (by simp [Act.size_put])
  · exact (Act.eval_put_ne _ 3 8 _ (by decide)).trans (Act.eval_put_same _ 8 _ (by simp [Act.size_put]))
  · exact block_at _ _ _ h3.symm
  · as_aux_lemma => kernel_rfl
  · as_aux_lemma => kernel_rfl
  · as_aux_lemma => kernel_rfl
  refine wpList_nil (hK _ _ ?_)
  have e1 : (W.alloc (.cells roomC 47)).setRow (w.heap.size + 1) tabC = W.alloc (.cells tabC 47) := by rw [← h3]; exact World.setRow_alloc_new _ _ _ _
  rw [e1]
  change Code.wp _ _ _ ⟨#[.int .i64 3, undef, .pointer (some ⟨w.heap.size, 0, none⟩), .pointer (some ⟨w.heap.size + 1, 0, none⟩), .agg noneC, .agg tropC, .agg probC, .agg viteC, .agg tabC, undef, undef, undef, undef, undef, undef, undef, undef, undef], []⟩ _
  clear hK
  go_upto_region 4 with (fail)
  rename_i K2 hK2
  apply wp_region_lit
  refine Great.wpList_readTo rfl (some 15) rfl (.int .i64 3) rfl ?_
  refine Great.wpList_readTo rfl (some 16) rfl (.pointer (some ⟨w.heap.size + 1, 3 * 9, none⟩)) ?_ ?_
  · exact idx_tab _ (.tmp 3) (.tmp 15) rfl _ _ _ 3 (by decide) rfl rfl
  refine wpList_load_mid rfl 43 _ rfl (w.heap.size + 1) (3 * 9) rfl (semiC 3).toList _ ?_ Tryz.underlying43 rfl (by as_aux_lemma => kernel_rfl) ?_
  · intro i v hv
    rw [← h3, cell_of_row _ _ _ _ _ (0, 0) (new_block _ _)]
    exact at_tab 3 (by decide) i v hv
  refine wpList_store_rowTo rfl 43 _ _ rfl rfl w.heap.size (semiC 3) rfl rfl 43 blankC ?_ ?_ ?_ ?_ ?_
  · exact (block_old _ _ _ (by omega)).trans h1
  · as_aux_lemma => kernel_rfl
  · as_aux_lemma => kernel_rfl
  · as_aux_lemma => kernel_rfl
  refine wpList_nil (hK2 _ _ ?_)
  clear hK2
  have hb : ((W.alloc (.cells tabC 47)).setRow w.heap.size (semiC 3)).heap[w.heap.size]? = some (.cells (semiC 3) 43 (0, 0)) :=
    setRow_heap _ _ _ _ _ _ ((block_old _ _ _ (by omega)).trans h1)
  have hg : w.grownBy ((W.alloc (.cells tabC 47)).setRow w.heap.size (semiC 3)) none :=
    grown_row (grown_trans h2 (World.grownBy_alloc _ _ none)) (Nat.le_refl _)
  generalize (W.alloc (.cells tabC 47)).setRow w.heap.size (semiC 3) = W2 at *
  change Code.wp _ _ _ ⟨#[.int .i64 3, undef, .pointer (some ⟨w.heap.size, 0, none⟩), .pointer (some ⟨w.heap.size + 1, 0, none⟩), .agg noneC, .agg tropC, .agg probC, .agg viteC, .agg tabC, _, _, _, _, _, _, .int .i64 3, .pointer (some ⟨w.heap.size + 1, 3 * 9, none⟩), .agg (semiC 3)], []⟩ _
  go_wp2
  have hl := run_loadVar_row (P := Tryz.prog) W2 w.heap.size 43 43 (semiC 3) (0, 0) _ hb Tryz.underlying43 rfl (by as_aux_lemma => kernel_rfl)
  refine bodyPost_ret (v := .agg (semiC 3)) ?_ rfl ⟨rfl, hg⟩
  unfold results
  rw [Tryz.results34]
  simp [asAddr, hl]
set_option maxRecDepth 100000 in
set_option maxHeartbeats 1000000 in
theorem of_zero (w : World) : Calls Tryz.prog 34 #[.int .i64 0] w (ValPost (.agg (semiC 0)) w) := by
  go_enter Tryz.func34, Tryz.ntmps34
  go_upto_region 1 with (fail)
  rename_i K hK
  generalize hW : w.alloc (.cells #[.string ⟨#[]⟩, .string ⟨#[]⟩, .nilFunc, .nilFunc, .nilFunc, .nilFunc, .nilFunc, .nilFunc, .nilFunc] 43) = W at *
  have h1 : W.heap[w.heap.size]? = some (.cells blankC 43 (0, 0)) := by subst hW; exact new_block _ _
  have h2 : w.grownBy W none := by subst hW; exact World.grownBy_alloc _ _ none
  have h3 : W.heap.size = w.heap.size + 1 := by subst hW; simp
  clear hW
  apply wp_region_lit
  refine wpList_buildTo rfl 43 _ rfl (some 4) rfl noneC (by as_aux_lemma => kernel_rfl) ?_
  refine wpList_buildTo rfl 43 _ rfl (some 5) rfl tropC (by as_aux_lemma => kernel_rfl) ?_
  refine wpList_buildTo rfl 43 _ rfl (some 6) rfl probC (by as_aux_lemma => kernel_rfl) ?_
  refine wpList_buildTo rfl 43 _ rfl (some 7) rfl viteC (by as_aux_lemma => kernel_rfl) ?_
  refine wpList_buildTo rfl 47 _ rfl (some 8) rfl tabC (by as_aux_lemma => kernel_rfl) ?_
  refine Great.wpList_allocTo rfl (some 3) rfl (.pointer (some ⟨w.heap.size + 1, 0, none⟩)) (.cells roomC 47) ?_ ?_
  · exact alloc_tab _ rfl _ _ h3
  refine wpList_store_rowTo rfl 47 _ _ rfl rfl (w.heap.size + 1) tabC ?_ ?_ 47 roomC ?_ ?_ ?_ ?_ ?_
  · exact Act.eval_put_same _ 3 _ (by simp [Act.size_put])
  · exact (Act.eval_put_ne _ 3 8 _ (by decide)).trans (Act.eval_put_same _ 8 _ (by simp [Act.size_put]))
  · exact block_at _ _ _ h3.symm
  · as_aux_lemma => kernel_rfl
  · as_aux_lemma => kernel_rfl
  · as_aux_lemma => kernel_rfl
  refine wpList_nil (hK _ _ ?_)
  have e1 : (W.alloc (.cells roomC 47)).setRow (w.heap.size + 1) tabC = W.alloc (.cells tabC 47) := by rw [← h3]; exact World.setRow_alloc_new _ _ _ _
  rw [e1]
  change Code.wp _ _ _ ⟨#[.int .i64 0, undef, .pointer (some ⟨w.heap.size, 0, none⟩), .pointer (some ⟨w.heap.size + 1, 0, none⟩), .agg noneC, .agg tropC, .agg probC, .agg viteC, .agg tabC, undef, undef, undef, undef, undef, undef, undef, undef, undef], []⟩ _
  clear hK
  go_upto_region 4 with (fail)
  rename_i K2 hK2
  apply wp_region_lit
  refine Great.wpList_readTo rfl (some 15) rfl (.int .i64 0) rfl ?_
  refine Great.wpList_readTo rfl (some 16) rfl (.pointer (some ⟨w.heap.size + 1, 0 * 9, none⟩)) ?_ ?_
  · exact idx_tab _ (.tmp 3) (.tmp 15) rfl _ _ _ 0 (by decide) rfl rfl
  refine wpList_load_mid rfl 43 _ rfl (w.heap.size + 1) (0 * 9) rfl (semiC 0).toList _ ?_ Tryz.underlying43 rfl (by as_aux_lemma => kernel_rfl) ?_
  · intro i v hv
    rw [← h3, cell_of_row _ _ _ _ _ (0, 0) (new_block _ _)]
    exact at_tab 0 (by decide) i v hv
  refine wpList_store_rowTo rfl 43 _ _ rfl rfl w.heap.size (semiC 0) rfl rfl 43 blankC ?_ ?_ ?_ ?_ ?_
  · exact (block_old _ _ _ (by omega)).trans h1
  · as_aux_lemma => kernel_rfl
  · as_aux_lemma => kernel_rfl
  · as_aux_lemma => kernel_rfl
  refine wpList_nil (hK2 _ _ ?_)
  clear hK2
  have hb : ((W.alloc (.cells tabC 47)).setRow w.heap.size (semiC 0)).heap[w.heap.size]? = some (.cells (semiC 0) 43 (0, 0)) :=
    setRow_heap _ _ _ _ _ _ ((block_old _ _ _ (by omega)).trans h1)
  have hg : w.grownBy ((W.alloc (.cells tabC 47)).setRow w.heap.size (semiC 0)) none :=
    grown_row (grown_trans h2 (World.grownBy_alloc _ _ none)) (Nat.le_refl _)
  generalize (W.alloc (.cells tabC 47)).setRow w.heap.size (semiC 0) = W2 at *
  change Code.wp _ _ _ ⟨#[.int .i64 0, undef, .pointer (some ⟨w.heap.size, 0, none⟩), .pointer (some ⟨w.heap.size + 1, 0, none⟩), .agg noneC, .agg tropC, .agg probC, .agg viteC, .agg tabC, _, _, _, _, _, _, .int .i64 0, .pointer (some ⟨w.heap.size + 1, 0 * 9, none⟩), .agg (semiC 0)], []⟩ _
  go_wp2
  have hl := run_loadVar_row (P := Tryz.prog) W2 w.heap.size 43 43 (semiC 0) (0, 0) _ hb Tryz.underlying43 rfl (by as_aux_lemma => kernel_rfl)
  refine bodyPost_ret (v := .agg (semiC 0)) ?_ rfl ⟨rfl, hg⟩
  unfold results
  rw [Tryz.results34]
  simp [asAddr, hl]
set_option maxRecDepth 100000 in
set_option maxHeartbeats 1000000 in
theorem of_low (w : World) (k : Int) (h : k < 0) : Calls Tryz.prog 34 #[.int .i64 k] w (ValPost (.agg (semiC 0)) w) := by
  go_enter Tryz.func34, Tryz.ntmps34
  go_upto_region 1 with (fail)
  rename_i K hK
  generalize hW : w.alloc (.cells #[.string ⟨#[]⟩, .string ⟨#[]⟩, .nilFunc, .nilFunc, .nilFunc, .nilFunc, .nilFunc, .nilFunc, .nilFunc] 43) = W at *
  have h1 : W.heap[w.heap.size]? = some (.cells blankC 43 (0, 0)) := by subst hW; exact new_block _ _
  have h2 : w.grownBy W none := by subst hW; exact World.grownBy_alloc _ _ none
  have h3 : W.heap.size = w.heap.size + 1 := by subst hW; simp
  clear hW
  apply wp_region_lit
  refine wpList_buildTo rfl 43 _ rfl (some 4) rfl noneC (by as_aux_lemma => kernel_rfl) ?_
  refine wpList_buildTo rfl 43 _ rfl (some 5) rfl tropC (by as_aux_lemma => kernel_rfl) ?_
  refine wpList_buildTo rfl 43 _ rfl (some 6) rfl probC (by as_aux_lemma => kernel_rfl) ?_
  refine wpList_buildTo rfl 43 _ rfl (some 7) rfl viteC (by as_aux_lemma => kernel_rfl) ?_
  refine wpList_buildTo rfl 47 _ rfl (some 8) rfl tabC (by as_aux_lemma => kernel_rfl) ?_
  refine Great.wpList_allocTo rfl (some 3) rfl (.pointer (some ⟨w.heap.size + 1, 0, none⟩)) (.cells roomC 47) ?_ ?_
  · exact alloc_tab _ rfl _ _ h3
  refine wpList_store_rowTo rfl 47 _ _ rfl rfl (w.heap.size + 1) tabC ?_ ?_ 47 roomC ?_ ?_ ?_ ?_ ?_
  · exact Act.eval_put_same _ 3 _ (by simp [Act.size_put])
  · exact (Act.eval_put_ne _ 3 8 _ (by decide)).trans (Act.eval_put_same _ 8 _ (by simp [Act.size_put]))
  · exact block_at _ _ _ h3.symm
  · as_aux_lemma => kernel_rfl
  · as_aux_lemma => kernel_rfl
  · as_aux_lemma => kernel_rfl
  refine wpList_nil (hK _ _ ?_)
  have e1 : (W.alloc (.cells roomC 47)).setRow (w.heap.size + 1) tabC = W.alloc (.cells tabC 47) := by rw [← h3]; exact World.setRow_alloc_new _ _ _ _
  rw [e1]
  change Code.wp _ _ _ ⟨#[.int .i64 k, undef, .pointer (some ⟨w.heap.size, 0, none⟩), .pointer (some ⟨w.heap.size + 1, 0, none⟩), .agg noneC, .agg tropC, .agg probC, .agg viteC, .agg tabC, undef, undef, undef, undef, undef, undef, undef, undef, undef], []⟩ _
  clear hK
  go_upto_region 4 with (fail)
  rename_i K2 hK2
  apply wp_region_lit
  refine Great.wpList_readTo rfl (some 15) rfl (.int .i64 0) rfl ?_
  refine Great.wpList_readTo rfl (some 16) rfl (.pointer (some ⟨w.heap.size + 1, 0 * 9, none⟩)) ?_ ?_
  · exact idx_tab _ (.tmp 3) (.tmp 15) rfl _ _ _ 0 (by decide) rfl rfl
  refine wpList_load_mid rfl 43 _ rfl (w.heap.size + 1) (0 * 9) rfl (semiC 0).toList _ ?_ Tryz.underlying43 rfl (by as_aux_lemma => kernel_rfl) ?_
  · intro i v hv
    rw [← h3, cell_of_row _ _ _ _ _ (0, 0) (new_block _ _)]
    exact at_tab 0 (by decide) i v hv
  refine wpList_store_rowTo rfl 43 _ _ rfl rfl w.heap.size (semiC 0) rfl rfl 43 blankC ?_ ?_ ?_ ?_ ?_
  · exact (block_old _ _ _ (by omega)).trans h1
  · as_aux_lemma => kernel_rfl
  · as_aux_lemma => kernel_rfl
  · as_aux_lemma => kernel_rfl
  refine wpList_nil (hK2 _ _ ?_)
  clear hK2
  have hb : ((W.alloc (.cells tabC 47)).setRow w.heap.size (semiC 0)).heap[w.heap.size]? = some (.cells (semiC 0) 43 (0, 0)) :=
    setRow_heap _ _ _ _ _ _ ((block_old _ _ _ (by omega)).trans h1)
  have hg : w.grownBy ((W.alloc (.cells tabC 47)).setRow w.heap.size (semiC 0)) none :=
    grown_row (grown_trans h2 (World.grownBy_alloc _ _ none)) (Nat.le_refl _)
  generalize (W.alloc (.cells tabC 47)).setRow w.heap.size (semiC 0) = W2 at *
  change Code.wp _ _ _ ⟨#[.int .i64 0, undef, .pointer (some ⟨w.heap.size, 0, none⟩), .pointer (some ⟨w.heap.size + 1, 0, none⟩), .agg noneC, .agg tropC, .agg probC, .agg viteC, .agg tabC, _, _, _, _, _, _, .int .i64 0, .pointer (some ⟨w.heap.size + 1, 0 * 9, none⟩), .agg (semiC 0)], []⟩ _
  go_wp2
  have hl := run_loadVar_row (P := Tryz.prog) W2 w.heap.size 43 43 (semiC 0) (0, 0) _ hb Tryz.underlying43 rfl (by as_aux_lemma => kernel_rfl)
  refine bodyPost_ret (v := .agg (semiC 0)) ?_ rfl ⟨rfl, hg⟩
  unfold results
  rw [Tryz.results34]
  simp [asAddr, hl]
set_option maxRecDepth 100000 in
set_option maxHeartbeats 1000000 in
theorem of_high (w : World) (k : Int) (h : 4 ≤ k) : Calls Tryz.prog 34 #[.int .i64 k] w (ValPost (.agg (semiC 0)) w) := by
  have h2 : ¬ k < 0 := by omega
  go_enter Tryz.func34, Tryz.ntmps34
  go_upto_region 1 with (fail)
  rename_i K hK
  generalize hW : w.alloc (.cells #[.string ⟨#[]⟩, .string ⟨#[]⟩, .nilFunc, .nilFunc, .nilFunc, .nilFunc, .nilFunc, .nilFunc, .nilFunc] 43) = W at *
  have h1 : W.heap[w.heap.size]? = some (.cells blankC 43 (0, 0)) := by subst hW; exact new_block _ _
  have h2 : w.grownBy W none := by subst hW; exact World.grownBy_alloc _ _ none
  have h3 : W.heap.size = w.heap.size + 1 := by subst hW; simp
  clear hW
  apply wp_region_lit
  refine wpList_buildTo rfl 43 _ rfl (some 4) rfl noneC (by as_aux_lemma => kernel_rfl) ?_
  refine wpList_buildTo rfl 43 _ rfl (some 5) rfl tropC (by as_aux_lemma => kernel_rfl) ?_
  refine wpList_buildTo rfl 43 _ rfl (some 6) rfl probC (by as_aux_lemma => kernel_rfl) ?_
  refine wpList_buildTo rfl 43 _ rfl (some 7) rfl viteC (by as_aux_lemma => kernel_rfl) ?_
  refine wpList_buildTo rfl 47 _ rfl (some 8) rfl tabC (by as_aux_lemma => kernel_rfl) ?_
  refine Great.wpList_allocTo rfl (some 3) rfl (.pointer (some ⟨w.heap.size + 1, 0, none⟩)) (.cells roomC 47) ?_ ?_
  · exact alloc_tab _ rfl _ _ h3
  refine wpList_store_rowTo rfl 47 _ _ rfl rfl (w.heap.size + 1) tabC ?_ ?_ 47 roomC ?_ ?_ ?_ ?_ ?_
  · exact Act.eval_put_same _ 3 _ (by simp [Act.size_put])
  · exact (Act.eval_put_ne _ 3 8 _ (by decide)).trans (Act.eval_put_same _ 8 _ (by simp [Act.size_put]))
  · exact block_at _ _ _ h3.symm
  · as_aux_lemma => kernel_rfl
  · as_aux_lemma => kernel_rfl
  · as_aux_lemma => kernel_rfl
  refine wpList_nil (hK _ _ ?_)
  have e1 : (W.alloc (.cells roomC 47)).setRow (w.heap.size + 1) tabC = W.alloc (.cells tabC 47) := by rw [← h3]; exact World.setRow_alloc_new _ _ _ _
  rw [e1]
  change Code.wp _ _ _ ⟨#[.int .i64 k, undef, .pointer (some ⟨w.heap.size, 0, none⟩), .pointer (some ⟨w.heap.size + 1, 0, none⟩), .agg noneC, .agg tropC, .agg probC, .agg viteC, .agg tabC, undef, undef, undef, undef, undef, undef, undef, undef, undef], []⟩ _
  clear hK
  go_upto_region 4 with (fail)
  rename_i K2 hK2
  apply wp_region_lit
  refine Great.wpList_readTo rfl (some 15) rfl (.int .i64 0) rfl ?_
  refine Great.wpList_readTo rfl (some 16) rfl (.pointer (some ⟨w.heap.size + 1, 0 * 9, none⟩)) ?_ ?_
  · exact idx_tab _ (.tmp 3) (.tmp 15) rfl _ _ _ 0 (by decide) rfl rfl
  refine wpList_load_mid rfl 43 _ rfl (w.heap.size + 1) (0 * 9) rfl (semiC 0).toList _ ?_ Tryz.underlying43 rfl (by as_aux_lemma => kernel_rfl) ?_
  · intro i v hv
    rw [← h3, cell_of_row _ _ _ _ _ (0, 0) (new_block _ _)]
    exact at_tab 0 (by decide) i v hv
  refine wpList_store_rowTo rfl 43 _ _ rfl rfl w.heap.size (semiC 0) rfl rfl 43 blankC ?_ ?_ ?_ ?_ ?_
  · exact (block_old _ _ _ (by omega)).trans h1
  · as_aux_lemma => kernel_rfl
  · as_aux_lemma => kernel_rfl
  · as_aux_lemma => kernel_rfl
  refine wpList_nil (hK2 _ _ ?_)
  clear hK2
  have hb : ((W.alloc (.cells tabC 47)).setRow w.heap.size (semiC 0)).heap[w.heap.size]? = some (.cells (semiC 0) 43 (0, 0)) :=
    setRow_heap _ _ _ _ _ _ ((block_old _ _ _ (by omega)).trans h1)
  have hg : w.grownBy ((W.alloc (.cells tabC 47)).setRow w.heap.size (semiC 0)) none :=
    grown_row (grown_trans h2 (World.grownBy_alloc _ _ none)) (Nat.le_refl _)
  generalize (W.alloc (.cells tabC 47)).setRow w.heap.size (semiC 0) = W2 at *
  change Code.wp _ _ _ ⟨#[.int .i64 0, undef, .pointer (some ⟨w.heap.size, 0, none⟩), .pointer (some ⟨w.heap.size + 1, 0, none⟩), .agg noneC, .agg tropC, .agg probC, .agg viteC, .agg tabC, _, _, _, _, _, _, .int .i64 0, .pointer (some ⟨w.heap.size + 1, 0 * 9, none⟩), .agg (semiC 0)], []⟩ _
  go_wp2
  have hl := run_loadVar_row (P := Tryz.prog) W2 w.heap.size 43 43 (semiC 0) (0, 0) _ hb Tryz.underlying43 rfl (by as_aux_lemma => kernel_rfl)
  refine bodyPost_ret (v := .agg (semiC 0)) ?_ rfl ⟨rfl, hg⟩
  unfold results
  rw [Tryz.results34]
  simp [asAddr, hl]
theorem of_any (k : Int) (w : World) : Calls Tryz.prog 34 #[.int .i64 k] w (ValPost (semiV k) w) := by
  unfold semiV
  by_cases h1 : k = 1
  · subst h1; exact of_one w
  by_cases h2 : k = 2
  · subst h2; exact of_two w
  by_cases h3 : k = 3
  · subst h3; exact of_three w
  have e : semiC k = semiC 0 := by
    unfold semiC
    rw [if_neg h1, if_neg h2, if_neg h3]
    rfl
  rw [e]
  by_cases h0 : k = 0
  · subst h0; exact of_zero w
  by_cases hl : k < 0
  · exact of_low w k hl
  · exact of_high w k (by omega)
end Go.Proofs.YtkekljjjomnalaaGreatDoor
