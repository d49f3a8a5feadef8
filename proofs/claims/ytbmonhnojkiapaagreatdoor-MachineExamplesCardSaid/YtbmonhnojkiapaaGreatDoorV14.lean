/- The kinds of semirings, as of returns them. · What the kinds' functions return: size, compare, compareDown; extended, notNegative, positive, none. · What the operations of the kinds return. -/
import Derived.Test.YtbmonhnojkiapaaGreatDoorV10
import Derived.Test.YtbmonhnojkiapaaGreatDoorV13
import Derived.Laws.EntriesVeiled
import Derived.Deep.CutRange
import Derived.Deep.MidRow
import Derived.Deep.WholeRow
import Derived.Great.BuildSlice
import Derived.Great.Walk
set_option linter.unusedVariables false
set_option linter.unusedSimpArgs false
namespace Go.Proofs.YtbmonhnojkiapaaGreatDoor
open Go.RowKit

def fnV (F : Nat) : Value := .func (.func F) #[] #[]
def noneC : Array Value := #[.string ⟨#[]⟩, .string ⟨#[]⟩, fnV 90, fnV 90, .nilFunc, .nilFunc, .nilFunc, .nilFunc, .nilFunc]
def tropC : Array Value := #[.string infS, .string zeroS, fnV 91, fnV 92, fnV 93, fnV 94, fnV 95, fnV 96, fnV 97]
def probC : Array Value := #[.string zeroS, .string oneS, fnV 98, fnV 99, fnV 100, fnV 101, fnV 102, fnV 103, fnV 104]
def viteC : Array Value := #[.string zeroS, .string oneS, fnV 98, fnV 99, fnV 105, fnV 101, fnV 106, fnV 103, fnV 104]
def tabC : Array Value := noneC ++ tropC ++ probC ++ viteC
def blankC : Array Value := #[.string ⟨#[]⟩, .string ⟨#[]⟩, .nilFunc, .nilFunc, .nilFunc, .nilFunc, .nilFunc, .nilFunc, .nilFunc]
def roomC : Array Value := blankC ++ blankC ++ blankC ++ blankC
def semiC (k : Int) : Array Value := if k = 1 then tropC else if k = 2 then probC else if k = 3 then viteC else noneC
def semiV (k : Int) : Value := .agg (semiC k)
theorem at_tab (j : Nat) (hj : j < 4) (i : Nat) (v : Value) (h : (semiC j).toList[i]? = some v) : tabC[j * 9 + i]? = some v := by
  have h4 : j = 0 ∨ j = 1 ∨ j = 2 ∨ j = 3 := by omega
  have hi : i < 9 := by
    have h1 := (List.getElem?_eq_some_iff.1 h).1
    rcases h4 with rfl | rfl | rfl | rfl <;> exact h1
  have h9 : i = 0 ∨ i = 1 ∨ i = 2 ∨ i = 3 ∨ i = 4 ∨ i = 5 ∨ i = 6 ∨ i = 7 ∨ i = 8 := by omega
  rcases h4 with rfl | rfl | rfl | rfl <;> rcases h9 with rfl | rfl | rfl | rfl | rfl | rfl | rfl | rfl | rfl <;> exact h
theorem alloc_tab (o : Oper) (ho : o.op = .alloc 87) (ρ : Operand → Value) (w : World) {g : Nat} (hg : w.heap.size = g) : (execOp ρ o).run Tryz.prog w = .ok (.value (.pointer (some ⟨g, 0, none⟩))) (w.alloc (.cells roomC 87)) := by
  subst hg
  obtain ⟨d, p, t, q, af, gd⟩ := o
  cases ho
  kernel_rfl
set_option maxRecDepth 100000 in
theorem idx_tab (o : Oper) (x y : Operand) (ho : o.op = .indexAddr 87 x y) (ρ : Operand → Value) (w : World) (g : Nat) (j : Nat) (hj : j < 4) (hx : ρ x = .pointer (some ⟨g, 0, none⟩)) (hy : ρ y = .int .i64 j) :
    (execOp ρ o).run Tryz.prog w = .ok (.value (.pointer (some ⟨g, j * 9, none⟩))) w := by
  obtain ⟨d, p, t, q, af, gd⟩ := o
  cases ho
  unfold execOp
  dsimp only
  rw [hx, hy]
  have h4 : j = 0 ∨ j = 1 ∨ j = 2 ∨ j = 3 := by omega
  rcases h4 with rfl | rfl | rfl | rfl <;> exact rfl
theorem grown_row {w w1 : World} {g : Nat} {cs : Array Value} (h : w.grownBy w1 none) (hg : w.heap.size ≤ g) : w.grownBy (w1.setRow g cs) none :=
  ⟨h.1, h.2, h.3, by rw [setRow_size]; exact h.4, fun k hk hn => by rw [setRow_other _ _ _ _ (by omega)]; exact h.5 k hk hn⟩
set_option maxRecDepth 100000 in
set_option maxHeartbeats 1000000 in
theorem of_one (w : World) : Calls Tryz.prog 80 #[.int .i64 1] w (ValPost (.agg (semiC 1)) w) := by
  go_enter Tryz.func80, Tryz.ntmps80
  go_upto_region 1 with (fail)
  rename_i K hK
  generalize hW : w.alloc (.cells #[.string ⟨#[]⟩, .string ⟨#[]⟩, .nilFunc, .nilFunc, .nilFunc, .nilFunc, .nilFunc, .nilFunc, .nilFunc] 79) = W at *
  have h1 : W.heap[w.heap.size]? = some (.cells blankC 79 (0, 0)) := by subst hW; exact new_block _ _
  have h2 : w.grownBy W none := by subst hW; exact World.grownBy_alloc _ _ none
  have h3 : W.heap.size = w.heap.size + 1 := by subst hW; simp
  clear hW
  apply wp_region_lit
  refine wpList_buildTo rfl 79 _ rfl (some 4) rfl noneC (by as_aux_lemma => kernel_rfl) ?_
  refine wpList_buildTo rfl 79 _ rfl (some 5) rfl tropC (by as_aux_lemma => kernel_rfl) ?_
  refine wpList_buildTo rfl 79 _ rfl (some 6) rfl probC (by as_aux_lemma => kernel_rfl) ?_
  refine wpList_buildTo rfl 79 _ rfl (some 7) rfl viteC (by as_aux_lemma => kernel_rfl) ?_
  refine wpList_buildTo rfl 87 _ rfl (some 8) rfl tabC (by as_aux_lemma => kernel_rfl) ?_
  refine Great.wpList_allocTo rfl (some 3) rfl (.pointer (some ⟨w.heap.size + 1, 0, none⟩)) (.cells roomC 87) ?_ ?_
  · exact alloc_tab _ rfl _ _ h3
  refine wpList_store_rowTo rfl 87 _ _ rfl rfl (w.heap.size + 1) tabC ?_ ?_ 87 roomC ?_ ?_ ?_ ?_ ?_
  · exact Act.eval_put_same _ 3 _ (by simp [Act.size_put])
  · exact (Act.eval_put_ne _ 3 8 _ (by decide)).trans (Act.eval_put_same _ 8 _ (by simp [Act.size_put]))
  · exact block_at _ _ _ h3.symm
  · as_aux_lemma => kernel_rfl
  · as_aux_lemma => kernel_rfl
  · as_aux_lemma => kernel_rfl
  refine wpList_nil (hK _ _ ?_)
  have e1 : (W.alloc (.cells roomC 87)).setRow (w.heap.size + 1) tabC = W.alloc (.cells tabC 87) := by rw [← h3]; exact World.setRow_alloc_new _ _ _ _
  rw [e1]
  change Code.wp _ _ _ ⟨#[.int .i64 1, undef, .pointer (some ⟨w.heap.size, 0, none⟩), .pointer (some ⟨w.heap.size + 1, 0, none⟩), .agg noneC, .agg tropC, .agg probC, .agg viteC, .agg tabC, undef, undef, undef, undef, undef, undef, undef, undef, undef], []⟩ _
  clear hK
  go_upto_region 4 with (fail)
  rename_i K2 hK2
  apply wp_region_lit
  refine Great.wpList_readTo rfl (some 15) rfl (.int .i64 1) rfl ?_
  refine Great.wpList_readTo rfl (some 16) rfl (.pointer (some ⟨w.heap.size + 1, 1 * 9, none⟩)) ?_ ?_
  · exact idx_tab _ (.tmp 3) (.tmp 15) rfl _ _ _ 1 (by decide) rfl rfl
  refine wpList_load_mid rfl 79 _ rfl (w.heap.size + 1) (1 * 9) rfl (semiC 1).toList _ ?_ Tryz.underlying79 rfl (by as_aux_lemma => kernel_rfl) ?_
  · intro i v hv
    rw [← h3, cell_of_row _ _ _ _ _ (0, 0) (new_block _ _)]
    exact at_tab 1 (by decide) i v hv
  refine wpList_store_rowTo rfl 79 _ _ rfl rfl w.heap.size (semiC 1) rfl rfl 79 blankC ?_ ?_ ?_ ?_ ?_
  · exact (block_old _ _ _ (by omega)).trans h1
  · as_aux_lemma => kernel_rfl
  · as_aux_lemma => kernel_rfl
  · as_aux_lemma => kernel_rfl
  refine wpList_nil (hK2 _ _ ?_)
  clear hK2
  have hb : ((W.alloc (.cells tabC 87)).setRow w.heap.size (semiC 1)).heap[w.heap.size]? = some (.cells (semiC 1) 79 (0, 0)) :=
    setRow_heap _ _ _ _ _ _ ((block_old _ _ _ (by omega)).trans h1)
  have hg : w.grownBy ((W.alloc (.cells tabC 87)).setRow w.heap.size (semiC 1)) none :=
    grown_row (grown_trans h2 (World.grownBy_alloc _ _ none)) (Nat.le_refl _)
  generalize (W.alloc (.cells tabC 87)).setRow w.heap.size (semiC 1) = W2 at *
  change Code.wp _ _ _ ⟨#[.int .i64 1, undef, .pointer (some ⟨w.heap.size, 0, none⟩), .pointer (some ⟨w.heap.size + 1, 0, none⟩), .agg noneC, .agg tropC, .agg probC, .agg viteC, .agg tabC, _, _, _, _, _, _, .int .i64 1, .pointer (some ⟨w.heap.size + 1, 1 * 9, none⟩), .agg (semiC 1)], []⟩ _
  go_wp2
  have hl := run_loadVar_row (P := Tryz.prog) W2 w.heap.size 79 79 (semiC 1) (0, 0) _ hb Tryz.underlying79 rfl (by as_aux_lemma => kernel_rfl)
  refine bodyPost_ret (v := .agg (semiC 1)) ?_ rfl ⟨rfl, hg⟩
  unfold results
  rw [Tryz.results80]
  simp [asAddr, hl]
set_option maxRecDepth 100000 in
set_option maxHeartbeats 1000000 in
theorem of_two (w : World) : Calls Tryz.prog 80 #[.int .i64 2] w (ValPost (.agg (semiC 2)) w) := by
  go_enter Tryz.func80, Tryz.ntmps80
  go_upto_region 1 with (fail)
  rename_i K hK
  generalize hW : w.alloc (.cells #[.string ⟨#[]⟩, .string ⟨#[]⟩, .nilFunc, .nilFunc, .nilFunc, .nilFunc, .nilFunc, .nilFunc, .nilFunc] 79) = W at *
  have h1 : W.heap[w.heap.size]? = some (.cells blankC 79 (0, 0)) := by subst hW; exact new_block _ _
  have h2 : w.grownBy W none := by subst hW; exact World.grownBy_alloc _ _ none
  have h3 : W.heap.size = w.heap.size + 1 := by subst hW; simp
  clear hW
  apply wp_region_lit
  refine wpList_buildTo rfl 79 _ rfl (some 4) rfl noneC (by as_aux_lemma => kernel_rfl) ?_
  refine wpList_buildTo rfl 79 _ rfl (some 5) rfl tropC (by as_aux_lemma => kernel_rfl) ?_
  refine wpList_buildTo rfl 79 _ rfl (some 6) rfl probC (by as_aux_lemma => kernel_rfl) ?_
  refine wpList_buildTo rfl 79 _ rfl (some 7) rfl viteC (by as_aux_lemma => kernel_rfl) ?_
  refine wpList_buildTo rfl 87 _ rfl (some 8) rfl tabC (by as_aux_lemma => kernel_rfl) ?_
  refine Great.wpList_allocTo rfl (some 3) rfl (.pointer (some ⟨w.heap.size + 1, 0, none⟩)) (.cells roomC 87) ?_ ?_
  · exact alloc_tab _ rfl _ _ h3
  refine wpList_store_rowTo rfl 87 _ _ rfl rfl (w.heap.size + 1) tabC ?_ ?_ 87 roomC ?_ ?_ ?_ ?_ ?_
  · exact Act.eval_put_same _ 3 _ (by simp [Act.size_put])
  · exact (Act.eval_put_ne _ 3 8 _ (by decide)).trans (Act.eval_put_same _ 8 _ (by simp [Act.size_put]))
  · exact block_at _ _ _ h3.symm
  · as_aux_lemma => kernel_rfl
  · as_aux_lemma => kernel_rfl
  · as_aux_lemma => kernel_rfl
  refine wpList_nil (hK _ _ ?_)
  have e1 : (W.alloc (.cells roomC 87)).setRow (w.heap.size + 1) tabC = W.alloc (.cells tabC 87) := by rw [← h3]; exact World.setRow_alloc_new _ _ _ _
  rw [e1]
  change Code.wp _ _ _ ⟨#[.int .i64 2, undef, .pointer (some ⟨w.heap.size, 0, none⟩), .pointer (some ⟨w.heap.size + 1, 0, none⟩), .agg noneC, .agg tropC, .agg probC, .agg viteC, .agg tabC, undef, undef, undef, undef, undef, undef, undef, undef, undef], []⟩ _
  clear hK
  go_upto_region 4 with (fail)
  rename_i K2 hK2
  apply wp_region_lit
  refine Great.wpList_readTo rfl (some 15) rfl (.int .i64 2) rfl ?_
  refine Great.wpList_readTo rfl (some 16) rfl (.pointer (some ⟨w.heap.size + 1, 2 * 9, none⟩)) ?_ ?_
  · exact idx_tab _ (.tmp 3) (.tmp 15) rfl _ _ _ 2 (by decide) rfl rfl
  refine wpList_load_mid rfl 79 _ rfl (w.heap.size + 1) (2 * 9) rfl (semiC 2).toList _ ?_ Tryz.underlying79 rfl (by as_aux_lemma => kernel_rfl) ?_
  · intro i v hv
    rw [← h3, cell_of_row _ _ _ _ _ (0, 0) (new_block _ _)]
    exact at_tab 2 (by decide) i v hv
  refine wpList_store_rowTo rfl 79 _ _ rfl rfl w.heap.size (semiC 2) rfl rfl 79 blankC ?_ ?_ ?_ ?_ ?_
  · exact (block_old _ _ _ (by omega)).trans h1
  · as_aux_lemma => kernel_rfl
  · as_aux_lemma => kernel_rfl
  · as_aux_lemma => kernel_rfl
  refine wpList_nil (hK2 _ _ ?_)
  clear hK2
  have hb : ((W.alloc (.cells tabC 87)).setRow w.heap.size (semiC 2)).heap[w.heap.size]? = some (.cells (semiC 2) 79 (0, 0)) :=
    setRow_heap _ _ _ _ _ _ ((block_old _ _ _ (by omega)).trans h1)
  have hg : w.grownBy ((W.alloc (.cells tabC 87)).setRow w.heap.size (semiC 2)) none :=
    grown_row (grown_trans h2 (World.grownBy_alloc _ _ none)) (Nat.le_refl _)
  generalize (W.alloc (.cells tabC 87)).setRow w.heap.size (semiC 2) = W2 at *
  change Code.wp _ _ _ ⟨#[.int .i64 2, undef, .pointer (some ⟨w.heap.size, 0, none⟩), .pointer (some ⟨w.heap.size + 1, 0, none⟩), .agg noneC, .agg tropC, .agg probC, .agg viteC, .agg tabC, _, _, _, _, _, _, .int .i64 2, .pointer (some ⟨w.heap.size + 1, 2 * 9, none⟩), .agg (semiC 2)], []⟩ _
  go_wp2
  have hl := run_loadVar_row (P := Tryz.prog) W2 w.heap.size 79 79 (semiC 2) (0, 0) _ hb Tryz.underlying79 rfl (by as_aux_lemma => kernel_rfl)
  refine bodyPost_ret (v := .agg (semiC 2)) ?_ rfl ⟨rfl, hg⟩
  unfold results
  rw [Tryz.results80]
  simp [asAddr, hl]
set_option maxRecDepth 100000 in
set_option maxHeartbeats 1000000 in
theorem of_three (w : World) : Calls Tryz.prog 80 #[.int .i64 3] w (ValPost (.agg (semiC 3)) w) := by
  go_enter Tryz.func80, Tryz.ntmps80
  go_upto_region 1 with (fail)
  rename_i K hK
  generalize hW : w.alloc (.cells #[.string ⟨#[]⟩, .string ⟨#[]⟩, .nilFunc, .nilFunc, .nilFunc, .nilFunc, .nilFunc, .nilFunc, .nilFunc] 79) = W at *
  have h1 : W.heap[w.heap.size]? = some (.cells blankC 79 (0, 0)) := by subst hW; exact new_block _ _
  have h2 : w.grownBy W none := by subst hW; exact World.grownBy_alloc _ _ none
  have h3 : W.heap.size = w.heap.size + 1 := by subst hW; simp
  clear hW
  apply wp_region_lit
  refine wpList_buildTo rfl 79 _ rfl (some 4) rfl noneC (by as_aux_lemma => kernel_rfl) ?_
  refine wpList_buildTo rfl 79 _ rfl (some 5) rfl tropC (by as_aux_lemma => kernel_rfl) ?_
  refine wpList_buildTo rfl 79 _ rfl (some 6) rfl probC (by as_aux_lemma => kernel_rfl) ?_
  refine wpList_buildTo rfl 79 _ rfl (some 7) rfl viteC (by as_aux_lemma => kernel_rfl) ?_
  refine wpList_buildTo rfl 87 _ rfl (some 8) rfl tabC (by as_aux_lemma => kernel_rfl) ?_
  refine Great.wpList_allocTo rfl (some 3) rfl (.pointer (some ⟨w.heap.size + 1, 0, none⟩)) (.cells roomC 87) ?_ ?_
  · exact alloc_tab _ rfl _ _ h3
  refine wpList_store_rowTo rfl 87 _ _ rfl rfl (w.heap.size + 1) tabC ?_ ?_ 87 roomC ?_ ?_ ?_ ?_ ?_
  · exact Act.eval_put_same _ 3 _ (by simp [Act.size_put])
  · exact (Act.eval_put_ne _ 3 8 _ (by decide)).trans (Act.eval_put_same _ 8 _ (by simp [Act.size_put]))
  · exact block_at _ _ _ h3.symm
  · as_aux_lemma => kernel_rfl
  · as_aux_lemma => kernel_rfl
  · as_aux_lemma => kernel_rfl
  refine wpList_nil (hK _ _ ?_)
  have e1 : (W.alloc (.cells roomC 87)).setRow (w.heap.size + 1) tabC = W.alloc (.cells tabC 87) := by rw [← h3]; exact World.setRow_alloc_new _ _ _ _
  rw [e1]
  change Code.wp _ _ _ ⟨#[.int .i64 3, undef, .pointer (some ⟨w.heap.size, 0, none⟩), .pointer (some ⟨w.heap.size + 1, 0, none⟩), .agg noneC, .agg tropC, .agg probC, .agg viteC, .agg tabC, undef, undef, undef, undef, undef, undef, undef, undef, undef], []⟩ _
  clear hK
  go_upto_region 4 with (fail)
  rename_i K2 hK2
  apply wp_region_lit
  refine Great.wpList_readTo rfl (some 15) rfl (.int .i64 3) rfl ?_
  refine Great.wpList_readTo rfl (some 16) rfl (.pointer (some ⟨w.heap.size + 1, 3 * 9, none⟩)) ?_ ?_
  · exact idx_tab _ (.tmp 3) (.tmp 15) rfl _ _ _ 3 (by decide) rfl rfl
  refine wpList_load_mid rfl 79 _ rfl (w.heap.size + 1) (3 * 9) rfl (semiC 3).toList _ ?_ Tryz.underlying79 rfl (by as_aux_lemma => kernel_rfl) ?_
  · intro i v hv
    rw [← h3, cell_of_row _ _ _ _ _ (0, 0) (new_block _ _)]
    exact at_tab 3 (by decide) i v hv
  refine wpList_store_rowTo rfl 79 _ _ rfl rfl w.heap.size (semiC 3) rfl rfl 79 blankC ?_ ?_ ?_ ?_ ?_
  · exact (block_old _ _ _ (by omega)).trans h1
  · as_aux_lemma => kernel_rfl
  · as_aux_lemma => kernel_rfl
  · as_aux_lemma => kernel_rfl
  refine wpList_nil (hK2 _ _ ?_)
  clear hK2
  have hb : ((W.alloc (.cells tabC 87)).setRow w.heap.size (semiC 3)).heap[w.heap.size]? = some (.cells (semiC 3) 79 (0, 0)) :=
    setRow_heap _ _ _ _ _ _ ((block_old _ _ _ (by omega)).trans h1)
  have hg : w.grownBy ((W.alloc (.cells tabC 87)).setRow w.heap.size (semiC 3)) none :=
    grown_row (grown_trans h2 (World.grownBy_alloc _ _ none)) (Nat.le_refl _)
  generalize (W.alloc (.cells tabC 87)).setRow w.heap.size (semiC 3) = W2 at *
  change Code.wp _ _ _ ⟨#[.int .i64 3, undef, .pointer (some ⟨w.heap.size, 0, none⟩), .pointer (some ⟨w.heap.size + 1, 0, none⟩), .agg noneC, .agg tropC, .agg probC, .agg viteC, .agg tabC, _, _, _, _, _, _, .int .i64 3, .pointer (some ⟨w.heap.size + 1, 3 * 9, none⟩), .agg (semiC 3)], []⟩ _
  go_wp2
  have hl := run_loadVar_row (P := Tryz.prog) W2 w.heap.size 79 79 (semiC 3) (0, 0) _ hb Tryz.underlying79 rfl (by as_aux_lemma => kernel_rfl)
  refine bodyPost_ret (v := .agg (semiC 3)) ?_ rfl ⟨rfl, hg⟩
  unfold results
  rw [Tryz.results80]
  simp [asAddr, hl]
set_option maxRecDepth 100000 in
set_option maxHeartbeats 1000000 in
theorem of_zero (w : World) : Calls Tryz.prog 80 #[.int .i64 0] w (ValPost (.agg (semiC 0)) w) := by
  go_enter Tryz.func80, Tryz.ntmps80
  go_upto_region 1 with (fail)
  rename_i K hK
  generalize hW : w.alloc (.cells #[.string ⟨#[]⟩, .string ⟨#[]⟩, .nilFunc, .nilFunc, .nilFunc, .nilFunc, .nilFunc, .nilFunc, .nilFunc] 79) = W at *
  have h1 : W.heap[w.heap.size]? = some (.cells blankC 79 (0, 0)) := by subst hW; exact new_block _ _
  have h2 : w.grownBy W none := by subst hW; exact World.grownBy_alloc _ _ none
  have h3 : W.heap.size = w.heap.size + 1 := by subst hW; simp
  clear hW
  apply wp_region_lit
  refine wpList_buildTo rfl 79 _ rfl (some 4) rfl noneC (by as_aux_lemma => kernel_rfl) ?_
  refine wpList_buildTo rfl 79 _ rfl (some 5) rfl tropC (by as_aux_lemma => kernel_rfl) ?_
  refine wpList_buildTo rfl 79 _ rfl (some 6) rfl probC (by as_aux_lemma => kernel_rfl) ?_
  refine wpList_buildTo rfl 79 _ rfl (some 7) rfl viteC (by as_aux_lemma => kernel_rfl) ?_
  refine wpList_buildTo rfl 87 _ rfl (some 8) rfl tabC (by as_aux_lemma => kernel_rfl) ?_
  refine Great.wpList_allocTo rfl (some 3) rfl (.pointer (some ⟨w.heap.size + 1, 0, none⟩)) (.cells roomC 87) ?_ ?_
  · exact alloc_tab _ rfl _ _ h3
  refine wpList_store_rowTo rfl 87 _ _ rfl rfl (w.heap.size + 1) tabC ?_ ?_ 87 roomC ?_ ?_ ?_ ?_ ?_
  · exact Act.eval_put_same _ 3 _ (by simp [Act.size_put])
  · exact (Act.eval_put_ne _ 3 8 _ (by decide)).trans (Act.eval_put_same _ 8 _ (by simp [Act.size_put]))
  · exact block_at _ _ _ h3.symm
  · as_aux_lemma => kernel_rfl
  · as_aux_lemma => kernel_rfl
  · as_aux_lemma => kernel_rfl
  refine wpList_nil (hK _ _ ?_)
  have e1 : (W.alloc (.cells roomC 87)).setRow (w.heap.size + 1) tabC = W.alloc (.cells tabC 87) := by rw [← h3]; exact World.setRow_alloc_new _ _ _ _
  rw [e1]
  change Code.wp _ _ _ ⟨#[.int .i64 0, undef, .pointer (some ⟨w.heap.size, 0, none⟩), .pointer (some ⟨w.heap.size + 1, 0, none⟩), .agg noneC, .agg tropC, .agg probC, .agg viteC, .agg tabC, undef, undef, undef, undef, undef, undef, undef, undef, undef], []⟩ _
  clear hK
  go_upto_region 4 with (fail)
  rename_i K2 hK2
  apply wp_region_lit
  refine Great.wpList_readTo rfl (some 15) rfl (.int .i64 0) rfl ?_
  refine Great.wpList_readTo rfl (some 16) rfl (.pointer (some ⟨w.heap.size + 1, 0 * 9, none⟩)) ?_ ?_
  · exact idx_tab _ (.tmp 3) (.tmp 15) rfl _ _ _ 0 (by decide) rfl rfl
  refine wpList_load_mid rfl 79 _ rfl (w.heap.size + 1) (0 * 9) rfl (semiC 0).toList _ ?_ Tryz.underlying79 rfl (by as_aux_lemma => kernel_rfl) ?_
  · intro i v hv
    rw [← h3, cell_of_row _ _ _ _ _ (0, 0) (new_block _ _)]
    exact at_tab 0 (by decide) i v hv
  refine wpList_store_rowTo rfl 79 _ _ rfl rfl w.heap.size (semiC 0) rfl rfl 79 blankC ?_ ?_ ?_ ?_ ?_
  · exact (block_old _ _ _ (by omega)).trans h1
  · as_aux_lemma => kernel_rfl
  · as_aux_lemma => kernel_rfl
  · as_aux_lemma => kernel_rfl
  refine wpList_nil (hK2 _ _ ?_)
  clear hK2
  have hb : ((W.alloc (.cells tabC 87)).setRow w.heap.size (semiC 0)).heap[w.heap.size]? = some (.cells (semiC 0) 79 (0, 0)) :=
    setRow_heap _ _ _ _ _ _ ((block_old _ _ _ (by omega)).trans h1)
  have hg : w.grownBy ((W.alloc (.cells tabC 87)).setRow w.heap.size (semiC 0)) none :=
    grown_row (grown_trans h2 (World.grownBy_alloc _ _ none)) (Nat.le_refl _)
  generalize (W.alloc (.cells tabC 87)).setRow w.heap.size (semiC 0) = W2 at *
  change Code.wp _ _ _ ⟨#[.int .i64 0, undef, .pointer (some ⟨w.heap.size, 0, none⟩), .pointer (some ⟨w.heap.size + 1, 0, none⟩), .agg noneC, .agg tropC, .agg probC, .agg viteC, .agg tabC, _, _, _, _, _, _, .int .i64 0, .pointer (some ⟨w.heap.size + 1, 0 * 9, none⟩), .agg (semiC 0)], []⟩ _
  go_wp2
  have hl := run_loadVar_row (P := Tryz.prog) W2 w.heap.size 79 79 (semiC 0) (0, 0) _ hb Tryz.underlying79 rfl (by as_aux_lemma => kernel_rfl)
  refine bodyPost_ret (v := .agg (semiC 0)) ?_ rfl ⟨rfl, hg⟩
  unfold results
  rw [Tryz.results80]
  simp [asAddr, hl]
set_option maxRecDepth 100000 in
set_option maxHeartbeats 1000000 in
theorem of_low (w : World) (k : Int) (h : k < 0) : Calls Tryz.prog 80 #[.int .i64 k] w (ValPost (.agg (semiC 0)) w) := by
  go_enter Tryz.func80, Tryz.ntmps80
  go_upto_region 1 with (fail)
  rename_i K hK
  generalize hW : w.alloc (.cells #[.string ⟨#[]⟩, .string ⟨#[]⟩, .nilFunc, .nilFunc, .nilFunc, .nilFunc, .nilFunc, .nilFunc, .nilFunc] 79) = W at *
  have h1 : W.heap[w.heap.size]? = some (.cells blankC 79 (0, 0)) := by subst hW; exact new_block _ _
  have h2 : w.grownBy W none := by subst hW; exact World.grownBy_alloc _ _ none
  have h3 : W.heap.size = w.heap.size + 1 := by subst hW; simp
  clear hW
  apply wp_region_lit
  refine wpList_buildTo rfl 79 _ rfl (some 4) rfl noneC (by as_aux_lemma => kernel_rfl) ?_
  refine wpList_buildTo rfl 79 _ rfl (some 5) rfl tropC (by as_aux_lemma => kernel_rfl) ?_
  refine wpList_buildTo rfl 79 _ rfl (some 6) rfl probC (by as_aux_lemma => kernel_rfl) ?_
  refine wpList_buildTo rfl 79 _ rfl (some 7) rfl viteC (by as_aux_lemma => kernel_rfl) ?_
  refine wpList_buildTo rfl 87 _ rfl (some 8) rfl tabC (by as_aux_lemma => kernel_rfl) ?_
  refine Great.wpList_allocTo rfl (some 3) rfl (.pointer (some ⟨w.heap.size + 1, 0, none⟩)) (.cells roomC 87) ?_ ?_
  · exact alloc_tab _ rfl _ _ h3
  refine wpList_store_rowTo rfl 87 _ _ rfl rfl (w.heap.size + 1) tabC ?_ ?_ 87 roomC ?_ ?_ ?_ ?_ ?_
  · exact Act.eval_put_same _ 3 _ (by simp [Act.size_put])
  · exact (Act.eval_put_ne _ 3 8 _ (by decide)).trans (Act.eval_put_same _ 8 _ (by simp [Act.size_put]))
  · exact block_at _ _ _ h3.symm
  · as_aux_lemma => kernel_rfl
  · as_aux_lemma => kernel_rfl
  · as_aux_lemma => kernel_rfl
  refine wpList_nil (hK _ _ ?_)
  have e1 : (W.alloc (.cells roomC 87)).setRow (w.heap.size + 1) tabC = W.alloc (.cells tabC 87) := by rw [← h3]; exact World.setRow_alloc_new _ _ _ _
  rw [e1]
  change Code.wp _ _ _ ⟨#[.int .i64 k, undef, .pointer (some ⟨w.heap.size, 0, none⟩), .pointer (some ⟨w.heap.size + 1, 0, none⟩), .agg noneC, .agg tropC, .agg probC, .agg viteC, .agg tabC, undef, undef, undef, undef, undef, undef, undef, undef, undef], []⟩ _
  clear hK
  go_upto_region 4 with (fail)
  rename_i K2 hK2
  apply wp_region_lit
  refine Great.wpList_readTo rfl (some 15) rfl (.int .i64 0) rfl ?_
  refine Great.wpList_readTo rfl (some 16) rfl (.pointer (some ⟨w.heap.size + 1, 0 * 9, none⟩)) ?_ ?_
  · exact idx_tab _ (.tmp 3) (.tmp 15) rfl _ _ _ 0 (by decide) rfl rfl
  refine wpList_load_mid rfl 79 _ rfl (w.heap.size + 1) (0 * 9) rfl (semiC 0).toList _ ?_ Tryz.underlying79 rfl (by as_aux_lemma => kernel_rfl) ?_
  · intro i v hv
    rw [← h3, cell_of_row _ _ _ _ _ (0, 0) (new_block _ _)]
    exact at_tab 0 (by decide) i v hv
  refine wpList_store_rowTo rfl 79 _ _ rfl rfl w.heap.size (semiC 0) rfl rfl 79 blankC ?_ ?_ ?_ ?_ ?_
  · exact (block_old _ _ _ (by omega)).trans h1
  · as_aux_lemma => kernel_rfl
  · as_aux_lemma => kernel_rfl
  · as_aux_lemma => kernel_rfl
  refine wpList_nil (hK2 _ _ ?_)
  clear hK2
  have hb : ((W.alloc (.cells tabC 87)).setRow w.heap.size (semiC 0)).heap[w.heap.size]? = some (.cells (semiC 0) 79 (0, 0)) :=
    setRow_heap _ _ _ _ _ _ ((block_old _ _ _ (by omega)).trans h1)
  have hg : w.grownBy ((W.alloc (.cells tabC 87)).setRow w.heap.size (semiC 0)) none :=
    grown_row (grown_trans h2 (World.grownBy_alloc _ _ none)) (Nat.le_refl _)
  generalize (W.alloc (.cells tabC 87)).setRow w.heap.size (semiC 0) = W2 at *
  change Code.wp _ _ _ ⟨#[.int .i64 0, undef, .pointer (some ⟨w.heap.size, 0, none⟩), .pointer (some ⟨w.heap.size + 1, 0, none⟩), .agg noneC, .agg tropC, .agg probC, .agg viteC, .agg tabC, _, _, _, _, _, _, .int .i64 0, .pointer (some ⟨w.heap.size + 1, 0 * 9, none⟩), .agg (semiC 0)], []⟩ _
  go_wp2
  have hl := run_loadVar_row (P := Tryz.prog) W2 w.heap.size 79 79 (semiC 0) (0, 0) _ hb Tryz.underlying79 rfl (by as_aux_lemma => kernel_rfl)
  refine bodyPost_ret (v := .agg (semiC 0)) ?_ rfl ⟨rfl, hg⟩
  unfold results
  rw [Tryz.results80]
  simp [asAddr, hl]
set_option maxRecDepth 100000 in
set_option maxHeartbeats 1000000 in
theorem of_high (w : World) (k : Int) (h : 4 ≤ k) : Calls Tryz.prog 80 #[.int .i64 k] w (ValPost (.agg (semiC 0)) w) := by
  have h2 : ¬ k < 0 := by omega
  go_enter Tryz.func80, Tryz.ntmps80
  go_upto_region 1 with (fail)
  rename_i K hK
  generalize hW : w.alloc (.cells #[.string ⟨#[]⟩, .string ⟨#[]⟩, .nilFunc, .nilFunc, .nilFunc, .nilFunc, .nilFunc, .nilFunc, .nilFunc] 79) = W at *
  have h1 : W.heap[w.heap.size]? = some (.cells blankC 79 (0, 0)) := by subst hW; exact new_block _ _
  have h2 : w.grownBy W none := by subst hW; exact World.grownBy_alloc _ _ none
  have h3 : W.heap.size = w.heap.size + 1 := by subst hW; simp
  clear hW
  apply wp_region_lit
  refine wpList_buildTo rfl 79 _ rfl (some 4) rfl noneC (by as_aux_lemma => kernel_rfl) ?_
  refine wpList_buildTo rfl 79 _ rfl (some 5) rfl tropC (by as_aux_lemma => kernel_rfl) ?_
  refine wpList_buildTo rfl 79 _ rfl (some 6) rfl probC (by as_aux_lemma => kernel_rfl) ?_
  refine wpList_buildTo rfl 79 _ rfl (some 7) rfl viteC (by as_aux_lemma => kernel_rfl) ?_
  refine wpList_buildTo rfl 87 _ rfl (some 8) rfl tabC (by as_aux_lemma => kernel_rfl) ?_
  refine Great.wpList_allocTo rfl (some 3) rfl (.pointer (some ⟨w.heap.size + 1, 0, none⟩)) (.cells roomC 87) ?_ ?_
  · exact alloc_tab _ rfl _ _ h3
  refine wpList_store_rowTo rfl 87 _ _ rfl rfl (w.heap.size + 1) tabC ?_ ?_ 87 roomC ?_ ?_ ?_ ?_ ?_
  · exact Act.eval_put_same _ 3 _ (by simp [Act.size_put])
  · exact (Act.eval_put_ne _ 3 8 _ (by decide)).trans (Act.eval_put_same _ 8 _ (by simp [Act.size_put]))
  · exact block_at _ _ _ h3.symm
  · as_aux_lemma => kernel_rfl
  · as_aux_lemma => kernel_rfl
  · as_aux_lemma => kernel_rfl
  refine wpList_nil (hK _ _ ?_)
  have e1 : (W.alloc (.cells roomC 87)).setRow (w.heap.size + 1) tabC = W.alloc (.cells tabC 87) := by rw [← h3]; exact World.setRow_alloc_new _ _ _ _
  rw [e1]
  change Code.wp _ _ _ ⟨#[.int .i64 k, undef, .pointer (some ⟨w.heap.size, 0, none⟩), .pointer (some ⟨w.heap.size + 1, 0, none⟩), .agg noneC, .agg tropC, .agg probC, .agg viteC, .agg tabC, undef, undef, undef, undef, undef, undef, undef, undef, undef], []⟩ _
  clear hK
  go_upto_region 4 with (fail)
  rename_i K2 hK2
  apply wp_region_lit
  refine Great.wpList_readTo rfl (some 15) rfl (.int .i64 0) rfl ?_
  refine Great.wpList_readTo rfl (some 16) rfl (.pointer (some ⟨w.heap.size + 1, 0 * 9, none⟩)) ?_ ?_
  · exact idx_tab _ (.tmp 3) (.tmp 15) rfl _ _ _ 0 (by decide) rfl rfl
  refine wpList_load_mid rfl 79 _ rfl (w.heap.size + 1) (0 * 9) rfl (semiC 0).toList _ ?_ Tryz.underlying79 rfl (by as_aux_lemma => kernel_rfl) ?_
  · intro i v hv
    rw [← h3, cell_of_row _ _ _ _ _ (0, 0) (new_block _ _)]
    exact at_tab 0 (by decide) i v hv
  refine wpList_store_rowTo rfl 79 _ _ rfl rfl w.heap.size (semiC 0) rfl rfl 79 blankC ?_ ?_ ?_ ?_ ?_
  · exact (block_old _ _ _ (by omega)).trans h1
  · as_aux_lemma => kernel_rfl
  · as_aux_lemma => kernel_rfl
  · as_aux_lemma => kernel_rfl
  refine wpList_nil (hK2 _ _ ?_)
  clear hK2
  have hb : ((W.alloc (.cells tabC 87)).setRow w.heap.size (semiC 0)).heap[w.heap.size]? = some (.cells (semiC 0) 79 (0, 0)) :=
    setRow_heap _ _ _ _ _ _ ((block_old _ _ _ (by omega)).trans h1)
  have hg : w.grownBy ((W.alloc (.cells tabC 87)).setRow w.heap.size (semiC 0)) none :=
    grown_row (grown_trans h2 (World.grownBy_alloc _ _ none)) (Nat.le_refl _)
  generalize (W.alloc (.cells tabC 87)).setRow w.heap.size (semiC 0) = W2 at *
  change Code.wp _ _ _ ⟨#[.int .i64 0, undef, .pointer (some ⟨w.heap.size, 0, none⟩), .pointer (some ⟨w.heap.size + 1, 0, none⟩), .agg noneC, .agg tropC, .agg probC, .agg viteC, .agg tabC, _, _, _, _, _, _, .int .i64 0, .pointer (some ⟨w.heap.size + 1, 0 * 9, none⟩), .agg (semiC 0)], []⟩ _
  go_wp2
  have hl := run_loadVar_row (P := Tryz.prog) W2 w.heap.size 79 79 (semiC 0) (0, 0) _ hb Tryz.underlying79 rfl (by as_aux_lemma => kernel_rfl)
  refine bodyPost_ret (v := .agg (semiC 0)) ?_ rfl ⟨rfl, hg⟩
  unfold results
  rw [Tryz.results80]
  simp [asAddr, hl]
theorem of_any (k : Int) (w : World) : Calls Tryz.prog 80 #[.int .i64 k] w (ValPost (semiV k) w) := by
  unfold semiV
  by_cases h1 : k = 1
  · subst h1; exact of_one w
  by_cases h2 : k = 2
  · subst h2; exact of_two w
  by_cases h3 : k = 3
  · subst h3; exact of_three w
  have e : semiC k = semiC 0 := by
    unfold semiC
    rw [if_neg h1, if_neg h2, if_neg h3]
    rfl
  rw [e]
  by_cases h0 : k = 0
  · subst h0; exact of_zero w
  by_cases hl : k < 0
  · exact of_low w k hl
  · exact of_high w k (by omega)
end Go.Proofs.YtbmonhnojkiapaaGreatDoor
set_option linter.unusedVariables false
set_option linter.unusedSimpArgs false
namespace Go.Proofs.YtbmonhnojkiapaaGreatDoor
open Go.RowKit
open Go.Lib (nDigits decDigits)

/-! ### Tests of texts -/
def isLow : Ext → Bool
  | .inl false => true
  | _ => false
def isTop : Ext → Bool
  | .inl true => true
  | _ => false
theorem txt_is {a c : ByteArray} {u v : Ext} (h : IsE a u) (k : IsE c v) : decide (a = c) = decide (u = v) := by
  apply decide_eq_decide.2
  exact ⟨fun e => by subst e; exact h.uniq k, fun e => by subst e; exact h.same k⟩
theorem low_list : lowS.toList = [45, 105, 110, 102] := by decide +kernel
theorem inf_list : infS.toList = [105, 110, 102] := by decide +kernel
theorem txt_low {a : ByteArray} {v : Ext} (h : IsE a v) : (a.toList == [45, 105, 110, 102]) = isLow v := by
  rw [← low_list, bytes_ne, txt_is h lowE]
  rcases v with (_ | _) | x
  · rfl
  · exact decide_eq_false (fun e => by cases e)
  · exact decide_eq_false (fun e => by cases e)
theorem txt_top {a : ByteArray} {v : Ext} (h : IsE a v) : (a.toList == [105, 110, 102]) = isTop v := by
  rw [← inf_list, bytes_ne, txt_is h topE]
  rcases v with (_ | _) | x
  · exact decide_eq_false (fun e => by cases e)
  · rfl
  · exact decide_eq_false (fun e => by cases e)
/-! ### size -/
theorem size_walk (a : ByteArray) (b1 b2 : Bool) (f1 : (a.toList == [45, 105, 110, 102]) = b1) (f2 : (a.toList == [105, 110, 102]) = b2) (w : World) :
    Calls Tryz.prog 129 #[.string a] w fun e w' => e = .returned (.int .i64 (if b1 then -1 else if b2 then 1 else 0)) ∧ w = w' := by
  cases b1 <;> cases b2
  all_goals
    go_enter Tryz.func129, Tryz.ntmps129
    go_wp2
    go_ret
    exact ⟨rfl, rfl⟩
def SizeIs (a : ByteArray) (s : Int) : Prop := ∀ w, Calls Tryz.prog 129 #[.string a] w fun e w' => e = .returned (.int .i64 s) ∧ w = w'
theorem size_val {a : ByteArray} {v : Ext} (h : IsE a v) : SizeIs a (sizeE v) := fun w => by
  have k := size_walk a _ _ (txt_low h) (txt_top h) w
  rcases v with (_ | _) | x <;> exact k
/-- The size of any text: that of a number, where it is not inf and not -inf. -/
theorem size_no {a : ByteArray} (h1 : a ≠ lowS) (h2 : a ≠ infS) : SizeIs a 0 := fun w => by
  have k := size_walk a false false (by rw [← low_list, bytes_ne]; exact decide_eq_false h1) (by rw [← inf_list, bytes_ne]; exact decide_eq_false h2) w
  exact k

/-! ### compare -/
def CmpCall (a b : ByteArray) (c : Int) : Prop := ∀ w, Calls Tryz.prog 133 #[.string a, .string b] w (ValPost (.int .i64 c) w)
theorem notrat_inf : notRat infS := not_inf
theorem notrat_low : notRat lowS := not_low
/-! ### The values of a kind -/
theorem none_any (a : ByteArray) (w : World) : Calls Tryz.prog 90 #[.string a] w (ValPost (.bool false) w) := by
  go_enter Tryz.func90, Tryz.ntmps90
  go_wp2
  go_ret
  exact ⟨rfl, grown_refl _ _⟩
def RatVal (a : ByteArray) (k : Bool) : Prop := ∀ w, Calls Tryz.prog 92 #[.string a] w (ValPost (.bool k) w)
set_option maxRecDepth 100000 in
theorem extended_size (a : ByteArray) (s : Int) (w : World) (SA : Hid (SizeIs a s)) (f1 : (s == 0) = false) (f2 : (s != 0) = true) :
    Calls Tryz.prog 91 #[.string a] w (ValPost (.bool true) w) := by
  go_enter Tryz.func91, Tryz.ntmps91
  go_wp2_with fail
  refine (SA.out _).mono ?_
  rintro e w' ⟨rfl, rfl⟩
  go_wp2
  go_ret
  exact ⟨rfl, grown_refl _ _⟩
set_option maxRecDepth 100000 in
theorem extended_rat (a : ByteArray) (k : Bool) (w : World) (SA : Hid (SizeIs a 0)) (V : Hid (RatVal a k)) :
    Calls Tryz.prog 91 #[.string a] w (ValPost (.bool k) w) := by
  go_enter Tryz.func91, Tryz.ntmps91
  go_wp2_with fail
  refine (SA.out _).mono ?_
  rintro e w' ⟨rfl, rfl⟩
  go_wp2_with fail
  refine (V.out _).mono ?_
  rintro e w1 ⟨rfl, hg⟩
  have G1 := Lib.hid hg
  clear hg
  go_wp2
  go_ret
  exact ⟨rfl, G1.out⟩
def ValueIs (F : Nat) (a : ByteArray) (k : Bool) : Prop := ∀ w, Calls Tryz.prog F #[.string a] w (ValPost (.bool k) w)
theorem extended_yes {a : ByteArray} {v : Ext} (h : IsE a v) : ValueIs 91 a true := fun w => by
  have sa := Lib.hid (size_val h)
  rcases v with (_ | _) | x
  · exact extended_size a _ w sa rfl rfl
  · exact extended_size a _ w sa rfl rfl
  · exact extended_rat a true w sa (Lib.hid fun w => ratvalid_yes h w)
/-- No value at all. -/
def NoExt (a : ByteArray) : Prop := ∀ v, ¬ IsE a v
theorem NoExt.rat {a : ByteArray} (h : NoExt a) : notRat a := fun x k => h (.inr x) k
theorem NoExt.size {a : ByteArray} (h : NoExt a) : SizeIs a 0 := size_no (fun e => h (.inl false) e) (fun e => h (.inl true) e)
theorem ext_or (a : ByteArray) : (∃ v, IsE a v) ∨ NoExt a := by
  by_cases h : ∃ v, IsE a v
  · exact .inl h
  · exact .inr fun v k => h ⟨v, k⟩
theorem extended_no {a : ByteArray} (h : NoExt a) (ha : a.size ≤ maxLen) : ValueIs 91 a false := fun w =>
  extended_rat a false w (Lib.hid h.size) (Lib.hid fun w => ratvalid_no h.rat ha w)

def PartsIs (a : ByteArray) (b k : Bool) : Prop := ∃ A B, ∀ w, Calls Tryz.prog 134 #[.string a] w (ValPost (.tuple #[.bool b, .string A, .string B, .bool k]) w)
set_option maxRecDepth 100000 in
theorem notNeg_walk (a : ByteArray) (i b k : Bool) (w : World) (f1 : (a.toList == [105, 110, 102]) = i) (P : Hid (PartsIs a b k)) :
    Calls Tryz.prog 98 #[.string a] w (ValPost (.bool (i || (k && !b))) w) := by
  obtain ⟨A, B, p⟩ := P.out
  clear P
  have P := Lib.hid p
  clear p
  cases i <;> cases b <;> cases k
  all_goals
    go_enter Tryz.func98, Tryz.ntmps98
    go_wp2_with fail
    refine (P.out _).mono ?_
    rintro e w1 ⟨rfl, hg⟩
    have G1 := Lib.hid hg
    clear hg
    go_wp2
    go_ret
    exact ⟨rfl, G1.out⟩
theorem parts_num {a : ByteArray} {x : Rat} (h : IsRat a x) : PartsIs a (sgn x) true := ⟨_, _, fun w => parts_yes h w⟩
theorem parts_not {a : ByteArray} (h : notRat a) (ha : a.size ≤ maxLen) : PartsIs a false false := ⟨_, _, fun w => parts_no h ha w⟩
theorem sgn_nonneg (x : Rat) : (!sgn x) = decide (0 ≤ x) := by
  unfold sgn
  have h := Rat.num_nonneg (q := x)
  by_cases k : 0 ≤ x
  · have := h.2 k
    simp [k]
    try omega
  · have h2 : ¬ 0 ≤ x.num := fun z => k (h.1 z)
    simp [k]
    try omega
theorem notNeg_val {a : ByteArray} {v : Ext} (h : IsE a v) : ValueIs 98 a (hasE 2 v) := fun w => by
  rcases v with (_ | _) | x
  · have := notNeg_walk a _ _ _ w (txt_top h) (Lib.hid (parts_not (by cases h; exact notrat_low) (IsE.len (v := .inl false) h)))
    exact this
  · have := notNeg_walk a _ _ _ w (txt_top h) (Lib.hid (parts_not (by cases h; exact notrat_inf) (IsE.len (v := .inl true) h)))
    exact this
  · have := notNeg_walk a _ _ _ w (txt_top h) (Lib.hid (parts_num h))
    rw [Bool.true_and, sgn_nonneg] at this
    rw [show hasE 2 (.inr x) = decide (0 ≤ x) by simp [hasE]]
    exact this
theorem notNeg_no {a : ByteArray} (h : NoExt a) (ha : a.size ≤ maxLen) : ValueIs 98 a false := fun w => by
  have := notNeg_walk a false _ _ w (by rw [← inf_list, bytes_ne]; exact decide_eq_false (fun e => h (.inl true) e)) (Lib.hid (parts_not h.rat ha))
  exact this
set_option maxRecDepth 100000 in
theorem positive_walk (a : ByteArray) (c : Int) (k : Bool) (w : World) (C : Hid (CmpCall a ⟨#[48]⟩ c)) (hk : decide (0 < c) = k) :
    Calls Tryz.prog 99 #[.string a] w (ValPost (.bool k) w) := by
  go_enter Tryz.func99, Tryz.ntmps99
  go_wp2_with fail
  refine (C.out _).mono ?_
  rintro e w1 ⟨rfl, hg⟩
  have G1 := Lib.hid hg
  clear hg
  go_wp2
  go_ret
  exact ⟨by first | rfl | rw [← hk] | simp_all, G1.out⟩
theorem zero_len : zeroS.size ≤ maxLen := by decide
theorem positive_val {a : ByteArray} {v : Ext} (h : IsE a v) : ValueIs 99 a (wgtE 2 v) := fun w => by
  rcases v with (_ | _) | x
  · exact positive_walk a 0 false w (Lib.hid fun w => ratcmp_no (IsE.len (v := .inl false) h) zero_len (.inl (by cases h; exact notrat_low)) w) rfl
  · exact positive_walk a 0 false w (Lib.hid fun w => ratcmp_no (IsE.len (v := .inl true) h) zero_len (.inl (by cases h; exact notrat_inf)) w) rfl
  · refine positive_walk a _ _ w (Lib.hid fun w => ratcmp_yes h zero_rat w) ?_
    rw [show wgtE 2 (.inr x) = decide (0 < x) by simp [wgtE]]
    exact decide_eq_decide.2 (cmpQ_pos x 0)
theorem positive_no {a : ByteArray} (h : NoExt a) (ha : a.size ≤ maxLen) : ValueIs 99 a false := fun w =>
  positive_walk a 0 false w (Lib.hid fun w => ratcmp_no ha zero_len (.inl h.rat) w) rfl
theorem ratval_val {a : ByteArray} {v : Ext} (h : IsE a v) : ValueIs 92 a (wgtE 1 v) := fun w => by
  rcases v with (_ | _) | x
  · exact ratvalid_no (by cases h; exact notrat_low) (IsE.len (v := .inl false) h) w
  · exact ratvalid_no (by cases h; exact notrat_inf) (IsE.len (v := .inl true) h) w
  · exact ratvalid_yes h w
end Go.Proofs.YtbmonhnojkiapaaGreatDoor
set_option linter.unusedVariables false
set_option linter.unusedSimpArgs false
namespace Go.Proofs.YtbmonhnojkiapaaGreatDoor
open Go.RowKit
open Go.Lib (nDigits decDigits)

end Go.Proofs.YtbmonhnojkiapaaGreatDoor
