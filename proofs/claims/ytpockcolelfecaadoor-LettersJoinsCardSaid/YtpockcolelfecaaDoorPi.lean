/- Plain Lean: the values at the examples that awake asks for. -/
import Derived.Test.YtpockcolelfecaaDoorPh
import Derived.KernelRfl
set_option linter.unusedVariables false
set_option linter.unusedSimpArgs false
namespace Go.Proofs.YtpockcolelfecaaDoor

theorem aw_1 : splitL ⟨#[97, 195, 169, 226, 130, 172]⟩ = ([⟨#[97]⟩, ⟨#[195, 169]⟩, ⟨#[226, 130, 172]⟩], 0, 0) := by kernel_rfl
theorem aw_2 : splitL ⟨#[97, 195, 98]⟩ = ([], 1, 3) := by kernel_rfl
theorem aw_3 : unqL ⟨#[37, 120, 48, 97, 37, 45]⟩ = some [10, 45] := by kernel_rfl
theorem aw_5 : chS lowR ⟨#[195, 128, 66, 195, 151]⟩ = [195, 160, 98, 195, 151] := by kernel_rfl
theorem aw_6 : chS upR ⟨#[195, 159, 195, 191, 195, 169]⟩ = [195, 159, 195, 191, 195, 137] := by kernel_rfl
theorem aw_7 : quoteL ⟨#[97, 45, 98, 10, 53, 37]⟩ = [97, 37, 45, 98, 37, 120, 48, 97, 53, 37, 37] := by kernel_rfl
theorem aw_8 : Lib.compareBytes [97] [97, 98] = -1 := by decide
end Go.Proofs.YtpockcolelfecaaDoor
