/- What the rows' lists give: the powers of ten. -/
import Derived.Test.YtlkjfhidicgjiaaDoorFr
import Derived.Test.YtlkjfhidicgjiaaDoorLv
set_option linter.unusedVariables false
set_option linter.unusedSimpArgs false
namespace Go.Proofs.YtlkjfhidicgjiaaDoor
open Go.ChangeShapes Go.WideShapes Go.ChangeAt Go.RowKit Go.Lib

theorem pow_of {W : World} {l : List (String × DataW Unit)} (hp : (l.all fun x => x.2.handleName?.isNone) = true) (hm : ("internal/strconv.uint64pow10", Rows.laid_internal_strconv_uint64pow10) ∈ l)
    (h : laidMetH Tryd.prog l W) : PowTab W := by
  rw [MakeChecks.laidMetH_plain _ _ _ hp] at h
  have hf : VarReads Tryd.prog W "internal/strconv.uint64pow10" Rows.laid_internal_strconv_uint64pow10 := laidMet.reads h hm
  obtain ⟨g, t, cs, fuel, p, hg, hty, hvar, hd⟩ := hf
  have hg0 : Tryd.prog.globalNamed "internal/strconv.uint64pow10" = some 1 := by kernel_rfl
  have hty0 : (Tryd.prog.globals[1]?).map (·.type) = some 84 := by kernel_rfl
  obtain rfl := Option.some.inj (hg0.symm.trans hg)
  obtain rfl := Option.some.inj (hty0.symm.trans hty)
  have e1 : (Rows.laid_internal_strconv_uint64pow10 : DataW Unit) = Lib.tabData .u64 Lib.pow10Tab := by kernel_rfl
  rw [e1] at hd
  have hc := Lib.cells_of_tab (e := 22) (n := 20) (by kernel_rfl) (by kernel_rfl) (by kernel_rfl) (by kernel_rfl) hd
  unfold PowTab Lib.TabIs
  rw [hvar, ← hc]
end Go.Proofs.YtlkjfhidicgjiaaDoor
