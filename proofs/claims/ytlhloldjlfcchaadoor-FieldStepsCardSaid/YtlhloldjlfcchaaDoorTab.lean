/- The row's condition on rootOfMinusOne, as the walks want it. -/
import Derived.Test.YtlhloldjlfcchaaDoorFM
import Derived.Test.YtlhloldjlfcchaaDoorRows
import Derived.Lib.LaidTab
import Derived.MakeChecks
namespace Go.Proofs.YtlhloldjlfcchaaDoor
open Go.RowKit Go.Shelf
set_option linter.unusedVariables false

theorem tab_of_laid {W : World} (hL : laidMetH Tryd.prog Rows.fieldSumsRow.laid W) : Tab W := by
  rw [MakeChecks.laidMetH_plain _ _ _ (by kernel_rfl)] at hL
  have h : Go.Lib.TabIs Tryd.prog W "vouchsafe/field.rootOfMinusOne" .u64 rootL :=
    Go.Lib.tabIs_of_head (g := 0) (t := 38) (e := 33) (n := 5) (by kernel_rfl) (by kernel_rfl) und_limbs (by kernel_rfl) (by kernel_rfl) (by kernel_rfl) hL
  have hg : Tryd.prog.globalNamed "vouchsafe/field.rootOfMinusOne" = some 0 := by kernel_rfl
  exact ⟨h.cell hg 0 (by decide), h.cell hg 1 (by decide), h.cell hg 2 (by decide), h.cell hg 3 (by decide), h.cell hg 4 (by decide)⟩
end Go.Proofs.YtlhloldjlfcchaaDoor
