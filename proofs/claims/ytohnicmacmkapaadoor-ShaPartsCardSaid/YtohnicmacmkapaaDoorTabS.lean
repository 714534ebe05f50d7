/- The row's condition on the two tables of sha, as the walks want it. -/
import Derived.Test.YtohnicmacmkapaaDoorShaB
import Derived.Test.YtohnicmacmkapaaDoorRows
import Derived.Lib.LaidTab
import Derived.ChangeSame
import Derived.Stop.LaidErr
import Derived.MakeChecks
namespace Go.Proofs.YtohnicmacmkapaaDoor
open Go.RowKit
set_option linter.unusedVariables false
set_option maxRecDepth 8000

theorem tab_of_two {W : World} (hL : laidMet Tryd.prog [("vouchsafe/sha.cubes", Rows.laid_vouchsafe_sha_cubes), ("vouchsafe/sha.squares", Rows.laid_vouchsafe_sha_squares)] W) : TabS W := by
  have h : Go.Lib.TabIs Tryd.prog W "vouchsafe/sha.cubes" .u64 cubesL :=
    Go.Lib.tabIs_of_head (g := 3) (t := 61) (e := 49) (n := 80) (by kernel_rfl) (by kernel_rfl) Tryd.underlying61 Tryd.underlying49 (by kernel_rfl) (by kernel_rfl) hL
  have h2 : laidMet Tryd.prog [("vouchsafe/sha.squares", Rows.laid_vouchsafe_sha_squares)] W := laidMet.tail hL
  have hs : Go.Lib.TabIs Tryd.prog W "vouchsafe/sha.squares" .u64 squaresL :=
    Go.Lib.tabIs_of_head (g := 0) (t := 52) (e := 49) (n := 8) (by kernel_rfl) (by kernel_rfl) Tryd.underlying52 Tryd.underlying49 (by kernel_rfl) (by kernel_rfl) h2
  have g1 : Tryd.prog.globalNamed "vouchsafe/sha.cubes" = some 3 := by kernel_rfl
  have g2 : Tryd.prog.globalNamed "vouchsafe/sha.squares" = some 0 := by kernel_rfl
  refine ⟨fun k hk => ?_, fun k hk => ?_⟩
  · rw [hs.cell g2 k hk]
    simp [at0, List.getD_eq_getElem?_getD]
  · rw [h.cell g1 k hk]
    simp [at0, List.getD_eq_getElem?_getD]
theorem tab_of_laid {W : World} (hL : laidMetH Tryd.prog Rows.shaDigitsRow.laid W) : TabS W := by
  rw [MakeChecks.laidMetH_plain _ _ _ (by kernel_rfl)] at hL
  exact tab_of_two hL
end Go.Proofs.YtohnicmacmkapaaDoor
