/- What the reference's Same, SameRunes and Copy do: two slices are the same just if they hold the same numbers; a copy is one's own. -/
--@optional
import Derived.Test.YtibkkdbjmcongaaDoorLaws
namespace Go.Proofs.YtibkkdbjmcongaaDoor
open Go.RowKit
set_option linter.unusedVariables false

theorem info_i32 : (Tryd.prog.info? 21).map (fun i => (i.zero, i.size, i.bytes)) = some (some (.int .i32 0), 1, 4) := by kernel_rfl
theorem info_u8 : (Tryd.prog.info? 5).map (fun i => (i.zero, i.size, i.bytes)) = some (some (.int .u8 0), 1, 1) := by kernel_rfl

end Go.Proofs.YtibkkdbjmcongaaDoor
