/-
  DERIVED. GIVEN WITH THE SEED: THE PROGRAM's TIES (one call each: nine closed facts by the kernel) AND EACH ROW's TIE, after the 31st guide's Derived/Test/Toyas{Tie, Card}.lean. No idea stands in it: it is a product of the set-up. Laid BY PROGRAM, IN A SANDBOX (cutbox-door.mjs). By AI agents, Wed Nov 11 2026. No macro, syntax, notation, axiom, sorry.
-/
import Derived.Test.YtbiboamaigedjaaDoorRows
import Derived.LaidByTextLater
import Derived.SevenTiedAt
import Derived.LaidSub
import Derived.LaidOnce
namespace Go.Proofs.YtbiboamaigedjaaDoor
open Go
set_option maxRecDepth 100000
theorem seatTie1 : Tryd.prog.laidByTextLater [("vouchsafe/field.rootOfMinusOne", Rows.laid_vouchsafe_field_rootOfMinusOne), ("vouchsafe/curve.d", Rows.laid_vouchsafe_curve_d), ("vouchsafe/curve.base", Rows.laid_vouchsafe_curve_base), ("vouchsafe/sha.cubes", Rows.laid_vouchsafe_sha_cubes), ("vouchsafe/sha.squares", Rows.laid_vouchsafe_sha_squares)] [.data, .data, .wider, .data, .data] true :=
  Program.laidByTextLater_by_one 36 8 81 (by kernel_rfl) (by kernel_rfl) (by kernel_rfl) (by kernel_rfl) (by kernel_rfl) (by kernel_rfl) (fun _ _ => by kernel_rfl)
theorem noOwnUnsafe : Tryd.pinned.checked.prog.headLifts.contains "ownunsafe" = false := by kernel_rfl
theorem tie : Tryd.prog.laidByTextLater [("vouchsafe/field.rootOfMinusOne", Rows.laid_vouchsafe_field_rootOfMinusOne), ("vouchsafe/curve.d", Rows.laid_vouchsafe_curve_d), ("vouchsafe/curve.base", Rows.laid_vouchsafe_curve_base), ("vouchsafe/sha.cubes", Rows.laid_vouchsafe_sha_cubes), ("vouchsafe/sha.squares", Rows.laid_vouchsafe_sha_squares)] [.data, .data, .wider, .data, .data] true :=
  Program.laidByTextLater.sub seatTie1 ["vouchsafe/field.rootOfMinusOne", "vouchsafe/curve.d", "vouchsafe/curve.base", "vouchsafe/sha.cubes", "vouchsafe/sha.squares"] (by kernel_rfl) (by kernel_rfl)
theorem edsigHolds_row_tie : Rows.edsigHoldsRow.laidByTextAt .later Tryd.pinned [.data, .data, .wider, .data, .data] true :=
  OpenClaim.laidByTextAt_later rfl rfl tie noOwnUnsafe
theorem edsigOne_row_tie : Rows.edsigOneRow.laidByTextAt .later Tryd.pinned [.data, .data, .wider, .data, .data] true :=
  OpenClaim.laidByTextAt_later rfl rfl tie noOwnUnsafe
theorem edsigKeys_row_tie : Rows.edsigKeysRow.laidByTextAt .later Tryd.pinned [.data, .data, .wider, .data, .data] true :=
  OpenClaim.laidByTextAt_later rfl rfl tie noOwnUnsafe
theorem edsigHoldsUpto_row_tie : Rows.edsigHoldsUptoRow.laidByTextAt .later Tryd.pinned [.data, .data, .wider, .data, .data] true :=
  OpenClaim.laidByTextAt_later rfl rfl tie noOwnUnsafe
theorem edsigOneUpto_row_tie : Rows.edsigOneUptoRow.laidByTextAt .later Tryd.pinned [.data, .data, .wider, .data, .data] true :=
  OpenClaim.laidByTextAt_later rfl rfl tie noOwnUnsafe
theorem edsigKeysUpto_row_tie : Rows.edsigKeysUptoRow.laidByTextAt .later Tryd.pinned [.data, .data, .wider, .data, .data] true :=
  OpenClaim.laidByTextAt_later rfl rfl tie noOwnUnsafe
end Go.Proofs.YtbiboamaigedjaaDoor
