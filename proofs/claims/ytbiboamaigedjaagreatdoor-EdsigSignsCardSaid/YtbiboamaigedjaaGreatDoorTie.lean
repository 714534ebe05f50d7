/-
  DERIVED. GIVEN WITH THE SEED: THE PROGRAM's TIES (one call each: nine closed facts by the kernel) AND EACH ROW's TIE, after the 31st guide's Derived/Test/Toyas{Tie, Card}.lean. No idea stands in it: it is a product of the set-up. Laid BY PROGRAM, IN A SANDBOX (cutbox-door.mjs). By AI agents, Wed Nov 11 2026. No macro, syntax, notation, axiom, sorry.
-/
import Derived.Test.YtbiboamaigedjaaGreatDoorRows
import Derived.LaidByTextLater
import Derived.SevenTiedAt
import Derived.LaidSub
import Derived.LaidOnce
namespace Go.Proofs.YtbiboamaigedjaaGreatDoor
open Go
set_option maxRecDepth 100000
theorem seatTie1 : Tryz.prog.laidByTextLater [("vouchsafe/field.rootOfMinusOne", Rows.laid_vouchsafe_field_rootOfMinusOne), ("vouchsafe/curve.d", Rows.laid_vouchsafe_curve_d), ("vouchsafe/curve.base", Rows.laid_vouchsafe_curve_base), ("vouchsafe/sha.cubes", Rows.laid_vouchsafe_sha_cubes), ("vouchsafe/sha.squares", Rows.laid_vouchsafe_sha_squares), ("vouchsafe/vouchsaferef07.roots", Rows.laid_vouchsafe_vouchsaferef07_roots), ("vouchsafe/vouchsaferef07.begins", Rows.laid_vouchsafe_vouchsaferef07_begins)] [.data, .data, .wider, .data, .data, .data, .data] true :=
  Program.laidByTextLater_by_one 46 8 81 (by kernel_rfl) (by kernel_rfl) (by kernel_rfl) (by kernel_rfl) (by kernel_rfl) (by kernel_rfl) (fun _ _ => by kernel_rfl)
theorem noOwnUnsafe : Tryz.pinned.checked.prog.headLifts.contains "ownunsafe" = false := by kernel_rfl
theorem tie : Tryz.prog.laidByTextLater [("vouchsafe/field.rootOfMinusOne", Rows.laid_vouchsafe_field_rootOfMinusOne), ("vouchsafe/curve.d", Rows.laid_vouchsafe_curve_d), ("vouchsafe/curve.base", Rows.laid_vouchsafe_curve_base), ("vouchsafe/sha.cubes", Rows.laid_vouchsafe_sha_cubes), ("vouchsafe/sha.squares", Rows.laid_vouchsafe_sha_squares), ("vouchsafe/vouchsaferef07.roots", Rows.laid_vouchsafe_vouchsaferef07_roots), ("vouchsafe/vouchsaferef07.begins", Rows.laid_vouchsafe_vouchsaferef07_begins)] [.data, .data, .wider, .data, .data, .data, .data] true :=
  Program.laidByTextLater.sub seatTie1 ["vouchsafe/field.rootOfMinusOne", "vouchsafe/curve.d", "vouchsafe/curve.base", "vouchsafe/sha.cubes", "vouchsafe/sha.squares", "vouchsafe/vouchsaferef07.roots", "vouchsafe/vouchsaferef07.begins"] (by kernel_rfl) (by kernel_rfl)
theorem edsigSigns_row_tie : Rows.edsigSignsRow.laidByTextAt .later Tryz.pinned [.data, .data, .wider, .data, .data, .data, .data] true :=
  OpenClaim.laidByTextAt_later rfl rfl tie noOwnUnsafe
theorem edsigVerifies_row_tie : Rows.edsigVerifiesRow.laidByTextAt .later Tryz.pinned [.data, .data, .wider, .data, .data, .data, .data] true :=
  OpenClaim.laidByTextAt_later rfl rfl tie noOwnUnsafe
theorem edsigSignsUpto_row_tie : Rows.edsigSignsUptoRow.laidByTextAt .later Tryz.pinned [.data, .data, .wider, .data, .data, .data, .data] true :=
  OpenClaim.laidByTextAt_later rfl rfl tie noOwnUnsafe
theorem edsigVerifiesUpto_row_tie : Rows.edsigVerifiesUptoRow.laidByTextAt .later Tryz.pinned [.data, .data, .wider, .data, .data, .data, .data] true :=
  OpenClaim.laidByTextAt_later rfl rfl tie noOwnUnsafe
end Go.Proofs.YtbiboamaigedjaaGreatDoor
