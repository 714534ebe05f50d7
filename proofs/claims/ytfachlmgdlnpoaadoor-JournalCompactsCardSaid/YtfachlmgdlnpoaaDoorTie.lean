/-
  DERIVED. GIVEN WITH THE SEED: THE PROGRAM's TIES (one call each: nine closed facts by the kernel) AND EACH ROW's TIE, after the 31st guide's Derived/Test/Toyas{Tie, Card}.lean. No idea stands in it: it is a product of the set-up. Laid BY PROGRAM, IN A SANDBOX (cutbox-door.mjs). By AI agents, Wed Nov 11 2026. No macro, syntax, notation, axiom, sorry.
-/
import Derived.Test.YtfachlmgdlnpoaaDoorRows
import Derived.LaidByTextLater
import Derived.SevenTiedAt
import Derived.LaidSub
import Derived.LaidOnce
namespace Go.Proofs.YtfachlmgdlnpoaaDoor
open Go
set_option maxRecDepth 100000
theorem seatTie1 : Tryd.prog.laidByTextLater [("vouchsafe/sha.cubes", Rows.laid_vouchsafe_sha_cubes), ("vouchsafe/sha.squares", Rows.laid_vouchsafe_sha_squares), ("vouchsafe/vouchsaferef07.roots", Rows.laid_vouchsafe_vouchsaferef07_roots), ("vouchsafe/vouchsaferef07.begins", Rows.laid_vouchsafe_vouchsaferef07_begins)] [.data, .data, .data, .data] true :=
  Program.laidByTextLater_by_one 29 8 81 (by kernel_rfl) (by kernel_rfl) (by kernel_rfl) (by kernel_rfl) (by kernel_rfl) (by kernel_rfl) (fun _ _ => by kernel_rfl)
theorem noOwnUnsafe : Tryd.pinned.checked.prog.headLifts.contains "ownunsafe" = false := by kernel_rfl
theorem tie : Tryd.prog.laidByTextLater [("vouchsafe/sha.cubes", Rows.laid_vouchsafe_sha_cubes), ("vouchsafe/sha.squares", Rows.laid_vouchsafe_sha_squares), ("vouchsafe/vouchsaferef07.roots", Rows.laid_vouchsafe_vouchsaferef07_roots), ("vouchsafe/vouchsaferef07.begins", Rows.laid_vouchsafe_vouchsaferef07_begins)] [.data, .data, .data, .data] true :=
  Program.laidByTextLater.sub seatTie1 ["vouchsafe/sha.cubes", "vouchsafe/sha.squares", "vouchsafe/vouchsaferef07.roots", "vouchsafe/vouchsaferef07.begins"] (by kernel_rfl) (by kernel_rfl)
theorem journalOpens_row_tie : Rows.journalOpensRow.laidByTextAt .later Tryd.pinned [.data, .data, .data, .data] true :=
  OpenClaim.laidByTextAt_later rfl rfl tie noOwnUnsafe
theorem journalAppends_row_tie : Rows.journalAppendsRow.laidByTextAt .later Tryd.pinned [.data, .data, .data, .data] true :=
  OpenClaim.laidByTextAt_later rfl rfl tie noOwnUnsafe
theorem journalCompacts_row_tie : Rows.journalCompactsRow.laidByTextAt .later Tryd.pinned [.data, .data, .data, .data] true :=
  OpenClaim.laidByTextAt_later rfl rfl tie noOwnUnsafe
theorem journalLasts_row_tie : Rows.journalLastsRow.laidByTextAt .later Tryd.pinned [.data, .data, .data, .data] true :=
  OpenClaim.laidByTextAt_later rfl rfl tie noOwnUnsafe
theorem tie2 : Tryd.prog.laidByTextLater [("vouchsafe/sha.cubes", Rows.laid_vouchsafe_sha_cubes), ("vouchsafe/sha.squares", Rows.laid_vouchsafe_sha_squares)] [.data, .data] true :=
  Program.laidByTextLater.sub seatTie1 ["vouchsafe/sha.cubes", "vouchsafe/sha.squares"] (by kernel_rfl) (by kernel_rfl)
theorem journalAgain_row_tie : Rows.journalAgainRow.laidByTextAt .later Tryd.pinned [.data, .data] true :=
  OpenClaim.laidByTextAt_later rfl rfl tie2 noOwnUnsafe
theorem journalFills_row_tie : Rows.journalFillsRow.laidByTextAt .later Tryd.pinned [.data, .data] true :=
  OpenClaim.laidByTextAt_later rfl rfl tie2 noOwnUnsafe
theorem journalOpensUpto_row_tie : Rows.journalOpensUptoRow.laidByTextAt .later Tryd.pinned [.data, .data, .data, .data] true :=
  OpenClaim.laidByTextAt_later rfl rfl tie noOwnUnsafe
theorem journalAppendsUpto_row_tie : Rows.journalAppendsUptoRow.laidByTextAt .later Tryd.pinned [.data, .data, .data, .data] true :=
  OpenClaim.laidByTextAt_later rfl rfl tie noOwnUnsafe
theorem journalCompactsUpto_row_tie : Rows.journalCompactsUptoRow.laidByTextAt .later Tryd.pinned [.data, .data, .data, .data] true :=
  OpenClaim.laidByTextAt_later rfl rfl tie noOwnUnsafe
theorem journalLastsUpto_row_tie : Rows.journalLastsUptoRow.laidByTextAt .later Tryd.pinned [.data, .data, .data, .data] true :=
  OpenClaim.laidByTextAt_later rfl rfl tie noOwnUnsafe
theorem journalAgainUpto_row_tie : Rows.journalAgainUptoRow.laidByTextAt .later Tryd.pinned [.data, .data] true :=
  OpenClaim.laidByTextAt_later rfl rfl tie2 noOwnUnsafe
theorem journalFillsUpto_row_tie : Rows.journalFillsUptoRow.laidByTextAt .later Tryd.pinned [.data, .data] true :=
  OpenClaim.laidByTextAt_later rfl rfl tie2 noOwnUnsafe
end Go.Proofs.YtfachlmgdlnpoaaDoor
