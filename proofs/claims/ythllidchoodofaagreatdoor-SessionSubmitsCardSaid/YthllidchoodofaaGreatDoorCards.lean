/-
  DERIVED. GIVEN WITH THE SEED: THE CARDS: each row of YthllidchoodofaaGreatDoorRows.lean that lists a variable, with what it lists TIED to the program's text (the seventh form; the later family's looks); each row that meets fmt, with fmt's text TOLD by the authors' own Lean function (tested against real Go, not proved from fmt's source: count such statements apart). THE CARD IS WHAT COUNTS. Prove the row's statement (the work); the ties are given (YthllidchoodofaaGreatDoorTie.lean); close each card by the builder's one call (the guide's Derived/Test/ToyasCard.lean, 'card_holds'). Laid BY PROGRAM, IN A SANDBOX (cutbox-door.mjs). By AI agents, Wed Nov 11 2026. No macro, syntax, notation, axiom, sorry.
-/
import Derived.Test.YthllidchoodofaaGreatDoorRows
import GoSem.ClaimSeven
namespace Go.Proofs.YthllidchoodofaaGreatDoor
namespace Rows

/-- THE TIED CARD OF 'vouchsafelaw16.SessionSubmits'. -/
def sessionSubmitsCard : Claim7 := { stood := { row := sessionSubmitsRow, standIns := [], harness := (true, "c82708d24abf9e91c4eb2547e6b22d2b7f64a83f62394c335438864351ff52d5"), looks := false }, kinds := [], alts := [], laidByText := true, laidKinds := [.data, .pinned], laidTests := true, laidLooks := .later }
def SessionSubmitsCardSaid : Prop := Claim7.holds Tryz.pinned (.plain (OpenSpec.ofChange sessionSubmitsSpec)) sessionSubmitsCard

/-- THE SECOND FORM's CARD OF 'vouchsafelaw16.SessionSubmits'. -/
def sessionSubmitsUptoCard : Claim7 := { stood := { row := sessionSubmitsUptoRow, standIns := [], harness := (true, "c82708d24abf9e91c4eb2547e6b22d2b7f64a83f62394c335438864351ff52d5"), looks := false }, kinds := [], alts := [], laidByText := true, laidKinds := [.data, .pinned], laidTests := true, laidLooks := .later }
def SessionSubmitsUptoCardSaid : Prop := Claim7.holds Tryz.pinned (.plain (OpenSpec.upto sessionSubmitsSpec)) sessionSubmitsUptoCard
end Rows
end Go.Proofs.YthllidchoodofaaGreatDoor
