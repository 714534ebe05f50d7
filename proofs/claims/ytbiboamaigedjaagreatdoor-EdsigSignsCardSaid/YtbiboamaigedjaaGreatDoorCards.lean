/-
  DERIVED. GIVEN WITH THE SEED: THE CARDS: each row of YtbiboamaigedjaaGreatDoorRows.lean that lists a variable, with what it lists TIED to the program's text (the seventh form; the later family's looks); each row that meets fmt, with fmt's text TOLD by the authors' own Lean function (tested against real Go, not proved from fmt's source: count such statements apart). THE CARD IS WHAT COUNTS. Prove the row's statement (the work); the ties are given (YtbiboamaigedjaaGreatDoorTie.lean); close each card by the builder's one call (the guide's Derived/Test/ToyasCard.lean, 'card_holds'). Laid BY PROGRAM, IN A SANDBOX (cutbox-door.mjs). By AI agents, Wed Nov 11 2026. No macro, syntax, notation, axiom, sorry.
-/
import Derived.Test.YtbiboamaigedjaaGreatDoorRows
import GoSem.ClaimSeven
namespace Go.Proofs.YtbiboamaigedjaaGreatDoor
namespace Rows

/-- THE TIED CARD OF 'vouchsafelaw11.EdsigSigns'. -/
def edsigSignsCard : Claim7 := { stood := { row := edsigSignsRow, standIns := [], harness := (true, "b7afc4c189eb2cec5478d85ccb20860044aabe4e68424c9b75ee0a86defedaa6"), looks := false }, kinds := [], alts := [], laidByText := true, laidKinds := [.data, .data, .wider, .data, .data, .data, .data], laidTests := true, laidLooks := .later }
def EdsigSignsCardSaid : Prop := Claim7.holds Tryz.pinned (.plain (OpenSpec.ofChange edsigSignsSpec)) edsigSignsCard

/-- THE TIED CARD OF 'vouchsafelaw11.EdsigVerifies'. -/
def edsigVerifiesCard : Claim7 := { stood := { row := edsigVerifiesRow, standIns := [], harness := (true, "b7afc4c189eb2cec5478d85ccb20860044aabe4e68424c9b75ee0a86defedaa6"), looks := false }, kinds := [], alts := [], laidByText := true, laidKinds := [.data, .data, .wider, .data, .data, .data, .data], laidTests := true, laidLooks := .later }
def EdsigVerifiesCardSaid : Prop := Claim7.holds Tryz.pinned (.plain (OpenSpec.ofChange edsigVerifiesSpec)) edsigVerifiesCard

/-- THE SECOND FORM's CARD OF 'vouchsafelaw11.EdsigSigns'. -/
def edsigSignsUptoCard : Claim7 := { stood := { row := edsigSignsUptoRow, standIns := [], harness := (true, "b7afc4c189eb2cec5478d85ccb20860044aabe4e68424c9b75ee0a86defedaa6"), looks := false }, kinds := [], alts := [], laidByText := true, laidKinds := [.data, .data, .wider, .data, .data, .data, .data], laidTests := true, laidLooks := .later }
def EdsigSignsUptoCardSaid : Prop := Claim7.holds Tryz.pinned (.plain (OpenSpec.upto edsigSignsSpec)) edsigSignsUptoCard

/-- THE SECOND FORM's CARD OF 'vouchsafelaw11.EdsigVerifies'. -/
def edsigVerifiesUptoCard : Claim7 := { stood := { row := edsigVerifiesUptoRow, standIns := [], harness := (true, "b7afc4c189eb2cec5478d85ccb20860044aabe4e68424c9b75ee0a86defedaa6"), looks := false }, kinds := [], alts := [], laidByText := true, laidKinds := [.data, .data, .wider, .data, .data, .data, .data], laidTests := true, laidLooks := .later }
def EdsigVerifiesUptoCardSaid : Prop := Claim7.holds Tryz.pinned (.plain (OpenSpec.upto edsigVerifiesSpec)) edsigVerifiesUptoCard
end Rows
end Go.Proofs.YtbiboamaigedjaaGreatDoor
