/-
  DERIVED. GIVEN WITH THE SEED: THE CARDS: each row of YtbiboamaigedjaaDoorRows.lean that lists a variable, with what it lists TIED to the program's text (the seventh form; the later family's looks); each row that meets fmt, with fmt's text TOLD by the authors' own Lean function (tested against real Go, not proved from fmt's source: count such statements apart). THE CARD IS WHAT COUNTS. Prove the row's statement (the work); the ties are given (YtbiboamaigedjaaDoorTie.lean); close each card by the builder's one call (the guide's Derived/Test/ToyasCard.lean, 'card_holds'). Laid BY PROGRAM, IN A SANDBOX (cutbox-door.mjs). By AI agents, Wed Nov 11 2026. No macro, syntax, notation, axiom, sorry.
-/
import Derived.Test.YtbiboamaigedjaaDoorRows
import GoSem.ClaimSeven
namespace Go.Proofs.YtbiboamaigedjaaDoor
namespace Rows

/-- THE TIED CARD OF 'vouchsafelaw11.EdsigHolds'. -/
def edsigHoldsCard : Claim7 := { stood := { row := edsigHoldsRow, standIns := [], harness := (true, "e42f279e5c07b0af864d38699f5b99199ddf173befbf1434c9d7bf9a6347b7c2"), looks := false }, kinds := [], alts := [], laidByText := true, laidKinds := [.data, .data, .wider, .data, .data], laidTests := true, laidLooks := .later }
def EdsigHoldsCardSaid : Prop := Claim7.holds Tryd.pinned (.plain (OpenSpec.ofChange edsigHoldsSpec)) edsigHoldsCard

/-- THE TIED CARD OF 'vouchsafelaw11.EdsigOne'. -/
def edsigOneCard : Claim7 := { stood := { row := edsigOneRow, standIns := [], harness := (true, "e42f279e5c07b0af864d38699f5b99199ddf173befbf1434c9d7bf9a6347b7c2"), looks := false }, kinds := [], alts := [], laidByText := true, laidKinds := [.data, .data, .wider, .data, .data], laidTests := true, laidLooks := .later }
def EdsigOneCardSaid : Prop := Claim7.holds Tryd.pinned (.plain (OpenSpec.ofChange edsigOneSpec)) edsigOneCard

/-- THE TIED CARD OF 'vouchsafelaw11.EdsigKeys'. -/
def edsigKeysCard : Claim7 := { stood := { row := edsigKeysRow, standIns := [], harness := (true, "e42f279e5c07b0af864d38699f5b99199ddf173befbf1434c9d7bf9a6347b7c2"), looks := false }, kinds := [], alts := [], laidByText := true, laidKinds := [.data, .data, .wider, .data, .data], laidTests := true, laidLooks := .later }
def EdsigKeysCardSaid : Prop := Claim7.holds Tryd.pinned (.plain (OpenSpec.ofChange edsigKeysSpec)) edsigKeysCard

/-- THE SECOND FORM's CARD OF 'vouchsafelaw11.EdsigHolds'. -/
def edsigHoldsUptoCard : Claim7 := { stood := { row := edsigHoldsUptoRow, standIns := [], harness := (true, "e42f279e5c07b0af864d38699f5b99199ddf173befbf1434c9d7bf9a6347b7c2"), looks := false }, kinds := [], alts := [], laidByText := true, laidKinds := [.data, .data, .wider, .data, .data], laidTests := true, laidLooks := .later }
def EdsigHoldsUptoCardSaid : Prop := Claim7.holds Tryd.pinned (.plain (OpenSpec.upto edsigHoldsSpec)) edsigHoldsUptoCard

/-- THE SECOND FORM's CARD OF 'vouchsafelaw11.EdsigOne'. -/
def edsigOneUptoCard : Claim7 := { stood := { row := edsigOneUptoRow, standIns := [], harness := (true, "e42f279e5c07b0af864d38699f5b99199ddf173befbf1434c9d7bf9a6347b7c2"), looks := false }, kinds := [], alts := [], laidByText := true, laidKinds := [.data, .data, .wider, .data, .data], laidTests := true, laidLooks := .later }
def EdsigOneUptoCardSaid : Prop := Claim7.holds Tryd.pinned (.plain (OpenSpec.upto edsigOneSpec)) edsigOneUptoCard

/-- THE SECOND FORM's CARD OF 'vouchsafelaw11.EdsigKeys'. -/
def edsigKeysUptoCard : Claim7 := { stood := { row := edsigKeysUptoRow, standIns := [], harness := (true, "e42f279e5c07b0af864d38699f5b99199ddf173befbf1434c9d7bf9a6347b7c2"), looks := false }, kinds := [], alts := [], laidByText := true, laidKinds := [.data, .data, .wider, .data, .data], laidTests := true, laidLooks := .later }
def EdsigKeysUptoCardSaid : Prop := Claim7.holds Tryd.pinned (.plain (OpenSpec.upto edsigKeysSpec)) edsigKeysUptoCard
end Rows
end Go.Proofs.YtbiboamaigedjaaDoor
