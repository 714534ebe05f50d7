/-
  DERIVED. GIVEN WITH THE SEED: THE CARDS: each row of YtghpdnfdbhjmpaaDoorRows.lean that lists a variable, with what it lists TIED to the program's text (the seventh form; the later family's looks); each row that meets fmt, with fmt's text TOLD by the authors' own Lean function (tested against real Go, not proved from fmt's source: count such statements apart). THE CARD IS WHAT COUNTS. Prove the row's statement (the work); the ties are given (YtghpdnfdbhjmpaaDoorTie.lean); close each card by the builder's one call (the guide's Derived/Test/ToyasCard.lean, 'card_holds'). Laid BY PROGRAM, IN A SANDBOX (cutbox-door.mjs). By AI agents, Wed Nov 11 2026. No macro, syntax, notation, axiom, sorry.
-/
import Derived.Test.YtghpdnfdbhjmpaaDoorRows
import GoSem.ClaimSeven
namespace Go.Proofs.YtghpdnfdbhjmpaaDoor
namespace Rows

/-- THE TIED CARD OF 'vouchsafelaw03.CanonPrints'. -/
def canonPrintsCard : Claim7 := { stood := { row := canonPrintsRow, standIns := [], harness := (true, "76c307c89bf6a9de7396998058b24424108f4329883c05b2d47673a7d43a3dc7"), looks := false }, kinds := [], alts := [], laidByText := true, laidKinds := [.data, .data, .data], laidTests := true, laidLooks := .later }
def CanonPrintsCardSaid : Prop := Claim7.holds Tryd.pinned (.plain (OpenSpec.ofChange canonPrintsSpec)) canonPrintsCard

/-- THE TIED CARD OF 'vouchsafelaw03.CanonBack'. -/
def canonBackCard : Claim7 := { stood := { row := canonBackRow, standIns := [], harness := (true, "76c307c89bf6a9de7396998058b24424108f4329883c05b2d47673a7d43a3dc7"), looks := false }, kinds := [], alts := [], laidByText := true, laidKinds := [.data, .data, .data], laidTests := true, laidLooks := .later }
def CanonBackCardSaid : Prop := Claim7.holds Tryd.pinned (.plain (OpenSpec.ofChange canonBackSpec)) canonBackCard

/-- THE TIED CARD OF 'vouchsafelaw03.CanonOne'. -/
def canonOneCard : Claim7 := { stood := { row := canonOneRow, standIns := [], harness := (true, "76c307c89bf6a9de7396998058b24424108f4329883c05b2d47673a7d43a3dc7"), looks := false }, kinds := [], alts := [], laidByText := true, laidKinds := [.data, .data, .data], laidTests := true, laidLooks := .later }
def CanonOneCardSaid : Prop := Claim7.holds Tryd.pinned (.plain (OpenSpec.ofChange canonOneSpec)) canonOneCard

/-- THE TIED CARD OF 'vouchsafelaw03.CanonQuotes'. -/
def canonQuotesCard : Claim7 := { stood := { row := canonQuotesRow, standIns := [], harness := (true, "76c307c89bf6a9de7396998058b24424108f4329883c05b2d47673a7d43a3dc7"), looks := false }, kinds := [], alts := [], laidByText := true, laidKinds := [.data, .data, .data], laidTests := true, laidLooks := .later }
def CanonQuotesCardSaid : Prop := Claim7.holds Tryd.pinned (.plain (OpenSpec.ofChange canonQuotesSpec)) canonQuotesCard

/-- THE TIED CARD OF 'vouchsafelaw03.CanonLong'. -/
def canonLongCard : Claim7 := { stood := { row := canonLongRow, standIns := [], harness := (true, "76c307c89bf6a9de7396998058b24424108f4329883c05b2d47673a7d43a3dc7"), looks := false }, kinds := [], alts := [], laidByText := true, laidKinds := [.data, .data, .data], laidTests := true, laidLooks := .later }
def CanonLongCardSaid : Prop := Claim7.holds Tryd.pinned (.plain (OpenSpec.ofChange canonLongSpec)) canonLongCard

/-- THE SECOND FORM's CARD OF 'vouchsafelaw03.CanonPrints'. -/
def canonPrintsUptoCard : Claim7 := { stood := { row := canonPrintsUptoRow, standIns := [], harness := (true, "76c307c89bf6a9de7396998058b24424108f4329883c05b2d47673a7d43a3dc7"), looks := false }, kinds := [], alts := [], laidByText := true, laidKinds := [.data, .data, .data], laidTests := true, laidLooks := .later }
def CanonPrintsUptoCardSaid : Prop := Claim7.holds Tryd.pinned (.plain (OpenSpec.upto canonPrintsSpec)) canonPrintsUptoCard

/-- THE SECOND FORM's CARD OF 'vouchsafelaw03.CanonBack'. -/
def canonBackUptoCard : Claim7 := { stood := { row := canonBackUptoRow, standIns := [], harness := (true, "76c307c89bf6a9de7396998058b24424108f4329883c05b2d47673a7d43a3dc7"), looks := false }, kinds := [], alts := [], laidByText := true, laidKinds := [.data, .data, .data], laidTests := true, laidLooks := .later }
def CanonBackUptoCardSaid : Prop := Claim7.holds Tryd.pinned (.plain (OpenSpec.upto canonBackSpec)) canonBackUptoCard

/-- THE SECOND FORM's CARD OF 'vouchsafelaw03.CanonOne'. -/
def canonOneUptoCard : Claim7 := { stood := { row := canonOneUptoRow, standIns := [], harness := (true, "76c307c89bf6a9de7396998058b24424108f4329883c05b2d47673a7d43a3dc7"), looks := false }, kinds := [], alts := [], laidByText := true, laidKinds := [.data, .data, .data], laidTests := true, laidLooks := .later }
def CanonOneUptoCardSaid : Prop := Claim7.holds Tryd.pinned (.plain (OpenSpec.upto canonOneSpec)) canonOneUptoCard

/-- THE SECOND FORM's CARD OF 'vouchsafelaw03.CanonQuotes'. -/
def canonQuotesUptoCard : Claim7 := { stood := { row := canonQuotesUptoRow, standIns := [], harness := (true, "76c307c89bf6a9de7396998058b24424108f4329883c05b2d47673a7d43a3dc7"), looks := false }, kinds := [], alts := [], laidByText := true, laidKinds := [.data, .data, .data], laidTests := true, laidLooks := .later }
def CanonQuotesUptoCardSaid : Prop := Claim7.holds Tryd.pinned (.plain (OpenSpec.upto canonQuotesSpec)) canonQuotesUptoCard

/-- THE SECOND FORM's CARD OF 'vouchsafelaw03.CanonLong'. -/
def canonLongUptoCard : Claim7 := { stood := { row := canonLongUptoRow, standIns := [], harness := (true, "76c307c89bf6a9de7396998058b24424108f4329883c05b2d47673a7d43a3dc7"), looks := false }, kinds := [], alts := [], laidByText := true, laidKinds := [.data, .data, .data], laidTests := true, laidLooks := .later }
def CanonLongUptoCardSaid : Prop := Claim7.holds Tryd.pinned (.plain (OpenSpec.upto canonLongSpec)) canonLongUptoCard
end Rows
end Go.Proofs.YtghpdnfdbhjmpaaDoor
