/-
  DERIVED. GIVEN WITH THE SEED: THE CARDS: each row of YthllidchoodofaaDoorRows.lean that lists a variable, with what it lists TIED to the program's text (the seventh form; the later family's looks); each row that meets fmt, with fmt's text TOLD by the authors' own Lean function (tested against real Go, not proved from fmt's source: count such statements apart). THE CARD IS WHAT COUNTS. Prove the row's statement (the work); the ties are given (YthllidchoodofaaDoorTie.lean); close each card by the builder's one call (the guide's Derived/Test/ToyasCard.lean, 'card_holds'). Laid BY PROGRAM, IN A SANDBOX (cutbox-door.mjs). By AI agents, Wed Nov 11 2026. No macro, syntax, notation, axiom, sorry.
-/
import Derived.Test.YthllidchoodofaaDoorRows
import GoSem.ClaimSeven
namespace Go.Proofs.YthllidchoodofaaDoor
namespace Rows

/-- THE TIED CARD OF 'vouchsafelaw16.SessionRequests'. -/
def sessionRequestsCard : Claim7 := { stood := { row := sessionRequestsRow, standIns := [], harness := (true, "a8fd5ebc6637788a9b315479737c088ee40073db94ad7e60c1177e793c434202"), looks := false }, kinds := [], alts := [], laidByText := true, laidKinds := [.data, .pinned], laidTests := true, laidLooks := .later }
def SessionRequestsCardSaid : Prop := Claim7.holds Tryd.pinned (.plain (OpenSpec.ofChange sessionRequestsSpec)) sessionRequestsCard

/-- THE TIED CARD OF 'vouchsafelaw16.SessionToken'. -/
def sessionTokenCard : Claim7 := { stood := { row := sessionTokenRow, standIns := [], harness := (true, "a8fd5ebc6637788a9b315479737c088ee40073db94ad7e60c1177e793c434202"), looks := false }, kinds := [], alts := [], laidByText := true, laidKinds := [.data, .pinned], laidTests := true, laidLooks := .later }
def SessionTokenCardSaid : Prop := Claim7.holds Tryd.pinned (.plain (OpenSpec.ofChange sessionTokenSpec)) sessionTokenCard

/-- THE TIED CARD OF 'vouchsafelaw16.SessionPrunes'. -/
def sessionPrunesCard : Claim7 := { stood := { row := sessionPrunesRow, standIns := [], harness := (true, "a8fd5ebc6637788a9b315479737c088ee40073db94ad7e60c1177e793c434202"), looks := false }, kinds := [], alts := [], laidByText := true, laidKinds := [.data, .pinned], laidTests := true, laidLooks := .later }
def SessionPrunesCardSaid : Prop := Claim7.holds Tryd.pinned (.plain (OpenSpec.ofChange sessionPrunesSpec)) sessionPrunesCard

/-- THE SECOND FORM's CARD OF 'vouchsafelaw16.SessionRequests'. -/
def sessionRequestsUptoCard : Claim7 := { stood := { row := sessionRequestsUptoRow, standIns := [], harness := (true, "a8fd5ebc6637788a9b315479737c088ee40073db94ad7e60c1177e793c434202"), looks := false }, kinds := [], alts := [], laidByText := true, laidKinds := [.data, .pinned], laidTests := true, laidLooks := .later }
def SessionRequestsUptoCardSaid : Prop := Claim7.holds Tryd.pinned (.plain (OpenSpec.upto sessionRequestsSpec)) sessionRequestsUptoCard

/-- THE SECOND FORM's CARD OF 'vouchsafelaw16.SessionToken'. -/
def sessionTokenUptoCard : Claim7 := { stood := { row := sessionTokenUptoRow, standIns := [], harness := (true, "a8fd5ebc6637788a9b315479737c088ee40073db94ad7e60c1177e793c434202"), looks := false }, kinds := [], alts := [], laidByText := true, laidKinds := [.data, .pinned], laidTests := true, laidLooks := .later }
def SessionTokenUptoCardSaid : Prop := Claim7.holds Tryd.pinned (.plain (OpenSpec.upto sessionTokenSpec)) sessionTokenUptoCard

/-- THE SECOND FORM's CARD OF 'vouchsafelaw16.SessionPrunes'. -/
def sessionPrunesUptoCard : Claim7 := { stood := { row := sessionPrunesUptoRow, standIns := [], harness := (true, "a8fd5ebc6637788a9b315479737c088ee40073db94ad7e60c1177e793c434202"), looks := false }, kinds := [], alts := [], laidByText := true, laidKinds := [.data, .pinned], laidTests := true, laidLooks := .later }
def SessionPrunesUptoCardSaid : Prop := Claim7.holds Tryd.pinned (.plain (OpenSpec.upto sessionPrunesSpec)) sessionPrunesUptoCard
end Rows
end Go.Proofs.YthllidchoodofaaDoor
