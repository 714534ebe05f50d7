/-
  DERIVED. GIVEN WITH THE SEED: THE CARDS: each row of YtelppapkffjmpaaDoorRows.lean that lists a variable, with what it lists TIED to the program's text (the seventh form; the later family's looks); each row that meets fmt, with fmt's text TOLD by the authors' own Lean function (tested against real Go, not proved from fmt's source: count such statements apart). THE CARD IS WHAT COUNTS. Prove the row's statement (the work); the ties are given (YtelppapkffjmpaaDoorTie.lean); close each card by the builder's one call (the guide's Derived/Test/ToyasCard.lean, 'card_holds'). Laid BY PROGRAM, IN A SANDBOX (cutbox-door.mjs). By AI agents, Wed Nov 11 2026. No macro, syntax, notation, axiom, sorry.
-/
import Derived.Test.YtelppapkffjmpaaDoorRows
import GoSem.ClaimSeven
namespace Go.Proofs.YtelppapkffjmpaaDoor
namespace Rows

/-- THE TIED CARD OF 'vouchsafelaw10.CurveAdds'. -/
def curveAddsCard : Claim7 := { stood := { row := curveAddsRow, standIns := [], harness := (true, "8158c351a196c712c87899707aee9f8a04b2b561dbbe3df76a7dc375a29437d0"), looks := false }, kinds := [], alts := [], laidByText := true, laidKinds := [.data, .data, .wider], laidTests := true, laidLooks := .later }
def CurveAddsCardSaid : Prop := Claim7.holds Tryd.pinned (.plain (OpenSpec.ofChange curveAddsSpec)) curveAddsCard

/-- THE TIED CARD OF 'vouchsafelaw10.CurveTimes'. -/
def curveTimesCard : Claim7 := { stood := { row := curveTimesRow, standIns := [], harness := (true, "8158c351a196c712c87899707aee9f8a04b2b561dbbe3df76a7dc375a29437d0"), looks := false }, kinds := [], alts := [], laidByText := true, laidKinds := [.data, .data, .wider], laidTests := true, laidLooks := .later }
def CurveTimesCardSaid : Prop := Claim7.holds Tryd.pinned (.plain (OpenSpec.ofChange curveTimesSpec)) curveTimesCard

/-- THE TIED CARD OF 'vouchsafelaw10.CurveMixes'. -/
def curveMixesCard : Claim7 := { stood := { row := curveMixesRow, standIns := [], harness := (true, "8158c351a196c712c87899707aee9f8a04b2b561dbbe3df76a7dc375a29437d0"), looks := false }, kinds := [], alts := [], laidByText := true, laidKinds := [.data, .data, .wider], laidTests := true, laidLooks := .later }
def CurveMixesCardSaid : Prop := Claim7.holds Tryd.pinned (.plain (OpenSpec.ofChange curveMixesSpec)) curveMixesCard

/-- THE TIED CARD OF 'vouchsafelaw10.CurveGroup'. -/
def curveGroupCard : Claim7 := { stood := { row := curveGroupRow, standIns := [], harness := (true, "8158c351a196c712c87899707aee9f8a04b2b561dbbe3df76a7dc375a29437d0"), looks := false }, kinds := [], alts := [], laidByText := true, laidKinds := [.data, .data, .wider], laidTests := true, laidLooks := .later }
def CurveGroupCardSaid : Prop := Claim7.holds Tryd.pinned (.plain (OpenSpec.ofChange curveGroupSpec)) curveGroupCard

/-- THE TIED CARD OF 'vouchsafelaw10.CurveMany'. -/
def curveManyCard : Claim7 := { stood := { row := curveManyRow, standIns := [], harness := (true, "8158c351a196c712c87899707aee9f8a04b2b561dbbe3df76a7dc375a29437d0"), looks := false }, kinds := [], alts := [], laidByText := true, laidKinds := [.data, .data, .wider], laidTests := true, laidLooks := .later }
def CurveManyCardSaid : Prop := Claim7.holds Tryd.pinned (.plain (OpenSpec.ofChange curveManySpec)) curveManyCard

/-- THE TIED CARD OF 'vouchsafelaw10.CurveNegs'. -/
def curveNegsCard : Claim7 := { stood := { row := curveNegsRow, standIns := [], harness := (true, "8158c351a196c712c87899707aee9f8a04b2b561dbbe3df76a7dc375a29437d0"), looks := false }, kinds := [], alts := [], laidByText := true, laidKinds := [.data, .data, .wider], laidTests := true, laidLooks := .later }
def CurveNegsCardSaid : Prop := Claim7.holds Tryd.pinned (.plain (OpenSpec.ofChange curveNegsSpec)) curveNegsCard

/-- THE TIED CARD OF 'vouchsafelaw10.CurveOrder'. -/
def curveOrderCard : Claim7 := { stood := { row := curveOrderRow, standIns := [], harness := (true, "8158c351a196c712c87899707aee9f8a04b2b561dbbe3df76a7dc375a29437d0"), looks := false }, kinds := [], alts := [], laidByText := true, laidKinds := [.data, .data, .wider], laidTests := true, laidLooks := .later }
def CurveOrderCardSaid : Prop := Claim7.holds Tryd.pinned (.plain (OpenSpec.ofChange curveOrderSpec)) curveOrderCard

/-- THE SECOND FORM's CARD OF 'vouchsafelaw10.CurveAdds'. -/
def curveAddsUptoCard : Claim7 := { stood := { row := curveAddsUptoRow, standIns := [], harness := (true, "8158c351a196c712c87899707aee9f8a04b2b561dbbe3df76a7dc375a29437d0"), looks := false }, kinds := [], alts := [], laidByText := true, laidKinds := [.data, .data, .wider], laidTests := true, laidLooks := .later }
def CurveAddsUptoCardSaid : Prop := Claim7.holds Tryd.pinned (.plain (OpenSpec.upto curveAddsSpec)) curveAddsUptoCard

/-- THE SECOND FORM's CARD OF 'vouchsafelaw10.CurveTimes'. -/
def curveTimesUptoCard : Claim7 := { stood := { row := curveTimesUptoRow, standIns := [], harness := (true, "8158c351a196c712c87899707aee9f8a04b2b561dbbe3df76a7dc375a29437d0"), looks := false }, kinds := [], alts := [], laidByText := true, laidKinds := [.data, .data, .wider], laidTests := true, laidLooks := .later }
def CurveTimesUptoCardSaid : Prop := Claim7.holds Tryd.pinned (.plain (OpenSpec.upto curveTimesSpec)) curveTimesUptoCard

/-- THE SECOND FORM's CARD OF 'vouchsafelaw10.CurveMixes'. -/
def curveMixesUptoCard : Claim7 := { stood := { row := curveMixesUptoRow, standIns := [], harness := (true, "8158c351a196c712c87899707aee9f8a04b2b561dbbe3df76a7dc375a29437d0"), looks := false }, kinds := [], alts := [], laidByText := true, laidKinds := [.data, .data, .wider], laidTests := true, laidLooks := .later }
def CurveMixesUptoCardSaid : Prop := Claim7.holds Tryd.pinned (.plain (OpenSpec.upto curveMixesSpec)) curveMixesUptoCard

/-- THE SECOND FORM's CARD OF 'vouchsafelaw10.CurveGroup'. -/
def curveGroupUptoCard : Claim7 := { stood := { row := curveGroupUptoRow, standIns := [], harness := (true, "8158c351a196c712c87899707aee9f8a04b2b561dbbe3df76a7dc375a29437d0"), looks := false }, kinds := [], alts := [], laidByText := true, laidKinds := [.data, .data, .wider], laidTests := true, laidLooks := .later }
def CurveGroupUptoCardSaid : Prop := Claim7.holds Tryd.pinned (.plain (OpenSpec.upto curveGroupSpec)) curveGroupUptoCard

/-- THE SECOND FORM's CARD OF 'vouchsafelaw10.CurveMany'. -/
def curveManyUptoCard : Claim7 := { stood := { row := curveManyUptoRow, standIns := [], harness := (true, "8158c351a196c712c87899707aee9f8a04b2b561dbbe3df76a7dc375a29437d0"), looks := false }, kinds := [], alts := [], laidByText := true, laidKinds := [.data, .data, .wider], laidTests := true, laidLooks := .later }
def CurveManyUptoCardSaid : Prop := Claim7.holds Tryd.pinned (.plain (OpenSpec.upto curveManySpec)) curveManyUptoCard

/-- THE SECOND FORM's CARD OF 'vouchsafelaw10.CurveNegs'. -/
def curveNegsUptoCard : Claim7 := { stood := { row := curveNegsUptoRow, standIns := [], harness := (true, "8158c351a196c712c87899707aee9f8a04b2b561dbbe3df76a7dc375a29437d0"), looks := false }, kinds := [], alts := [], laidByText := true, laidKinds := [.data, .data, .wider], laidTests := true, laidLooks := .later }
def CurveNegsUptoCardSaid : Prop := Claim7.holds Tryd.pinned (.plain (OpenSpec.upto curveNegsSpec)) curveNegsUptoCard

/-- THE SECOND FORM's CARD OF 'vouchsafelaw10.CurveOrder'. -/
def curveOrderUptoCard : Claim7 := { stood := { row := curveOrderUptoRow, standIns := [], harness := (true, "8158c351a196c712c87899707aee9f8a04b2b561dbbe3df76a7dc375a29437d0"), looks := false }, kinds := [], alts := [], laidByText := true, laidKinds := [.data, .data, .wider], laidTests := true, laidLooks := .later }
def CurveOrderUptoCardSaid : Prop := Claim7.holds Tryd.pinned (.plain (OpenSpec.upto curveOrderSpec)) curveOrderUptoCard
end Rows
end Go.Proofs.YtelppapkffjmpaaDoor
