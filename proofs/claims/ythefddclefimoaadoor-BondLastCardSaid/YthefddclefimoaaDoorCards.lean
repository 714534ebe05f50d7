/-
  DERIVED. GIVEN WITH THE SEED: THE CARDS: each row of YthefddclefimoaaDoorRows.lean that lists a variable, with what it lists TIED to the program's text (the seventh form; the later family's looks); each row that meets fmt, with fmt's text TOLD by the authors' own Lean function (tested against real Go, not proved from fmt's source: count such statements apart). THE CARD IS WHAT COUNTS. Prove the row's statement (the work); the ties are given (YthefddclefimoaaDoorTie.lean); close each card by the builder's one call (the guide's Derived/Test/ToyasCard.lean, 'card_holds'). Laid BY PROGRAM, IN A SANDBOX (cutbox-door.mjs). By AI agents, Wed Nov 11 2026. No macro, syntax, notation, axiom, sorry.
-/
import Derived.Test.YthefddclefimoaaDoorRows
import GoSem.ClaimSeven
namespace Go.Proofs.YthefddclefimoaaDoor
namespace Rows

/-- THE TIED CARD OF 'vouchsafelaw17.AccountOwn'. -/
def accountOwnCard : Claim7 := { stood := { row := accountOwnRow, standIns := [], harness := (true, "04645a588e60ad83c66494e097707abb905d5fac17ce82ced1a547614a22212f"), looks := false }, kinds := [], alts := [], laidByText := true, laidKinds := [.data, .pinned], laidTests := true, laidLooks := .later }
def AccountOwnCardSaid : Prop := Claim7.holds Tryd.pinned (.plain (OpenSpec.ofChange accountOwnSpec)) accountOwnCard

/-- THE TIED CARD OF 'vouchsafelaw17.AccountGoes'. -/
def accountGoesCard : Claim7 := { stood := { row := accountGoesRow, standIns := [], harness := (true, "04645a588e60ad83c66494e097707abb905d5fac17ce82ced1a547614a22212f"), looks := false }, kinds := [], alts := [], laidByText := true, laidKinds := [.data, .pinned], laidTests := true, laidLooks := .later }
def AccountGoesCardSaid : Prop := Claim7.holds Tryd.pinned (.plain (OpenSpec.ofChange accountGoesSpec)) accountGoesCard

/-- THE TIED CARD OF 'vouchsafelaw18.BondLast'. -/
def bondLastCard : Claim7 := { stood := { row := bondLastRow, standIns := [], harness := (true, "04645a588e60ad83c66494e097707abb905d5fac17ce82ced1a547614a22212f"), looks := false }, kinds := [], alts := [], laidByText := true, laidKinds := [.data, .pinned], laidTests := true, laidLooks := .later }
def BondLastCardSaid : Prop := Claim7.holds Tryd.pinned (.plain (OpenSpec.ofChange bondLastSpec)) bondLastCard

/-- THE TIED CARD OF 'vouchsafelaw18.BondCounts'. -/
def bondCountsCard : Claim7 := { stood := { row := bondCountsRow, standIns := [], harness := (true, "04645a588e60ad83c66494e097707abb905d5fac17ce82ced1a547614a22212f"), looks := false }, kinds := [], alts := [], laidByText := true, laidKinds := [.data, .pinned], laidTests := true, laidLooks := .later }
def BondCountsCardSaid : Prop := Claim7.holds Tryd.pinned (.plain (OpenSpec.ofChange bondCountsSpec)) bondCountsCard

/-- THE SECOND FORM's CARD OF 'vouchsafelaw17.AccountOwn'. -/
def accountOwnUptoCard : Claim7 := { stood := { row := accountOwnUptoRow, standIns := [], harness := (true, "04645a588e60ad83c66494e097707abb905d5fac17ce82ced1a547614a22212f"), looks := false }, kinds := [], alts := [], laidByText := true, laidKinds := [.data, .pinned], laidTests := true, laidLooks := .later }
def AccountOwnUptoCardSaid : Prop := Claim7.holds Tryd.pinned (.plain (OpenSpec.upto accountOwnSpec)) accountOwnUptoCard

/-- THE SECOND FORM's CARD OF 'vouchsafelaw17.AccountGoes'. -/
def accountGoesUptoCard : Claim7 := { stood := { row := accountGoesUptoRow, standIns := [], harness := (true, "04645a588e60ad83c66494e097707abb905d5fac17ce82ced1a547614a22212f"), looks := false }, kinds := [], alts := [], laidByText := true, laidKinds := [.data, .pinned], laidTests := true, laidLooks := .later }
def AccountGoesUptoCardSaid : Prop := Claim7.holds Tryd.pinned (.plain (OpenSpec.upto accountGoesSpec)) accountGoesUptoCard

/-- THE SECOND FORM's CARD OF 'vouchsafelaw18.BondLast'. -/
def bondLastUptoCard : Claim7 := { stood := { row := bondLastUptoRow, standIns := [], harness := (true, "04645a588e60ad83c66494e097707abb905d5fac17ce82ced1a547614a22212f"), looks := false }, kinds := [], alts := [], laidByText := true, laidKinds := [.data, .pinned], laidTests := true, laidLooks := .later }
def BondLastUptoCardSaid : Prop := Claim7.holds Tryd.pinned (.plain (OpenSpec.upto bondLastSpec)) bondLastUptoCard

/-- THE SECOND FORM's CARD OF 'vouchsafelaw18.BondCounts'. -/
def bondCountsUptoCard : Claim7 := { stood := { row := bondCountsUptoRow, standIns := [], harness := (true, "04645a588e60ad83c66494e097707abb905d5fac17ce82ced1a547614a22212f"), looks := false }, kinds := [], alts := [], laidByText := true, laidKinds := [.data, .pinned], laidTests := true, laidLooks := .later }
def BondCountsUptoCardSaid : Prop := Claim7.holds Tryd.pinned (.plain (OpenSpec.upto bondCountsSpec)) bondCountsUptoCard
end Rows
end Go.Proofs.YthefddclefimoaaDoor
