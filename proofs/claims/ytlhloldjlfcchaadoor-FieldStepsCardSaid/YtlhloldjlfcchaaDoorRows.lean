/-
  NARROWER THAN 'FOR EVERY INPUT', by the rows' own cells (each row's printed sentence says how): FieldSums: laid · FieldProducts: laid · FieldPowers: laid · FieldRoots: laid · FieldLaws: laid · FieldOne: laid · FieldSteps: laid.
  DERIVED. THE GIVEN ROWS OF THIS SEAT. 7 by the template 'for every input the law returns true; each argument reads behind the call as it read before'; 0 by the template 'total and deterministic' (their statements: YtlhloldjlfcchaaDoorTotals.lean).
  GIVEN WITH THE SEED: the statements are not yours to turn. If you find one false, say at which input.
  Laid BY PROGRAM, IN A SANDBOX (cutbox-rows.mjs): the forced cells as the released guide's own fill.sh prints them over the translation 3c8f4738a045324f… (all of the seat's roots in one cut). By AI agents, Wed Nov 11 2026. No macro, syntax, notation, axiom, sorry.
-/
import Derived.Test.YtlhloldjlfcchaaDoorChecked
import GoSem.Claim
import GoSem.ClaimJoined
import GoSem.ClaimMapViews
import Derived.JoinedTies
import Derived.KernelRfl
namespace Go.Proofs.YtlhloldjlfcchaaDoor
/- THE CELL 'sum', in the pinned program and in every row, IS THE sha256 OF THE DUMP (.gsa) THAT YtlhloldjlfcchaaDoorProg.lean LOADS. Nothing in Lean hashes anything: it is a label: what it is worth is what the hold of that sum in a sandbox is worth. -/
noncomputable def Tryd.pinned : Pinned := { name := "ytlhloldjlfcchaadoor", sum := "3c8f4738a045324ffb5a0eee170a7f616b541bd49072e8b285e52449d3d9ffaf", checked := Tryd.checked }
namespace Rows
def none {H : Type} : Left H := { results := [], args := [] }

/- WHAT THE LISTED PACKAGE-LEVEL VARIABLES READ AS WHEN THE CALL BEGINS. Each datum BY PROGRAM (the guide's laid-datum.mjs) off the statement by which the dump's own 'gosem.cut.vars' lays the variable. In a bare row this is a premise. The card (YtlhloldjlfcchaaDoorCards.lean) ties it to the program's text. -/
def laid_vouchsafe_field_rootOfMinusOne {H : Type} : DataW H := .agg [.lit (.int .u64 1718705420411056), .lit (.int .u64 234908883556509), .lit (.int .u64 2233514472574048), .lit (.int .u64 2117202627021982), .lit (.int .u64 765476049583133)]

/-- 'vouchsafelaw08.FieldSums': WHATEVER THE INPUT: true; the input reads as it did. -/
def fieldSumsSpec : ChangeSpec := { name := "fieldSums", fn := fun _ => fun
  | [d1, d2] => { results := [.lit (.bool true)], args := [d1, d2] }
  | _ => none }
def fieldSumsRow : OpenClaim := { program := "ytlhloldjlfcchaadoor", sum := "3c8f4738a045324ffb5a0eee170a7f616b541bd49072e8b285e52449d3d9ffaf", func := "vouchsafe/vouchsafelaw08.FieldSums", spec := "fieldSums", inPlace := ["math/bits.Add64", "math/bits.Sub64"], named := ["vouchsafe/field.rootOfMinusOne"], apart := false, laid := [("vouchsafe/field.rootOfMinusOne", laid_vouchsafe_field_rootOfMinusOne)] }
def FieldSumsSaid : Prop := fieldSumsRow.holds Tryd.pinned (OpenSpec.ofChange fieldSumsSpec)

/-- ITS FALSE NEIGHBOUR: 'it returns false'. Refute it at one input. -/
def fieldSumsWrong : ChangeSpec := { name := "fieldSums", fn := fun _ => fun
  | [d1, d2] => { results := [.lit (.bool false)], args := [d1, d2] }
  | _ => none }
def FieldSumsWrongFalsely : Prop := fieldSumsRow.holds Tryd.pinned (OpenSpec.ofChange fieldSumsWrong)

/-- 'vouchsafelaw08.FieldProducts': WHATEVER THE INPUT: true; the input reads as it did. -/
def fieldProductsSpec : ChangeSpec := { name := "fieldProducts", fn := fun _ => fun
  | [d1, d2] => { results := [.lit (.bool true)], args := [d1, d2] }
  | _ => none }
def fieldProductsRow : OpenClaim := { program := "ytlhloldjlfcchaadoor", sum := "3c8f4738a045324ffb5a0eee170a7f616b541bd49072e8b285e52449d3d9ffaf", func := "vouchsafe/vouchsafelaw08.FieldProducts", spec := "fieldProducts", inPlace := ["math/bits.Add64", "math/bits.Sub64"], named := ["vouchsafe/field.rootOfMinusOne"], apart := false, laid := [("vouchsafe/field.rootOfMinusOne", laid_vouchsafe_field_rootOfMinusOne)] }
def FieldProductsSaid : Prop := fieldProductsRow.holds Tryd.pinned (OpenSpec.ofChange fieldProductsSpec)

/-- ITS FALSE NEIGHBOUR: 'it returns false'. Refute it at one input. -/
def fieldProductsWrong : ChangeSpec := { name := "fieldProducts", fn := fun _ => fun
  | [d1, d2] => { results := [.lit (.bool false)], args := [d1, d2] }
  | _ => none }
def FieldProductsWrongFalsely : Prop := fieldProductsRow.holds Tryd.pinned (OpenSpec.ofChange fieldProductsWrong)

/-- 'vouchsafelaw08.FieldPowers': WHATEVER THE INPUT: true; the input reads as it did. -/
def fieldPowersSpec : ChangeSpec := { name := "fieldPowers", fn := fun _ => fun
  | [d1, d2] => { results := [.lit (.bool true)], args := [d1, d2] }
  | _ => none }
def fieldPowersRow : OpenClaim := { program := "ytlhloldjlfcchaadoor", sum := "3c8f4738a045324ffb5a0eee170a7f616b541bd49072e8b285e52449d3d9ffaf", func := "vouchsafe/vouchsafelaw08.FieldPowers", spec := "fieldPowers", inPlace := ["math/bits.Add64", "math/bits.Sub64"], named := ["vouchsafe/field.rootOfMinusOne"], apart := false, laid := [("vouchsafe/field.rootOfMinusOne", laid_vouchsafe_field_rootOfMinusOne)] }
def FieldPowersSaid : Prop := fieldPowersRow.holds Tryd.pinned (OpenSpec.ofChange fieldPowersSpec)

/-- ITS FALSE NEIGHBOUR: 'it returns false'. Refute it at one input. -/
def fieldPowersWrong : ChangeSpec := { name := "fieldPowers", fn := fun _ => fun
  | [d1, d2] => { results := [.lit (.bool false)], args := [d1, d2] }
  | _ => none }
def FieldPowersWrongFalsely : Prop := fieldPowersRow.holds Tryd.pinned (OpenSpec.ofChange fieldPowersWrong)

/-- 'vouchsafelaw08.FieldRoots': WHATEVER THE INPUT: true; the input reads as it did. -/
def fieldRootsSpec : ChangeSpec := { name := "fieldRoots", fn := fun _ => fun
  | [d] => { results := [.lit (.bool true)], args := [d] }
  | _ => none }
def fieldRootsRow : OpenClaim := { program := "ytlhloldjlfcchaadoor", sum := "3c8f4738a045324ffb5a0eee170a7f616b541bd49072e8b285e52449d3d9ffaf", func := "vouchsafe/vouchsafelaw08.FieldRoots", spec := "fieldRoots", inPlace := ["math/bits.Add64", "math/bits.Sub64"], named := ["vouchsafe/field.rootOfMinusOne"], apart := false, laid := [("vouchsafe/field.rootOfMinusOne", laid_vouchsafe_field_rootOfMinusOne)] }
def FieldRootsSaid : Prop := fieldRootsRow.holds Tryd.pinned (OpenSpec.ofChange fieldRootsSpec)

/-- ITS FALSE NEIGHBOUR: 'it returns false'. Refute it at one input. -/
def fieldRootsWrong : ChangeSpec := { name := "fieldRoots", fn := fun _ => fun
  | [d] => { results := [.lit (.bool false)], args := [d] }
  | _ => none }
def FieldRootsWrongFalsely : Prop := fieldRootsRow.holds Tryd.pinned (OpenSpec.ofChange fieldRootsWrong)

/-- 'vouchsafelaw08.FieldLaws': WHATEVER THE INPUT: true; the input reads as it did. -/
def fieldLawsSpec : ChangeSpec := { name := "fieldLaws", fn := fun _ => fun
  | [d1, d2, d3] => { results := [.lit (.bool true)], args := [d1, d2, d3] }
  | _ => none }
def fieldLawsRow : OpenClaim := { program := "ytlhloldjlfcchaadoor", sum := "3c8f4738a045324ffb5a0eee170a7f616b541bd49072e8b285e52449d3d9ffaf", func := "vouchsafe/vouchsafelaw08.FieldLaws", spec := "fieldLaws", inPlace := ["math/bits.Add64"], named := ["vouchsafe/field.rootOfMinusOne"], apart := false, laid := [("vouchsafe/field.rootOfMinusOne", laid_vouchsafe_field_rootOfMinusOne)] }
def FieldLawsSaid : Prop := fieldLawsRow.holds Tryd.pinned (OpenSpec.ofChange fieldLawsSpec)

/-- ITS FALSE NEIGHBOUR: 'it returns false'. Refute it at one input. -/
def fieldLawsWrong : ChangeSpec := { name := "fieldLaws", fn := fun _ => fun
  | [d1, d2, d3] => { results := [.lit (.bool false)], args := [d1, d2, d3] }
  | _ => none }
def FieldLawsWrongFalsely : Prop := fieldLawsRow.holds Tryd.pinned (OpenSpec.ofChange fieldLawsWrong)

/-- 'vouchsafelaw08.FieldOne': WHATEVER THE INPUT: true; the input reads as it did. -/
def fieldOneSpec : ChangeSpec := { name := "fieldOne", fn := fun _ => fun
  | [d] => { results := [.lit (.bool true)], args := [d] }
  | _ => none }
def fieldOneRow : OpenClaim := { program := "ytlhloldjlfcchaadoor", sum := "3c8f4738a045324ffb5a0eee170a7f616b541bd49072e8b285e52449d3d9ffaf", func := "vouchsafe/vouchsafelaw08.FieldOne", spec := "fieldOne", inPlace := ["math/bits.Add64"], named := ["vouchsafe/field.rootOfMinusOne"], apart := false, laid := [("vouchsafe/field.rootOfMinusOne", laid_vouchsafe_field_rootOfMinusOne)] }
def FieldOneSaid : Prop := fieldOneRow.holds Tryd.pinned (OpenSpec.ofChange fieldOneSpec)

/-- ITS FALSE NEIGHBOUR: 'it returns false'. Refute it at one input. -/
def fieldOneWrong : ChangeSpec := { name := "fieldOne", fn := fun _ => fun
  | [d] => { results := [.lit (.bool false)], args := [d] }
  | _ => none }
def FieldOneWrongFalsely : Prop := fieldOneRow.holds Tryd.pinned (OpenSpec.ofChange fieldOneWrong)

/-- 'vouchsafelaw08.FieldSteps': WHATEVER THE INPUT: true; the input reads as it did. -/
def fieldStepsSpec : ChangeSpec := { name := "fieldSteps", fn := fun _ => fun
  | [d1, d2, d3] => { results := [.lit (.bool true)], args := [d1, d2, d3] }
  | _ => none }
def fieldStepsRow : OpenClaim := { program := "ytlhloldjlfcchaadoor", sum := "3c8f4738a045324ffb5a0eee170a7f616b541bd49072e8b285e52449d3d9ffaf", func := "vouchsafe/vouchsafelaw08.FieldSteps", spec := "fieldSteps", inPlace := ["math/bits.Add64"], named := ["vouchsafe/field.rootOfMinusOne"], apart := false, laid := [("vouchsafe/field.rootOfMinusOne", laid_vouchsafe_field_rootOfMinusOne)] }
def FieldStepsSaid : Prop := fieldStepsRow.holds Tryd.pinned (OpenSpec.ofChange fieldStepsSpec)

/-- ITS FALSE NEIGHBOUR: 'it returns false'. Refute it at one input. -/
def fieldStepsWrong : ChangeSpec := { name := "fieldSteps", fn := fun _ => fun
  | [d1, d2, d3] => { results := [.lit (.bool false)], args := [d1, d2, d3] }
  | _ => none }
def FieldStepsWrongFalsely : Prop := fieldStepsRow.holds Tryd.pinned (OpenSpec.ofChange fieldStepsWrong)

/- THE SECOND FORM. 'bulk': how many values and letters a reading holds, each counted each time it is reached (what is shared counts as often as it is met; a slice's spare places count too). A statement '..UptoSaid' is the law's where the arguments, and the package variables that the reading takes, are together of bulk at most 1048576: NARROWER than '..Said'. Prove '..Said' where nothing that the law and all that it calls make is longer than what came in: it says more and counts as full. Else prove '..UptoSaid'. A law counts once. -/
mutual
def uptoBulk {H : Type} : DataW H → Nat
  | .lit (.string bytes) => bytes.length + 1
  | .lit _ => 1
  | .nil => 1
  | .ptr d => uptoBulk d + 1
  | .slice elems spare => uptoBulkAll elems + uptoBulkAll spare + 1
  | .agg parts => uptoBulkAll parts + 1
  | .iface _ d => uptoBulk d + 1
  | .map entries => uptoBulkEntries entries + 1
  | .held _ => 1
def uptoBulkAll {H : Type} : List (DataW H) → Nat
  | [] => 0
  | d :: r => uptoBulk d + uptoBulkAll r
def uptoBulkEntries {H : Type} : List (Lit × DataW H) → Nat
  | [] => 0
  | x :: r => uptoBulkEntry x + uptoBulkEntries r
def uptoBulkEntry {H : Type} : Lit × DataW H → Nat
  | (.string bytes, d) => bytes.length + uptoBulk d + 1
  | (_, d) => uptoBulk d + 1
 end
def uptoSmall : (H : Type) → List (DataW H) → Bool := fun _ ds => decide (uptoBulkAll ds ≤ 1048576)
def OpenSpec.upto (s : _root_.Go.ChangeSpec) : _root_.Go.OpenSpec := { _root_.Go.OpenSpec.ofChange s with cond := some uptoSmall }

/-- 'vouchsafelaw08.FieldSums', WHERE WHAT IT READS IS OF BULK AT MOST 1048576: true; the input reads as it did. -/
def fieldSumsUptoRow : OpenClaim := { program := "ytlhloldjlfcchaadoor", sum := "3c8f4738a045324ffb5a0eee170a7f616b541bd49072e8b285e52449d3d9ffaf", func := "vouchsafe/vouchsafelaw08.FieldSums", spec := "fieldSums", inPlace := ["math/bits.Add64", "math/bits.Sub64"], named := ["vouchsafe/field.rootOfMinusOne"], apart := false, laid := [("vouchsafe/field.rootOfMinusOne", laid_vouchsafe_field_rootOfMinusOne)], narrowed := true }
def FieldSumsUptoSaid : Prop := fieldSumsUptoRow.holds Tryd.pinned (OpenSpec.upto fieldSumsSpec)

/-- 'vouchsafelaw08.FieldProducts', WHERE WHAT IT READS IS OF BULK AT MOST 1048576: true; the input reads as it did. -/
def fieldProductsUptoRow : OpenClaim := { program := "ytlhloldjlfcchaadoor", sum := "3c8f4738a045324ffb5a0eee170a7f616b541bd49072e8b285e52449d3d9ffaf", func := "vouchsafe/vouchsafelaw08.FieldProducts", spec := "fieldProducts", inPlace := ["math/bits.Add64", "math/bits.Sub64"], named := ["vouchsafe/field.rootOfMinusOne"], apart := false, laid := [("vouchsafe/field.rootOfMinusOne", laid_vouchsafe_field_rootOfMinusOne)], narrowed := true }
def FieldProductsUptoSaid : Prop := fieldProductsUptoRow.holds Tryd.pinned (OpenSpec.upto fieldProductsSpec)

/-- 'vouchsafelaw08.FieldPowers', WHERE WHAT IT READS IS OF BULK AT MOST 1048576: true; the input reads as it did. -/
def fieldPowersUptoRow : OpenClaim := { program := "ytlhloldjlfcchaadoor", sum := "3c8f4738a045324ffb5a0eee170a7f616b541bd49072e8b285e52449d3d9ffaf", func := "vouchsafe/vouchsafelaw08.FieldPowers", spec := "fieldPowers", inPlace := ["math/bits.Add64", "math/bits.Sub64"], named := ["vouchsafe/field.rootOfMinusOne"], apart := false, laid := [("vouchsafe/field.rootOfMinusOne", laid_vouchsafe_field_rootOfMinusOne)], narrowed := true }
def FieldPowersUptoSaid : Prop := fieldPowersUptoRow.holds Tryd.pinned (OpenSpec.upto fieldPowersSpec)

/-- 'vouchsafelaw08.FieldRoots', WHERE WHAT IT READS IS OF BULK AT MOST 1048576: true; the input reads as it did. -/
def fieldRootsUptoRow : OpenClaim := { program := "ytlhloldjlfcchaadoor", sum := "3c8f4738a045324ffb5a0eee170a7f616b541bd49072e8b285e52449d3d9ffaf", func := "vouchsafe/vouchsafelaw08.FieldRoots", spec := "fieldRoots", inPlace := ["math/bits.Add64", "math/bits.Sub64"], named := ["vouchsafe/field.rootOfMinusOne"], apart := false, laid := [("vouchsafe/field.rootOfMinusOne", laid_vouchsafe_field_rootOfMinusOne)], narrowed := true }
def FieldRootsUptoSaid : Prop := fieldRootsUptoRow.holds Tryd.pinned (OpenSpec.upto fieldRootsSpec)

/-- 'vouchsafelaw08.FieldLaws', WHERE WHAT IT READS IS OF BULK AT MOST 1048576: true; the input reads as it did. -/
def fieldLawsUptoRow : OpenClaim := { program := "ytlhloldjlfcchaadoor", sum := "3c8f4738a045324ffb5a0eee170a7f616b541bd49072e8b285e52449d3d9ffaf", func := "vouchsafe/vouchsafelaw08.FieldLaws", spec := "fieldLaws", inPlace := ["math/bits.Add64"], named := ["vouchsafe/field.rootOfMinusOne"], apart := false, laid := [("vouchsafe/field.rootOfMinusOne", laid_vouchsafe_field_rootOfMinusOne)], narrowed := true }
def FieldLawsUptoSaid : Prop := fieldLawsUptoRow.holds Tryd.pinned (OpenSpec.upto fieldLawsSpec)

/-- 'vouchsafelaw08.FieldOne', WHERE WHAT IT READS IS OF BULK AT MOST 1048576: true; the input reads as it did. -/
def fieldOneUptoRow : OpenClaim := { program := "ytlhloldjlfcchaadoor", sum := "3c8f4738a045324ffb5a0eee170a7f616b541bd49072e8b285e52449d3d9ffaf", func := "vouchsafe/vouchsafelaw08.FieldOne", spec := "fieldOne", inPlace := ["math/bits.Add64"], named := ["vouchsafe/field.rootOfMinusOne"], apart := false, laid := [("vouchsafe/field.rootOfMinusOne", laid_vouchsafe_field_rootOfMinusOne)], narrowed := true }
def FieldOneUptoSaid : Prop := fieldOneUptoRow.holds Tryd.pinned (OpenSpec.upto fieldOneSpec)

/-- 'vouchsafelaw08.FieldSteps', WHERE WHAT IT READS IS OF BULK AT MOST 1048576: true; the input reads as it did. -/
def fieldStepsUptoRow : OpenClaim := { program := "ytlhloldjlfcchaadoor", sum := "3c8f4738a045324ffb5a0eee170a7f616b541bd49072e8b285e52449d3d9ffaf", func := "vouchsafe/vouchsafelaw08.FieldSteps", spec := "fieldSteps", inPlace := ["math/bits.Add64"], named := ["vouchsafe/field.rootOfMinusOne"], apart := false, laid := [("vouchsafe/field.rootOfMinusOne", laid_vouchsafe_field_rootOfMinusOne)], narrowed := true }
def FieldStepsUptoSaid : Prop := fieldStepsUptoRow.holds Tryd.pinned (OpenSpec.upto fieldStepsSpec)

end Rows
end Go.Proofs.YtlhloldjlfcchaaDoor
