/-
  NARROWER THAN 'FOR EVERY INPUT', by the rows' own cells (each row's printed sentence says how): CurveAdds: laid · CurveTimes: laid · CurveMixes: laid · CurveGroup: laid · CurveMany: laid · CurveNegs: laid · CurveOrder: laid.
  DERIVED. THE GIVEN ROWS OF THIS SEAT. 7 by the template 'for every input the law returns true; each argument reads behind the call as it read before'; 0 by the template 'total and deterministic' (their statements: YtelppapkffjmpaaDoorTotals.lean).
  GIVEN WITH THE SEED: the statements are not yours to turn. If you find one false, say at which input.
  Laid BY PROGRAM, IN A SANDBOX (cutbox-rows.mjs): the forced cells as the released guide's own fill.sh prints them over the translation 04fdbf8c79255840… (all of the seat's roots in one cut). By AI agents, Wed Nov 11 2026. No macro, syntax, notation, axiom, sorry.
-/
import Derived.Test.YtelppapkffjmpaaDoorChecked
import GoSem.Claim
import GoSem.ClaimJoined
import GoSem.ClaimMapViews
import Derived.JoinedTies
import Derived.KernelRfl
namespace Go.Proofs.YtelppapkffjmpaaDoor
/- THE CELL 'sum', in the pinned program and in every row, IS THE sha256 OF THE DUMP (.gsa) THAT YtelppapkffjmpaaDoorProg.lean LOADS. Nothing in Lean hashes anything: it is a label: what it is worth is what the hold of that sum in a sandbox is worth. -/
noncomputable def Tryd.pinned : Pinned := { name := "ytelppapkffjmpaadoor", sum := "04fdbf8c79255840bf0c8ae8fb055cf5a233076d4dfffc6d160a8c52c15734e8", checked := Tryd.checked }
namespace Rows
def none {H : Type} : Left H := { results := [], args := [] }

/- WHAT THE LISTED PACKAGE-LEVEL VARIABLES READ AS WHEN THE CALL BEGINS. Each datum BY PROGRAM (the guide's laid-datum.mjs) off the statement by which the dump's own 'gosem.cut.vars' lays the variable. In a bare row this is a premise. The card (YtelppapkffjmpaaDoorCards.lean) ties it to the program's text. -/
def laid_vouchsafe_field_rootOfMinusOne {H : Type} : DataW H := .agg [.lit (.int .u64 1718705420411056), .lit (.int .u64 234908883556509), .lit (.int .u64 2233514472574048), .lit (.int .u64 2117202627021982), .lit (.int .u64 765476049583133)]
def laid_vouchsafe_curve_d {H : Type} : DataW H := .agg [.lit (.int .u64 929955233495203), .lit (.int .u64 466365720129213), .lit (.int .u64 1662059464998953), .lit (.int .u64 2033849074728123), .lit (.int .u64 1442794654840575)]
def laid_vouchsafe_curve_base {H : Type} : DataW H := .agg [.agg [.lit (.int .u64 1738742601995546), .lit (.int .u64 1146398526822698), .lit (.int .u64 2070867633025821), .lit (.int .u64 562264141797630), .lit (.int .u64 587772402128613)], .agg [.lit (.int .u64 1801439850948184), .lit (.int .u64 1351079888211148), .lit (.int .u64 450359962737049), .lit (.int .u64 900719925474099), .lit (.int .u64 1801439850948198)]]

/-- 'vouchsafelaw10.CurveAdds': WHATEVER THE INPUT: true; the input reads as it did. -/
def curveAddsSpec : ChangeSpec := { name := "curveAdds", fn := fun _ => fun
  | [d1, d2] => { results := [.lit (.bool true)], args := [d1, d2] }
  | _ => none }
def curveAddsRow : OpenClaim := { program := "ytelppapkffjmpaadoor", sum := "04fdbf8c79255840bf0c8ae8fb055cf5a233076d4dfffc6d160a8c52c15734e8", func := "vouchsafe/vouchsafelaw10.CurveAdds", spec := "curveAdds", inPlace := ["math/bits.Add64", "math/bits.Sub64"], unfollowed := true, recurses := true, named := ["vouchsafe/curve.base", "vouchsafe/curve.d", "vouchsafe/field.rootOfMinusOne"], apart := false, laid := [("vouchsafe/field.rootOfMinusOne", laid_vouchsafe_field_rootOfMinusOne), ("vouchsafe/curve.d", laid_vouchsafe_curve_d), ("vouchsafe/curve.base", laid_vouchsafe_curve_base)] }
def CurveAddsSaid : Prop := curveAddsRow.holds Tryd.pinned (OpenSpec.ofChange curveAddsSpec)

/-- ITS FALSE NEIGHBOUR: 'it returns false'. Refute it at one input. -/
def curveAddsWrong : ChangeSpec := { name := "curveAdds", fn := fun _ => fun
  | [d1, d2] => { results := [.lit (.bool false)], args := [d1, d2] }
  | _ => none }
def CurveAddsWrongFalsely : Prop := curveAddsRow.holds Tryd.pinned (OpenSpec.ofChange curveAddsWrong)

/-- 'vouchsafelaw10.CurveTimes': WHATEVER THE INPUT: true; the input reads as it did. -/
def curveTimesSpec : ChangeSpec := { name := "curveTimes", fn := fun _ => fun
  | [d1, d2] => { results := [.lit (.bool true)], args := [d1, d2] }
  | _ => none }
def curveTimesRow : OpenClaim := { program := "ytelppapkffjmpaadoor", sum := "04fdbf8c79255840bf0c8ae8fb055cf5a233076d4dfffc6d160a8c52c15734e8", func := "vouchsafe/vouchsafelaw10.CurveTimes", spec := "curveTimes", inPlace := ["math/bits.Add64", "math/bits.Sub64"], unfollowed := true, recurses := true, named := ["vouchsafe/curve.base", "vouchsafe/curve.d", "vouchsafe/field.rootOfMinusOne"], apart := false, laid := [("vouchsafe/field.rootOfMinusOne", laid_vouchsafe_field_rootOfMinusOne), ("vouchsafe/curve.d", laid_vouchsafe_curve_d), ("vouchsafe/curve.base", laid_vouchsafe_curve_base)] }
def CurveTimesSaid : Prop := curveTimesRow.holds Tryd.pinned (OpenSpec.ofChange curveTimesSpec)

/-- ITS FALSE NEIGHBOUR: 'it returns false'. Refute it at one input. -/
def curveTimesWrong : ChangeSpec := { name := "curveTimes", fn := fun _ => fun
  | [d1, d2] => { results := [.lit (.bool false)], args := [d1, d2] }
  | _ => none }
def CurveTimesWrongFalsely : Prop := curveTimesRow.holds Tryd.pinned (OpenSpec.ofChange curveTimesWrong)

/-- 'vouchsafelaw10.CurveMixes': WHATEVER THE INPUT: true; the input reads as it did. -/
def curveMixesSpec : ChangeSpec := { name := "curveMixes", fn := fun _ => fun
  | [d1, d2, d3] => { results := [.lit (.bool true)], args := [d1, d2, d3] }
  | _ => none }
def curveMixesRow : OpenClaim := { program := "ytelppapkffjmpaadoor", sum := "04fdbf8c79255840bf0c8ae8fb055cf5a233076d4dfffc6d160a8c52c15734e8", func := "vouchsafe/vouchsafelaw10.CurveMixes", spec := "curveMixes", inPlace := ["math/bits.Add64", "math/bits.Sub64"], unfollowed := true, recurses := true, named := ["vouchsafe/curve.base", "vouchsafe/curve.d", "vouchsafe/field.rootOfMinusOne"], apart := false, laid := [("vouchsafe/field.rootOfMinusOne", laid_vouchsafe_field_rootOfMinusOne), ("vouchsafe/curve.d", laid_vouchsafe_curve_d), ("vouchsafe/curve.base", laid_vouchsafe_curve_base)] }
def CurveMixesSaid : Prop := curveMixesRow.holds Tryd.pinned (OpenSpec.ofChange curveMixesSpec)

/-- ITS FALSE NEIGHBOUR: 'it returns false'. Refute it at one input. -/
def curveMixesWrong : ChangeSpec := { name := "curveMixes", fn := fun _ => fun
  | [d1, d2, d3] => { results := [.lit (.bool false)], args := [d1, d2, d3] }
  | _ => none }
def CurveMixesWrongFalsely : Prop := curveMixesRow.holds Tryd.pinned (OpenSpec.ofChange curveMixesWrong)

/-- 'vouchsafelaw10.CurveGroup': WHATEVER THE INPUT: true; the input reads as it did. -/
def curveGroupSpec : ChangeSpec := { name := "curveGroup", fn := fun _ => fun
  | [d1, d2, d3] => { results := [.lit (.bool true)], args := [d1, d2, d3] }
  | _ => none }
def curveGroupRow : OpenClaim := { program := "ytelppapkffjmpaadoor", sum := "04fdbf8c79255840bf0c8ae8fb055cf5a233076d4dfffc6d160a8c52c15734e8", func := "vouchsafe/vouchsafelaw10.CurveGroup", spec := "curveGroup", inPlace := ["math/bits.Add64"], unfollowed := true, recurses := true, named := ["vouchsafe/curve.base", "vouchsafe/curve.d", "vouchsafe/field.rootOfMinusOne"], apart := false, laid := [("vouchsafe/field.rootOfMinusOne", laid_vouchsafe_field_rootOfMinusOne), ("vouchsafe/curve.d", laid_vouchsafe_curve_d), ("vouchsafe/curve.base", laid_vouchsafe_curve_base)] }
def CurveGroupSaid : Prop := curveGroupRow.holds Tryd.pinned (OpenSpec.ofChange curveGroupSpec)

/-- ITS FALSE NEIGHBOUR: 'it returns false'. Refute it at one input. -/
def curveGroupWrong : ChangeSpec := { name := "curveGroup", fn := fun _ => fun
  | [d1, d2, d3] => { results := [.lit (.bool false)], args := [d1, d2, d3] }
  | _ => none }
def CurveGroupWrongFalsely : Prop := curveGroupRow.holds Tryd.pinned (OpenSpec.ofChange curveGroupWrong)

/-- 'vouchsafelaw10.CurveMany': WHATEVER THE INPUT: true; the input reads as it did. -/
def curveManySpec : ChangeSpec := { name := "curveMany", fn := fun _ => fun
  | [d1, d2] => { results := [.lit (.bool true)], args := [d1, d2] }
  | _ => none }
def curveManyRow : OpenClaim := { program := "ytelppapkffjmpaadoor", sum := "04fdbf8c79255840bf0c8ae8fb055cf5a233076d4dfffc6d160a8c52c15734e8", func := "vouchsafe/vouchsafelaw10.CurveMany", spec := "curveMany", inPlace := ["math/bits.Add64", "math/bits.Sub64"], unfollowed := true, recurses := true, named := ["vouchsafe/curve.base", "vouchsafe/curve.d", "vouchsafe/field.rootOfMinusOne"], apart := false, laid := [("vouchsafe/field.rootOfMinusOne", laid_vouchsafe_field_rootOfMinusOne), ("vouchsafe/curve.d", laid_vouchsafe_curve_d), ("vouchsafe/curve.base", laid_vouchsafe_curve_base)] }
def CurveManySaid : Prop := curveManyRow.holds Tryd.pinned (OpenSpec.ofChange curveManySpec)

/-- ITS FALSE NEIGHBOUR: 'it returns false'. Refute it at one input. -/
def curveManyWrong : ChangeSpec := { name := "curveMany", fn := fun _ => fun
  | [d1, d2] => { results := [.lit (.bool false)], args := [d1, d2] }
  | _ => none }
def CurveManyWrongFalsely : Prop := curveManyRow.holds Tryd.pinned (OpenSpec.ofChange curveManyWrong)

/-- 'vouchsafelaw10.CurveNegs': WHATEVER THE INPUT: true; the input reads as it did. -/
def curveNegsSpec : ChangeSpec := { name := "curveNegs", fn := fun _ => fun
  | [d1, d2] => { results := [.lit (.bool true)], args := [d1, d2] }
  | _ => none }
def curveNegsRow : OpenClaim := { program := "ytelppapkffjmpaadoor", sum := "04fdbf8c79255840bf0c8ae8fb055cf5a233076d4dfffc6d160a8c52c15734e8", func := "vouchsafe/vouchsafelaw10.CurveNegs", spec := "curveNegs", inPlace := ["math/bits.Add64"], unfollowed := true, recurses := true, named := ["vouchsafe/curve.base", "vouchsafe/curve.d", "vouchsafe/field.rootOfMinusOne"], apart := false, laid := [("vouchsafe/field.rootOfMinusOne", laid_vouchsafe_field_rootOfMinusOne), ("vouchsafe/curve.d", laid_vouchsafe_curve_d), ("vouchsafe/curve.base", laid_vouchsafe_curve_base)] }
def CurveNegsSaid : Prop := curveNegsRow.holds Tryd.pinned (OpenSpec.ofChange curveNegsSpec)

/-- ITS FALSE NEIGHBOUR: 'it returns false'. Refute it at one input. -/
def curveNegsWrong : ChangeSpec := { name := "curveNegs", fn := fun _ => fun
  | [d1, d2] => { results := [.lit (.bool false)], args := [d1, d2] }
  | _ => none }
def CurveNegsWrongFalsely : Prop := curveNegsRow.holds Tryd.pinned (OpenSpec.ofChange curveNegsWrong)

/-- 'vouchsafelaw10.CurveOrder': WHATEVER THE INPUT: true; the input reads as it did. -/
def curveOrderSpec : ChangeSpec := { name := "curveOrder", fn := fun _ => fun
  | [d] => { results := [.lit (.bool true)], args := [d] }
  | _ => none }
def curveOrderRow : OpenClaim := { program := "ytelppapkffjmpaadoor", sum := "04fdbf8c79255840bf0c8ae8fb055cf5a233076d4dfffc6d160a8c52c15734e8", func := "vouchsafe/vouchsafelaw10.CurveOrder", spec := "curveOrder", inPlace := ["math/bits.Add64"], unfollowed := true, recurses := true, named := ["vouchsafe/curve.base", "vouchsafe/curve.d", "vouchsafe/field.rootOfMinusOne"], apart := false, laid := [("vouchsafe/field.rootOfMinusOne", laid_vouchsafe_field_rootOfMinusOne), ("vouchsafe/curve.d", laid_vouchsafe_curve_d), ("vouchsafe/curve.base", laid_vouchsafe_curve_base)] }
def CurveOrderSaid : Prop := curveOrderRow.holds Tryd.pinned (OpenSpec.ofChange curveOrderSpec)

/-- ITS FALSE NEIGHBOUR: 'it returns false'. Refute it at one input. -/
def curveOrderWrong : ChangeSpec := { name := "curveOrder", fn := fun _ => fun
  | [d] => { results := [.lit (.bool false)], args := [d] }
  | _ => none }
def CurveOrderWrongFalsely : Prop := curveOrderRow.holds Tryd.pinned (OpenSpec.ofChange curveOrderWrong)

/- THE SECOND FORM. 'bulk': how many values and letters a reading holds, each counted each time it is reached (what is shared counts as often as it is met; a slice's spare places count too). A statement '..UptoSaid' is the law's where the arguments, and the package variables that the reading takes, are together of bulk at most 1048576: NARROWER than '..Said'. Prove '..Said' where nothing that the law and all that it calls make is longer than what came in: it says more and counts as full. Else prove '..UptoSaid'. A law counts once. -/
mutual
def uptoBulk {H : Type} : DataW H → Nat
  | .lit (.string bytes) => bytes.length + 1
  | .lit _ => 1
  | .nil => 1
  | .ptr d => uptoBulk d + 1
  | .slice elems spare => uptoBulkAll elems + uptoBulkAll spare + 1
  | .agg parts => uptoBulkAll parts + 1
  | .iface _ d => uptoBulk d + 1
  | .map entries => uptoBulkEntries entries + 1
  | .held _ => 1
def uptoBulkAll {H : Type} : List (DataW H) → Nat
  | [] => 0
  | d :: r => uptoBulk d + uptoBulkAll r
def uptoBulkEntries {H : Type} : List (Lit × DataW H) → Nat
  | [] => 0
  | x :: r => uptoBulkEntry x + uptoBulkEntries r
def uptoBulkEntry {H : Type} : Lit × DataW H → Nat
  | (.string bytes, d) => bytes.length + uptoBulk d + 1
  | (_, d) => uptoBulk d + 1
 end
def uptoSmall : (H : Type) → List (DataW H) → Bool := fun _ ds => decide (uptoBulkAll ds ≤ 1048576)
def OpenSpec.upto (s : _root_.Go.ChangeSpec) : _root_.Go.OpenSpec := { _root_.Go.OpenSpec.ofChange s with cond := some uptoSmall }

/-- 'vouchsafelaw10.CurveAdds', WHERE WHAT IT READS IS OF BULK AT MOST 1048576: true; the input reads as it did. -/
def curveAddsUptoRow : OpenClaim := { program := "ytelppapkffjmpaadoor", sum := "04fdbf8c79255840bf0c8ae8fb055cf5a233076d4dfffc6d160a8c52c15734e8", func := "vouchsafe/vouchsafelaw10.CurveAdds", spec := "curveAdds", inPlace := ["math/bits.Add64", "math/bits.Sub64"], unfollowed := true, recurses := true, named := ["vouchsafe/curve.base", "vouchsafe/curve.d", "vouchsafe/field.rootOfMinusOne"], apart := false, laid := [("vouchsafe/field.rootOfMinusOne", laid_vouchsafe_field_rootOfMinusOne), ("vouchsafe/curve.d", laid_vouchsafe_curve_d), ("vouchsafe/curve.base", laid_vouchsafe_curve_base)], narrowed := true }
def CurveAddsUptoSaid : Prop := curveAddsUptoRow.holds Tryd.pinned (OpenSpec.upto curveAddsSpec)

/-- 'vouchsafelaw10.CurveTimes', WHERE WHAT IT READS IS OF BULK AT MOST 1048576: true; the input reads as it did. -/
def curveTimesUptoRow : OpenClaim := { program := "ytelppapkffjmpaadoor", sum := "04fdbf8c79255840bf0c8ae8fb055cf5a233076d4dfffc6d160a8c52c15734e8", func := "vouchsafe/vouchsafelaw10.CurveTimes", spec := "curveTimes", inPlace := ["math/bits.Add64", "math/bits.Sub64"], unfollowed := true, recurses := true, named := ["vouchsafe/curve.base", "vouchsafe/curve.d", "vouchsafe/field.rootOfMinusOne"], apart := false, laid := [("vouchsafe/field.rootOfMinusOne", laid_vouchsafe_field_rootOfMinusOne), ("vouchsafe/curve.d", laid_vouchsafe_curve_d), ("vouchsafe/curve.base", laid_vouchsafe_curve_base)], narrowed := true }
def CurveTimesUptoSaid : Prop := curveTimesUptoRow.holds Tryd.pinned (OpenSpec.upto curveTimesSpec)

/-- 'vouchsafelaw10.CurveMixes', WHERE WHAT IT READS IS OF BULK AT MOST 1048576: true; the input reads as it did. -/
def curveMixesUptoRow : OpenClaim := { program := "ytelppapkffjmpaadoor", sum := "04fdbf8c79255840bf0c8ae8fb055cf5a233076d4dfffc6d160a8c52c15734e8", func := "vouchsafe/vouchsafelaw10.CurveMixes", spec := "curveMixes", inPlace := ["math/bits.Add64", "math/bits.Sub64"], unfollowed := true, recurses := true, named := ["vouchsafe/curve.base", "vouchsafe/curve.d", "vouchsafe/field.rootOfMinusOne"], apart := false, laid := [("vouchsafe/field.rootOfMinusOne", laid_vouchsafe_field_rootOfMinusOne), ("vouchsafe/curve.d", laid_vouchsafe_curve_d), ("vouchsafe/curve.base", laid_vouchsafe_curve_base)], narrowed := true }
def CurveMixesUptoSaid : Prop := curveMixesUptoRow.holds Tryd.pinned (OpenSpec.upto curveMixesSpec)

/-- 'vouchsafelaw10.CurveGroup', WHERE WHAT IT READS IS OF BULK AT MOST 1048576: true; the input reads as it did. -/
def curveGroupUptoRow : OpenClaim := { program := "ytelppapkffjmpaadoor", sum := "04fdbf8c79255840bf0c8ae8fb055cf5a233076d4dfffc6d160a8c52c15734e8", func := "vouchsafe/vouchsafelaw10.CurveGroup", spec := "curveGroup", inPlace := ["math/bits.Add64"], unfollowed := true, recurses := true, named := ["vouchsafe/curve.base", "vouchsafe/curve.d", "vouchsafe/field.rootOfMinusOne"], apart := false, laid := [("vouchsafe/field.rootOfMinusOne", laid_vouchsafe_field_rootOfMinusOne), ("vouchsafe/curve.d", laid_vouchsafe_curve_d), ("vouchsafe/curve.base", laid_vouchsafe_curve_base)], narrowed := true }
def CurveGroupUptoSaid : Prop := curveGroupUptoRow.holds Tryd.pinned (OpenSpec.upto curveGroupSpec)

/-- 'vouchsafelaw10.CurveMany', WHERE WHAT IT READS IS OF BULK AT MOST 1048576: true; the input reads as it did. -/
def curveManyUptoRow : OpenClaim := { program := "ytelppapkffjmpaadoor", sum := "04fdbf8c79255840bf0c8ae8fb055cf5a233076d4dfffc6d160a8c52c15734e8", func := "vouchsafe/vouchsafelaw10.CurveMany", spec := "curveMany", inPlace := ["math/bits.Add64", "math/bits.Sub64"], unfollowed := true, recurses := true, named := ["vouchsafe/curve.base", "vouchsafe/curve.d", "vouchsafe/field.rootOfMinusOne"], apart := false, laid := [("vouchsafe/field.rootOfMinusOne", laid_vouchsafe_field_rootOfMinusOne), ("vouchsafe/curve.d", laid_vouchsafe_curve_d), ("vouchsafe/curve.base", laid_vouchsafe_curve_base)], narrowed := true }
def CurveManyUptoSaid : Prop := curveManyUptoRow.holds Tryd.pinned (OpenSpec.upto curveManySpec)

/-- 'vouchsafelaw10.CurveNegs', WHERE WHAT IT READS IS OF BULK AT MOST 1048576: true; the input reads as it did. -/
def curveNegsUptoRow : OpenClaim := { program := "ytelppapkffjmpaadoor", sum := "04fdbf8c79255840bf0c8ae8fb055cf5a233076d4dfffc6d160a8c52c15734e8", func := "vouchsafe/vouchsafelaw10.CurveNegs", spec := "curveNegs", inPlace := ["math/bits.Add64"], unfollowed := true, recurses := true, named := ["vouchsafe/curve.base", "vouchsafe/curve.d", "vouchsafe/field.rootOfMinusOne"], apart := false, laid := [("vouchsafe/field.rootOfMinusOne", laid_vouchsafe_field_rootOfMinusOne), ("vouchsafe/curve.d", laid_vouchsafe_curve_d), ("vouchsafe/curve.base", laid_vouchsafe_curve_base)], narrowed := true }
def CurveNegsUptoSaid : Prop := curveNegsUptoRow.holds Tryd.pinned (OpenSpec.upto curveNegsSpec)

/-- 'vouchsafelaw10.CurveOrder', WHERE WHAT IT READS IS OF BULK AT MOST 1048576: true; the input reads as it did. -/
def curveOrderUptoRow : OpenClaim := { program := "ytelppapkffjmpaadoor", sum := "04fdbf8c79255840bf0c8ae8fb055cf5a233076d4dfffc6d160a8c52c15734e8", func := "vouchsafe/vouchsafelaw10.CurveOrder", spec := "curveOrder", inPlace := ["math/bits.Add64"], unfollowed := true, recurses := true, named := ["vouchsafe/curve.base", "vouchsafe/curve.d", "vouchsafe/field.rootOfMinusOne"], apart := false, laid := [("vouchsafe/field.rootOfMinusOne", laid_vouchsafe_field_rootOfMinusOne), ("vouchsafe/curve.d", laid_vouchsafe_curve_d), ("vouchsafe/curve.base", laid_vouchsafe_curve_base)], narrowed := true }
def CurveOrderUptoSaid : Prop := curveOrderUptoRow.holds Tryd.pinned (OpenSpec.upto curveOrderSpec)

end Rows
end Go.Proofs.YtelppapkffjmpaaDoor
