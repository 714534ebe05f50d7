/-
  NARROWER THAN 'FOR EVERY INPUT', by the rows' own cells (each row's printed sentence says how): JsonAsks: loops · JsonWith: loops · JsonMakes: loops · JsonName: loops · JsonWrap: loops · JsonTurned: loops.
  DERIVED. THE GIVEN ROWS OF THIS SEAT. 8 by the template 'for every input the law returns true; each argument reads behind the call as it read before'; 0 by the template 'total and deterministic' (their statements: YtpinidlfcifeeaaTotals.lean).
  GIVEN WITH THE SEED: the statements are not yours to turn. If you find one false, say at which input.
  Laid BY PROGRAM, IN A SANDBOX (cutbox-rows.mjs): the forced cells as the released guide's own fill.sh prints them over the translation dd17cdc5eb3f5f58… (all of the seat's roots in one cut). By AI agents, Wed Nov 11 2026. No macro, syntax, notation, axiom, sorry.
-/
import Derived.Test.YtpinidlfcifeeaaChecked
import GoSem.Claim
import GoSem.ClaimJoined
import GoSem.ClaimMapViews
import Derived.JoinedTies
import Derived.KernelRfl
namespace Go.Proofs.Ytpinidlfcifeeaa
/- THE CELL 'sum', in the pinned program and in every row, IS THE sha256 OF THE DUMP (.gsa) THAT YtpinidlfcifeeaaProg.lean LOADS. Nothing in Lean hashes anything: it is a label: what it is worth is what the hold of that sum in a sandbox is worth. -/
noncomputable def Try.pinned : Pinned := { name := "ytpinidlfcifeeaa", sum := "dd17cdc5eb3f5f587bde29035f898b31789a8290f9894c77b1773105ebd368e7", checked := Try.checked }
namespace Rows
def none {H : Type} : Left H := { results := [], args := [] }

/-- 'vouchsafelaw02.JsonParses': WHATEVER THE INPUT: true; the input reads as it did. -/
def jsonParsesSpec : ChangeSpec := { name := "jsonParses", fn := fun _ => fun
  | [d] => { results := [.lit (.bool true)], args := [d] }
  | _ => none }
def jsonParsesRow : OpenClaim := { program := "ytpinidlfcifeeaa", sum := "dd17cdc5eb3f5f587bde29035f898b31789a8290f9894c77b1773105ebd368e7", func := "vouchsafe/vouchsafelaw02.JsonParses", spec := "jsonParses", inPlace := ["slices.overlaps[string]", "slices.overlaps[vouchsafe/api.Value]"], unfollowed := true, recurses := true, apart := false }
def JsonParsesSaid : Prop := jsonParsesRow.holds Try.pinned (OpenSpec.ofChange jsonParsesSpec)

/-- ITS FALSE NEIGHBOUR: 'it returns false'. Refute it at one input. -/
def jsonParsesWrong : ChangeSpec := { name := "jsonParses", fn := fun _ => fun
  | [d] => { results := [.lit (.bool false)], args := [d] }
  | _ => none }
def JsonParsesWrongFalsely : Prop := jsonParsesRow.holds Try.pinned (OpenSpec.ofChange jsonParsesWrong)

/-- 'vouchsafelaw02.JsonAsks': WHATEVER THE INPUT: true; the input reads as it did. -/
def jsonAsksSpec : ChangeSpec := { name := "jsonAsks", fn := fun _ => fun
  | [d1, d2, d3] => { results := [.lit (.bool true)], args := [d1, d2, d3] }
  | _ => none }
def jsonAsksRow : OpenClaim := { program := "ytpinidlfcifeeaa", sum := "dd17cdc5eb3f5f587bde29035f898b31789a8290f9894c77b1773105ebd368e7", func := "vouchsafe/vouchsafelaw02.JsonAsks", spec := "jsonAsks", inPlace := ["slices.overlaps[string]", "slices.overlaps[vouchsafe/api.Value]"], unfollowed := true, recurses := true, loops := true, apart := false }
def JsonAsksSaid : Prop := jsonAsksRow.holds Try.pinned (OpenSpec.ofChange jsonAsksSpec)

/-- ITS FALSE NEIGHBOUR: 'it returns false'. Refute it at one input. -/
def jsonAsksWrong : ChangeSpec := { name := "jsonAsks", fn := fun _ => fun
  | [d1, d2, d3] => { results := [.lit (.bool false)], args := [d1, d2, d3] }
  | _ => none }
def JsonAsksWrongFalsely : Prop := jsonAsksRow.holds Try.pinned (OpenSpec.ofChange jsonAsksWrong)

/-- 'vouchsafelaw02.JsonWith': WHATEVER THE INPUT: true; the input reads as it did. -/
def jsonWithSpec : ChangeSpec := { name := "jsonWith", fn := fun _ => fun
  | [d1, d2, d3] => { results := [.lit (.bool true)], args := [d1, d2, d3] }
  | _ => none }
def jsonWithRow : OpenClaim := { program := "ytpinidlfcifeeaa", sum := "dd17cdc5eb3f5f587bde29035f898b31789a8290f9894c77b1773105ebd368e7", func := "vouchsafe/vouchsafelaw02.JsonWith", spec := "jsonWith", inPlace := ["slices.overlaps[string]", "slices.overlaps[vouchsafe/api.Value]"], unfollowed := true, recurses := true, loops := true, apart := false }
def JsonWithSaid : Prop := jsonWithRow.holds Try.pinned (OpenSpec.ofChange jsonWithSpec)

/-- ITS FALSE NEIGHBOUR: 'it returns false'. Refute it at one input. -/
def jsonWithWrong : ChangeSpec := { name := "jsonWith", fn := fun _ => fun
  | [d1, d2, d3] => { results := [.lit (.bool false)], args := [d1, d2, d3] }
  | _ => none }
def JsonWithWrongFalsely : Prop := jsonWithRow.holds Try.pinned (OpenSpec.ofChange jsonWithWrong)

/-- 'vouchsafelaw02.JsonMakes': WHATEVER THE INPUT: true; the input reads as it did. -/
def jsonMakesSpec : ChangeSpec := { name := "jsonMakes", fn := fun _ => fun
  | [d] => { results := [.lit (.bool true)], args := [d] }
  | _ => none }
def jsonMakesRow : OpenClaim := { program := "ytpinidlfcifeeaa", sum := "dd17cdc5eb3f5f587bde29035f898b31789a8290f9894c77b1773105ebd368e7", func := "vouchsafe/vouchsafelaw02.JsonMakes", spec := "jsonMakes", inPlace := ["slices.overlaps[string]", "slices.overlaps[vouchsafe/api.Value]"], unfollowed := true, recurses := true, loops := true, apart := false }
def JsonMakesSaid : Prop := jsonMakesRow.holds Try.pinned (OpenSpec.ofChange jsonMakesSpec)

/-- ITS FALSE NEIGHBOUR: 'it returns false'. Refute it at one input. -/
def jsonMakesWrong : ChangeSpec := { name := "jsonMakes", fn := fun _ => fun
  | [d] => { results := [.lit (.bool false)], args := [d] }
  | _ => none }
def JsonMakesWrongFalsely : Prop := jsonMakesRow.holds Try.pinned (OpenSpec.ofChange jsonMakesWrong)

/-- 'vouchsafelaw02.JsonName': WHATEVER THE INPUT: true; the input reads as it did. -/
def jsonNameSpec : ChangeSpec := { name := "jsonName", fn := fun _ => fun
  | [d1, d2, d3] => { results := [.lit (.bool true)], args := [d1, d2, d3] }
  | _ => none }
def jsonNameRow : OpenClaim := { program := "ytpinidlfcifeeaa", sum := "dd17cdc5eb3f5f587bde29035f898b31789a8290f9894c77b1773105ebd368e7", func := "vouchsafe/vouchsafelaw02.JsonName", spec := "jsonName", inPlace := ["slices.overlaps[string]", "slices.overlaps[vouchsafe/api.Value]"], unfollowed := true, recurses := true, loops := true, apart := false }
def JsonNameSaid : Prop := jsonNameRow.holds Try.pinned (OpenSpec.ofChange jsonNameSpec)

/-- ITS FALSE NEIGHBOUR: 'it returns false'. Refute it at one input. -/
def jsonNameWrong : ChangeSpec := { name := "jsonName", fn := fun _ => fun
  | [d1, d2, d3] => { results := [.lit (.bool false)], args := [d1, d2, d3] }
  | _ => none }
def JsonNameWrongFalsely : Prop := jsonNameRow.holds Try.pinned (OpenSpec.ofChange jsonNameWrong)

/-- 'vouchsafelaw02.JsonBlanks': WHATEVER THE INPUT: true; the input reads as it did. -/
def jsonBlanksSpec : ChangeSpec := { name := "jsonBlanks", fn := fun _ => fun
  | [d1, d2] => { results := [.lit (.bool true)], args := [d1, d2] }
  | _ => none }
def jsonBlanksRow : OpenClaim := { program := "ytpinidlfcifeeaa", sum := "dd17cdc5eb3f5f587bde29035f898b31789a8290f9894c77b1773105ebd368e7", func := "vouchsafe/vouchsafelaw02.JsonBlanks", spec := "jsonBlanks", inPlace := ["slices.overlaps[string]", "slices.overlaps[vouchsafe/api.Value]"], unfollowed := true, recurses := true, apart := false }
def JsonBlanksSaid : Prop := jsonBlanksRow.holds Try.pinned (OpenSpec.ofChange jsonBlanksSpec)

/-- ITS FALSE NEIGHBOUR: 'it returns false'. Refute it at one input. -/
def jsonBlanksWrong : ChangeSpec := { name := "jsonBlanks", fn := fun _ => fun
  | [d1, d2] => { results := [.lit (.bool false)], args := [d1, d2] }
  | _ => none }
def JsonBlanksWrongFalsely : Prop := jsonBlanksRow.holds Try.pinned (OpenSpec.ofChange jsonBlanksWrong)

/-- 'vouchsafelaw02.JsonWrap': WHATEVER THE INPUT: true; the input reads as it did. -/
def jsonWrapSpec : ChangeSpec := { name := "jsonWrap", fn := fun _ => fun
  | [d] => { results := [.lit (.bool true)], args := [d] }
  | _ => none }
def jsonWrapRow : OpenClaim := { program := "ytpinidlfcifeeaa", sum := "dd17cdc5eb3f5f587bde29035f898b31789a8290f9894c77b1773105ebd368e7", func := "vouchsafe/vouchsafelaw02.JsonWrap", spec := "jsonWrap", inPlace := ["slices.overlaps[string]", "slices.overlaps[vouchsafe/api.Value]"], unfollowed := true, recurses := true, loops := true, apart := false }
def JsonWrapSaid : Prop := jsonWrapRow.holds Try.pinned (OpenSpec.ofChange jsonWrapSpec)

/-- ITS FALSE NEIGHBOUR: 'it returns false'. Refute it at one input. -/
def jsonWrapWrong : ChangeSpec := { name := "jsonWrap", fn := fun _ => fun
  | [d] => { results := [.lit (.bool false)], args := [d] }
  | _ => none }
def JsonWrapWrongFalsely : Prop := jsonWrapRow.holds Try.pinned (OpenSpec.ofChange jsonWrapWrong)

/-- 'vouchsafelaw02.JsonTurned': WHATEVER THE INPUT: true; the input reads as it did. -/
def jsonTurnedSpec : ChangeSpec := { name := "jsonTurned", fn := fun _ => fun
  | [d] => { results := [.lit (.bool true)], args := [d] }
  | _ => none }
def jsonTurnedRow : OpenClaim := { program := "ytpinidlfcifeeaa", sum := "dd17cdc5eb3f5f587bde29035f898b31789a8290f9894c77b1773105ebd368e7", func := "vouchsafe/vouchsafelaw02.JsonTurned", spec := "jsonTurned", inPlace := ["slices.overlaps[string]", "slices.overlaps[vouchsafe/api.Value]"], unfollowed := true, recurses := true, loops := true, apart := false }
def JsonTurnedSaid : Prop := jsonTurnedRow.holds Try.pinned (OpenSpec.ofChange jsonTurnedSpec)

/-- ITS FALSE NEIGHBOUR: 'it returns false'. Refute it at one input. -/
def jsonTurnedWrong : ChangeSpec := { name := "jsonTurned", fn := fun _ => fun
  | [d] => { results := [.lit (.bool false)], args := [d] }
  | _ => none }
def JsonTurnedWrongFalsely : Prop := jsonTurnedRow.holds Try.pinned (OpenSpec.ofChange jsonTurnedWrong)

/- THE SECOND FORM. 'bulk': how many values and letters a reading holds, each counted each time it is reached (what is shared counts as often as it is met; a slice's spare places count too). A statement '..UptoSaid' is the law's where the arguments, and the package variables that the reading takes, are together of bulk at most 1048576: NARROWER than '..Said'. Prove '..Said' where nothing that the law and all that it calls make is longer than what came in: it says more and counts as full. Else prove '..UptoSaid'. A law counts once. -/
mutual
def uptoBulk {H : Type} : DataW H → Nat
  | .lit (.string bytes) => bytes.length + 1
  | .lit _ => 1
  | .nil => 1
  | .ptr d => uptoBulk d + 1
  | .slice elems spare => uptoBulkAll elems + uptoBulkAll spare + 1
  | .agg parts => uptoBulkAll parts + 1
  | .iface _ d => uptoBulk d + 1
  | .map entries => uptoBulkEntries entries + 1
  | .held _ => 1
def uptoBulkAll {H : Type} : List (DataW H) → Nat
  | [] => 0
  | d :: r => uptoBulk d + uptoBulkAll r
def uptoBulkEntries {H : Type} : List (Lit × DataW H) → Nat
  | [] => 0
  | x :: r => uptoBulkEntry x + uptoBulkEntries r
def uptoBulkEntry {H : Type} : Lit × DataW H → Nat
  | (.string bytes, d) => bytes.length + uptoBulk d + 1
  | (_, d) => uptoBulk d + 1
 end
def uptoSmall : (H : Type) → List (DataW H) → Bool := fun _ ds => decide (uptoBulkAll ds ≤ 1048576)
def OpenSpec.upto (s : _root_.Go.ChangeSpec) : _root_.Go.OpenSpec := { _root_.Go.OpenSpec.ofChange s with cond := some uptoSmall }

/-- 'vouchsafelaw02.JsonParses', WHERE WHAT IT READS IS OF BULK AT MOST 1048576: true; the input reads as it did. -/
def jsonParsesUptoRow : OpenClaim := { program := "ytpinidlfcifeeaa", sum := "dd17cdc5eb3f5f587bde29035f898b31789a8290f9894c77b1773105ebd368e7", func := "vouchsafe/vouchsafelaw02.JsonParses", spec := "jsonParses", inPlace := ["slices.overlaps[string]", "slices.overlaps[vouchsafe/api.Value]"], unfollowed := true, recurses := true, apart := false, narrowed := true }
def JsonParsesUptoSaid : Prop := jsonParsesUptoRow.holds Try.pinned (OpenSpec.upto jsonParsesSpec)

/-- 'vouchsafelaw02.JsonAsks', WHERE WHAT IT READS IS OF BULK AT MOST 1048576: true; the input reads as it did. -/
def jsonAsksUptoRow : OpenClaim := { program := "ytpinidlfcifeeaa", sum := "dd17cdc5eb3f5f587bde29035f898b31789a8290f9894c77b1773105ebd368e7", func := "vouchsafe/vouchsafelaw02.JsonAsks", spec := "jsonAsks", inPlace := ["slices.overlaps[string]", "slices.overlaps[vouchsafe/api.Value]"], unfollowed := true, recurses := true, loops := true, apart := false, narrowed := true }
def JsonAsksUptoSaid : Prop := jsonAsksUptoRow.holds Try.pinned (OpenSpec.upto jsonAsksSpec)

/-- 'vouchsafelaw02.JsonWith', WHERE WHAT IT READS IS OF BULK AT MOST 1048576: true; the input reads as it did. -/
def jsonWithUptoRow : OpenClaim := { program := "ytpinidlfcifeeaa", sum := "dd17cdc5eb3f5f587bde29035f898b31789a8290f9894c77b1773105ebd368e7", func := "vouchsafe/vouchsafelaw02.JsonWith", spec := "jsonWith", inPlace := ["slices.overlaps[string]", "slices.overlaps[vouchsafe/api.Value]"], unfollowed := true, recurses := true, loops := true, apart := false, narrowed := true }
def JsonWithUptoSaid : Prop := jsonWithUptoRow.holds Try.pinned (OpenSpec.upto jsonWithSpec)

/-- 'vouchsafelaw02.JsonMakes', WHERE WHAT IT READS IS OF BULK AT MOST 1048576: true; the input reads as it did. -/
def jsonMakesUptoRow : OpenClaim := { program := "ytpinidlfcifeeaa", sum := "dd17cdc5eb3f5f587bde29035f898b31789a8290f9894c77b1773105ebd368e7", func := "vouchsafe/vouchsafelaw02.JsonMakes", spec := "jsonMakes", inPlace := ["slices.overlaps[string]", "slices.overlaps[vouchsafe/api.Value]"], unfollowed := true, recurses := true, loops := true, apart := false, narrowed := true }
def JsonMakesUptoSaid : Prop := jsonMakesUptoRow.holds Try.pinned (OpenSpec.upto jsonMakesSpec)

/-- 'vouchsafelaw02.JsonName', WHERE WHAT IT READS IS OF BULK AT MOST 1048576: true; the input reads as it did. -/
def jsonNameUptoRow : OpenClaim := { program := "ytpinidlfcifeeaa", sum := "dd17cdc5eb3f5f587bde29035f898b31789a8290f9894c77b1773105ebd368e7", func := "vouchsafe/vouchsafelaw02.JsonName", spec := "jsonName", inPlace := ["slices.overlaps[string]", "slices.overlaps[vouchsafe/api.Value]"], unfollowed := true, recurses := true, loops := true, apart := false, narrowed := true }
def JsonNameUptoSaid : Prop := jsonNameUptoRow.holds Try.pinned (OpenSpec.upto jsonNameSpec)

/-- 'vouchsafelaw02.JsonBlanks', WHERE WHAT IT READS IS OF BULK AT MOST 1048576: true; the input reads as it did. -/
def jsonBlanksUptoRow : OpenClaim := { program := "ytpinidlfcifeeaa", sum := "dd17cdc5eb3f5f587bde29035f898b31789a8290f9894c77b1773105ebd368e7", func := "vouchsafe/vouchsafelaw02.JsonBlanks", spec := "jsonBlanks", inPlace := ["slices.overlaps[string]", "slices.overlaps[vouchsafe/api.Value]"], unfollowed := true, recurses := true, apart := false, narrowed := true }
def JsonBlanksUptoSaid : Prop := jsonBlanksUptoRow.holds Try.pinned (OpenSpec.upto jsonBlanksSpec)

/-- 'vouchsafelaw02.JsonWrap', WHERE WHAT IT READS IS OF BULK AT MOST 1048576: true; the input reads as it did. -/
def jsonWrapUptoRow : OpenClaim := { program := "ytpinidlfcifeeaa", sum := "dd17cdc5eb3f5f587bde29035f898b31789a8290f9894c77b1773105ebd368e7", func := "vouchsafe/vouchsafelaw02.JsonWrap", spec := "jsonWrap", inPlace := ["slices.overlaps[string]", "slices.overlaps[vouchsafe/api.Value]"], unfollowed := true, recurses := true, loops := true, apart := false, narrowed := true }
def JsonWrapUptoSaid : Prop := jsonWrapUptoRow.holds Try.pinned (OpenSpec.upto jsonWrapSpec)

/-- 'vouchsafelaw02.JsonTurned', WHERE WHAT IT READS IS OF BULK AT MOST 1048576: true; the input reads as it did. -/
def jsonTurnedUptoRow : OpenClaim := { program := "ytpinidlfcifeeaa", sum := "dd17cdc5eb3f5f587bde29035f898b31789a8290f9894c77b1773105ebd368e7", func := "vouchsafe/vouchsafelaw02.JsonTurned", spec := "jsonTurned", inPlace := ["slices.overlaps[string]", "slices.overlaps[vouchsafe/api.Value]"], unfollowed := true, recurses := true, loops := true, apart := false, narrowed := true }
def JsonTurnedUptoSaid : Prop := jsonTurnedUptoRow.holds Try.pinned (OpenSpec.upto jsonTurnedSpec)

end Rows
end Go.Proofs.Ytpinidlfcifeeaa
