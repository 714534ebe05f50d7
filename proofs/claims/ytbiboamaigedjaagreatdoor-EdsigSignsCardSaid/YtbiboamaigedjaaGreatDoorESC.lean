/- The types of the program, for the machine of symbols. Operations in any order: an invariant of what has run, of its values and of the world. No progra -/
import Derived.Laws.Externs
import Derived.LoopN
import Derived.Lib.Mul64
import Derived.Shelf.Spec.BitsCarry
import Derived.Test.YtbiboamaigedjaaGreatDoorESB
namespace Go.Proofs.YtbiboamaigedjaaGreatDoor
open Go.RowKit
set_option linter.unusedVariables false
set_option linter.unusedSimpArgs false
set_option maxRecDepth 8000
set_option maxHeartbeats 2000000

def tt : TT := { M := 162, tr := (.t (.t (.t (.t (.t (.t (.t .n (some { s := 4, g := true, n := 4, e := 47, q := 1, u := true, z := some [.i .u64 0, .i .u64 0, .i .u64 0, .i .u64 0] }) .n) none (.t (.t .n (some { s := 1, g := false, k := some .i32, z := some [.i .i32 0] }) .n) (some { s := 1, g := false, z := some [.v .nilFunc] }) .n)) (some { s := 1, g := false, z := some [.v (.pointer none)] }) (.t (.t (.t .n (some { s := 1, g := false, z := some [.v .nilFunc] }) .n) (some { s := 1, g := false, z := some [.v .nilFunc] }) .n) (some { s := 1, g := false, k := some .u64, z := some [.i .u64 0] }) (.t .n (some { s := 1, g := false, z := some [.v (.pointer none)] }) .n))) (some { s := 4, g := true, o := [(0, 1), (1, 1), (2, 1), (3, 1)], z := some [.i .i64 0, .i .i64 0, .l false, .i .u8 0] }) (.t (.t (.t (.t .n (some { s := 1, g := false, z := some [.v .nilFunc] }) .n) (some { s := 1, g := false, z := some [.v .nilFunc] }) .n) (some { s := 1, g := false, z := some [.v .nilFunc] }) (.t .n (some { s := 320, g := true, n := 16, e := 53, q := 20, z := some [.a .u64 (List.replicate 320 0) 320] }) .n)) (some { s := 1, g := false, y := 2, e := 5, z := some [.o none 0 0] }) (.t (.t .n (some { s := 1, g := false, z := some [.v .nilFunc] }) .n) (some { s := 1, g := false, y := 2, e := 22, z := some [.o none 0 0] }) (.t .n (some { s := 1, g := false, z := some [.v .nilFunc] }) .n)))) (some { s := 1, g := false, k := some .i64, z := some [.i .i64 0] }) (.t (.t (.t (.t (.t .n (some { s := 1, g := false, z := some [.v .nilFunc] }) .n) (some { s := 1, g := false, z := some [.v .nilFunc] }) .n) (some { s := 1, g := false, z := some [.v .nilFunc] }) (.t .n (some { s := 1, g := false, z := some [.v .nilFunc] }) .n)) (some { s := 1, g := true, o := [(0, 1)], z := some [.v (.pointer none)] }) (.t (.t (.t .n (some { s := 1, g := false, z := some [.v .nilFunc] }) .n) (some { s := 1, g := false, z := some [.v .nilFunc] }) .n) (some { s := 10, g := true, o := [(0, 5), (5, 5)], z := some [.i .u64 0, .i .u64 0, .i .u64 0, .i .u64 0, .i .u64 0, .i .u64 0, .i .u64 0, .i .u64 0, .i .u64 0, .i .u64 0] }) .n)) (some { s := 1, g := false, y := 1, z := some [.s ⟨#[]⟩] }) (.t (.t (.t (.t .n (some { s := 80, g := true, n := 80, e := 85, q := 1, u := true, z := some [.a .u32 (List.replicate 80 0) 80] }) .n) (some { s := 1, g := false, k := some .u64, z := some [.i .u64 0] }) .n) (some { s := 1, g := false, k := some .i64, z := some [.i .i64 0] }) (.t .n (some { s := 1, g := false, z := some [.v .nilFunc] }) .n)) (some { s := 1, g := false, z := some [.v .nilFunc] }) (.t (.t (.t .n (some { s := 1, g := false, k := some .u8, z := some [.i .u8 0] }) .n) (some { s := 1, g := false, z := some [.v .nilFunc] }) .n) (some { s := 1, g := false, z := some [.v .nilFunc] }) (.t .n (some { s := 12, g := true, n := 4, e := 122, q := 3, z := some [.i .i64 0, .i .i64 0, .i .i64 0, .i .i64 0, .i .i64 0, .i .i64 0, .i .i64 0, .i .i64 0, .i .i64 0, .i .i64 0, .i .i64 0, .i .i64 0] }) .n))))) (some { s := 1, g := false, z := some [.v .nilFunc] }) (.t (.t (.t (.t (.t .n (some { s := 12, g := true, o := [(0, 4), (4, 4), (8, 4)], z := some [.i .u64 0, .i .u64 0, .i .u64 0, .i .u64 0, .i .u64 0, .i .u64 0, .i .u64 0, .i .u64 0, .i .u64 0, .i .u64 0, .i .u64 0, .i .u64 0] }) .n) none (.t (.t .n (some { s := 11, g := true, o := [(0, 1), (1, 1), (2, 1), (3, 1), (4, 1), (5, 1), (6, 1), (7, 1), (8, 1), (9, 1), (10, 1)], z := some [.i .u64 0, .i .u64 0, .i .u32 0, .i .u8 0, .i .u8 0, .i .u8 0, .i .u8 0, .v .nilFunc, .v (.pointer none), .i .i32 0, .i .i32 0] }) .n) (some { s := 1, g := false, z := some [.v .nilFunc] }) .n)) (some { s := 1, g := false, z := some [.v (.pointer none)] }) (.t (.t (.t .n (some { s := 1, g := false, z := some [.v .nilFunc] }) .n) (some { s := 1, g := false, z := some [.v .nilFunc] }) .n) (some { s := 5, g := true, n := 5, e := 47, q := 1, u := true, z := some [.i .u64 0, .i .u64 0, .i .u64 0, .i .u64 0, .i .u64 0] }) (.t .n (some { s := 1, g := false, z := some [.v .nilFunc] }) .n))) (some { s := 1, g := false, y := 1, z := some [.s ⟨#[]⟩] }) (.t (.t (.t (.t .n (some { s := 1, g := false, z := some [.v .nilFunc] }) .n) (some { s := 1, g := false, z := some [.v .nilFunc] }) .n) (some { s := 1, g := false, z := some [.v .nilFunc] }) (.t .n (some { s := 1, g := false, z := some [.v .nilFunc] }) .n)) (some { s := 1, g := false, z := some [.v .nilFunc] }) (.t (.t (.t .n (some { s := 1, g := false, z := some [.v .nilFunc] }) .n) (some { s := 14, g := true, o := [(0, 1), (1, 1), (2, 8), (10, 1), (11, 1), (12, 1), (13, 1)], z := some [.i .i64 0, .i .i64 0, .i .u32 0, .i .u32 0, .i .u32 0, .i .u32 0, .i .u32 0, .i .u32 0, .i .u32 0, .i .u32 0, .v .nilFunc, .v .nilFunc, .v .nilFunc, .v .nilFunc] }) .n) (some { s := 1, g := false, y := 2, e := 53, z := some [.o none 0 0] }) (.t .n (some { s := 1, g := false, z := some [.v .nilFunc] }) .n)))) (some { s := 1, g := false, k := some .u8, z := some [.i .u8 0] }) (.t (.t (.t (.t (.t .n (some { s := 2, g := true, o := [(0, 1), (1, 1)], z := some [.i .u64 0, .i .u64 0] }) .n) (some { s := 8, g := true, n := 8, e := 47, q := 1, u := true, z := some [.i .u64 0, .i .u64 0, .i .u64 0, .i .u64 0, .i .u64 0, .i .u64 0, .i .u64 0, .i .u64 0] }) .n) (some { s := 1, g := false, z := some [.v .nilFunc] }) (.t .n (some { s := 1, g := false, z := some [.v .nilFunc] }) .n)) (some { s := 1, g := false, k := some .i32, z := some [.i .i32 0] }) (.t (.t (.t .n (some { s := 4, g := true, o := [(0, 1), (1, 1), (2, 1), (3, 1)], z := some [.v (.pointer none), .v (.pointer none), .v (.pointer none), .s ⟨#[]⟩] }) .n) (some { s := 1, g := false, k := some .u32, z := some [.i .u32 0] }) .n) (some { s := 20, g := true, o := [(0, 10), (10, 5), (15, 5)], z := some [.i .u64 0, .i .u64 0, .i .u64 0, .i .u64 0, .i .u64 0, .i .u64 0, .i .u64 0, .i .u64 0, .i .u64 0, .i .u64 0, .i .u64 0, .i .u64 0, .i .u64 0, .i .u64 0, .i .u64 0, .i .u64 0, .i .u64 0, .i .u64 0, .i .u64 0, .i .u64 0] }) (.t .n (some { s := 1, g := false, z := some [.v .nilFunc] }) .n))) (some { s := 2, g := true, o := [(0, 1), (1, 1)], z := some [.s ⟨#[]⟩, .i .u64 0] }) (.t (.t (.t (.t .n (some { s := 1, g := false, z := some [.v .nilFunc] }) .n) (some { s := 14, g := true, o := [(0, 1), (1, 1), (2, 8), (10, 1), (11, 1), (12, 1), (13, 1)], z := some [.i .i64 0, .i .i64 0, .i .u64 0, .i .u64 0, .i .u64 0, .i .u64 0, .i .u64 0, .i .u64 0, .i .u64 0, .i .u64 0, .v .nilFunc, .v .nilFunc, .v .nilFunc, .v .nilFunc] }) .n) (some { s := 1, g := false, z := some [.v .nilFunc] }) (.t .n (some { s := 1, g := false, z := some [.v .nilFunc] }) .n)) (some { s := 1, g := false, z := some [.v .nilFunc] }) (.t (.t (.t .n (some { s := 1, g := false, z := some [.v (.pointer none)] }) .n) (some { s := 1, g := false, z := some [.v .nilFunc] }) .n) (some { s := 1, g := false, z := some [.v .nilFunc] }) (.t .n (some { s := 80, g := true, n := 80, e := 47, q := 1, u := true, z := some [.a .u64 (List.replicate 80 0) 80] }) .n)))))) none (.t (.t (.t (.t (.t (.t (.t .n (some { s := 1, g := false, z := some [.v .nilFunc] }) .n) (some { s := 12, g := true, o := [(0, 4), (4, 4), (8, 4)], z := some [.i .u64 0, .i .u64 0, .i .u64 0, .i .u64 0, .i .u64 0, .i .u64 0, .i .u64 0, .i .u64 0, .i .u64 0, .i .u64 0, .i .u64 0, .i .u64 0] }) .n) (some { s := 1, g := false, z := some [.v .nilFunc] }) (.t (.t .n (some { s := 11, g := true, o := [(0, 1), (1, 1), (2, 1), (3, 1), (4, 1), (5, 1), (6, 1), (7, 1), (8, 1), (9, 1), (10, 1)], z := some [.i .u64 0, .i .u64 0, .i .u32 0, .i .u8 0, .i .u8 0, .i .u8 0, .i .u8 0, .v .nilFunc, .v (.pointer none), .i .i32 0, .i .i32 0] }) .n) none .n)) (some { s := 1, g := false, z := some [.v (.pointer none)] }) (.t (.t (.t .n (some { s := 1, g := false, z := some [.v .nilFunc] }) .n) (some { s := 1, g := false, z := some [.v .nilFunc] }) .n) (some { s := 5, g := true, n := 5, e := 47, q := 1, u := true, z := some [.i .u64 0, .i .u64 0, .i .u64 0, .i .u64 0, .i .u64 0] }) (.t .n (some { s := 1, g := false, z := some [.v .nilFunc] }) .n))) (some { s := 4, g := true, o := [(0, 1), (1, 1), (2, 1), (3, 1)], z := some [.i .i64 0, .i .i64 0, .l false, .i .u8 0] }) (.t (.t (.t (.t .n (some { s := 1, g := false, z := some [.v .nilFunc] }) .n) (some { s := 1, g := false, y := 2, e := 23, z := some [.o none 0 0] }) .n) (some { s := 1, g := false, z := some [.v .nilFunc] }) (.t .n (some { s := 1, g := false, z := some [.v .nilFunc] }) .n)) (some { s := 1, g := false, z := some [.v .nilFunc] }) (.t (.t .n (some { s := 8, g := true, n := 8, e := 85, q := 1, u := true, z := some [.i .u32 0, .i .u32 0, .i .u32 0, .i .u32 0, .i .u32 0, .i .u32 0, .i .u32 0, .i .u32 0] }) .n) (some { s := 1, g := false, z := some [.v .nilFunc] }) (.t .n (some { s := 1, g := false, z := some [.v (.pointer none)] }) .n)))) (some { s := 1, g := false, y := 3, z := some [.l false] }) (.t (.t (.t (.t (.t .n (some { s := 2, g := true, o := [(0, 1), (1, 1)], z := some [.i .u64 0, .i .u64 0] }) .n) (some { s := 8, g := true, n := 8, e := 47, q := 1, u := true, z := some [.i .u64 0, .i .u64 0, .i .u64 0, .i .u64 0, .i .u64 0, .i .u64 0, .i .u64 0, .i .u64 0] }) .n) (some { s := 1, g := false, z := some [.v .nilFunc] }) (.t .n (some { s := 1, g := false, z := some [.v .nilFunc] }) .n)) none (.t (.t (.t .n (some { s := 4, g := true, o := [(0, 1), (1, 1), (2, 1), (3, 1)], z := some [.v (.pointer none), .v (.pointer none), .v (.pointer none), .s ⟨#[]⟩] }) .n) (some { s := 1, g := false, z := some [.v .nilFunc] }) .n) (some { s := 20, g := true, o := [(0, 10), (10, 5), (15, 5)], z := some [.i .u64 0, .i .u64 0, .i .u64 0, .i .u64 0, .i .u64 0, .i .u64 0, .i .u64 0, .i .u64 0, .i .u64 0, .i .u64 0, .i .u64 0, .i .u64 0, .i .u64 0, .i .u64 0, .i .u64 0, .i .u64 0, .i .u64 0, .i .u64 0, .i .u64 0, .i .u64 0] }) (.t .n (some { s := 1, g := false, z := some [.v .nilFunc] }) .n))) (some { s := 1, g := false, k := some .u64, z := some [.i .u64 0] }) (.t (.t (.t (.t .n (some { s := 1, g := false, z := some [.v .nilFunc] }) .n) (some { s := 14, g := true, o := [(0, 1), (1, 1), (2, 8), (10, 1), (11, 1), (12, 1), (13, 1)], z := some [.i .i64 0, .i .i64 0, .i .u64 0, .i .u64 0, .i .u64 0, .i .u64 0, .i .u64 0, .i .u64 0, .i .u64 0, .i .u64 0, .v .nilFunc, .v .nilFunc, .v .nilFunc, .v .nilFunc] }) .n) none (.t .n (some { s := 1, g := false, z := some [.v .nilFunc] }) .n)) (some { s := 1, g := false, z := some [.v .nilFunc] }) (.t (.t (.t .n (some { s := 1, g := false, z := some [.v .nilFunc] }) .n) none .n) (some { s := 1, g := false, z := some [.v .nilFunc] }) (.t .n (some { s := 1, g := false, z := some [.v .nilFunc] }) .n))))) (some { s := 1, g := false, k := some .i64, z := some [.i .i64 0] }) (.t (.t (.t (.t (.t (.t .n (some { s := 1, g := false, z := some [.v .nilFunc] }) .n) (some { s := 1, g := false, z := some [.v .nilFunc] }) .n) (some { s := 1, g := false, z := some [.v .nilFunc] }) (.t .n (some { s := 1, g := false, z := some [.v .nilFunc] }) .n)) (some { s := 1, g := true, o := [(0, 1)], z := some [.v (.pointer none)] }) (.t (.t (.t .n (some { s := 1, g := false, z := some [.v (.pointer none)] }) .n) (some { s := 1, g := false, z := some [.v .nilFunc] }) .n) (some { s := 10, g := true, o := [(0, 5), (5, 5)], z := some [.i .u64 0, .i .u64 0, .i .u64 0, .i .u64 0, .i .u64 0, .i .u64 0, .i .u64 0, .i .u64 0, .i .u64 0, .i .u64 0] }) (.t .n (some { s := 1, g := false, y := 2, e := 47, z := some [.o none 0 0] }) .n))) (some { s := 1, g := false, y := 1, z := some [.s ⟨#[]⟩] }) (.t (.t (.t (.t .n (some { s := 1, g := false, z := some [.v .nilFunc] }) .n) (some { s := 1, g := false, z := some [.v .nilFunc] }) .n) (some { s := 1, g := false, z := some [.v .nilFunc] }) (.t .n (some { s := 1, g := false, z := some [.v .nilFunc] }) .n)) (some { s := 64, g := true, n := 64, e := 5, q := 1, u := true, z := some [.a .u8 (List.replicate 64 0) 64] }) (.t (.t (.t .n (some { s := 1, g := false, k := some .u8, z := some [.i .u8 0] }) .n) (some { s := 14, g := true, o := [(0, 1), (1, 1), (2, 8), (10, 1), (11, 1), (12, 1), (13, 1)], z := some [.i .i64 0, .i .i64 0, .i .u32 0, .i .u32 0, .i .u32 0, .i .u32 0, .i .u32 0, .i .u32 0, .i .u32 0, .i .u32 0, .v .nilFunc, .v .nilFunc, .v .nilFunc, .v .nilFunc] }) .n) (some { s := 1, g := false, z := some [.v .nilFunc] }) (.t .n (some { s := 3, g := true, n := 3, e := 3, q := 1, u := true, z := some [.i .i64 0, .i .i64 0, .i .i64 0] }) .n)))) (some { s := 1, g := false, k := some .u8, z := some [.i .u8 0] }) (.t (.t (.t (.t (.t .n (some { s := 1, g := false, z := some [.v .nilFunc] }) .n) (some { s := 4, g := true, n := 4, e := 47, q := 1, u := true, z := some [.i .u64 0, .i .u64 0, .i .u64 0, .i .u64 0] }) .n) (some { s := 1, g := false, z := some [.v .nilFunc] }) (.t .n (some { s := 1, g := false, y := 2, e := 103, z := some [.o none 0 0] }) .n)) (some { s := 32, g := true, n := 32, e := 5, q := 1, u := true, z := some [.a .u8 (List.replicate 32 0) 32] }) (.t (.t .n (some { s := 1, g := false, z := some [.v .nilFunc] }) .n) (some { s := 1, g := false, z := some [.v .nilFunc] }) .n)) (some { s := 2, g := true, o := [(0, 1), (1, 1)], z := some [.s ⟨#[]⟩, .i .u64 0] }) (.t (.t (.t .n (some { s := 1, g := false, z := some [.v .nilFunc] }) .n) (some { s := 1, g := false, z := some [.v .nilFunc] }) (.t .n (some { s := 1, g := false, z := some [.v .nilFunc] }) .n)) (some { s := 1, g := false, z := some [.v .nilFunc] }) (.t (.t (.t .n (some { s := 1, g := false, k := some .i32, z := some [.i .i32 0] }) .n) (some { s := 1, g := false, z := some [.v .nilFunc] }) .n) (some { s := 4, g := true, n := 4, e := 47, q := 1, u := true, z := some [.i .u64 0, .i .u64 0, .i .u64 0, .i .u64 0] }) (.t .n (some { s := 1, g := false, z := some [.v .nilFunc] }) .n))))))) }
theorem Qw : TT.ok Tryz.prog tt = true := by kernel_rfl
section
variable {P : Program} {ops : Array Oper} {md : Region.Mode}
/-- As E5, where G speaks of the values too; where what waits for one is not asked to bear it. G holds throughout, said of which operations have run; what is shown of an operation (F) bears what others do to the world (R). -/
theorem KE {Q : Exit -> Act -> World -> Prop} (hb : Ud md ops = true) (a : Act) (G : (Nat -> Bool) -> (Nat -> Value) -> World -> Prop) (F : Eb) (R : Nat -> (Nat -> Value) -> World -> World -> Prop)
    (hF : ∀ i f w w' j g, R i f w w' -> j ≠ i -> i ∉ QV md ops j -> F j g w -> F j g w')
    (hstep : ∀ i o, ops[i]? = some o -> ∀ L f w, L i = false -> (∀ j, i ∈ QV md ops j -> L j = false) -> (∀ j ∈ Qz md o, L j = true) -> G L f w -> (∀ j ∈ Qz md o, F j (Zj f (j :: QV md ops j)) w) ->
      Qt P ops o (Xe ops f (Qz md o) a) w fun v w' => R i (Zj f (Qz md o)) w w' /\ G (Yq L i true) (Yq f i v) w' /\ F i (Zj (Yq f i v) (i :: Qz md o)) w')
    (hend : ∀ L f w, (∀ j, L j = decide (j < ops.size)) -> G L f w -> (∀ j, j < ops.size -> F j (Zj f (j :: QV md ops j)) w) -> Q .normal (Xe ops f (List.range ops.size) a) w) :
    ∀ (fuel : Nat) (listed : Array Bool) (f : Nat -> Value) (a' : Act) (w : World), listed.size = ops.size -> (listed.toList.countP (fun b => !b) <= fuel) ->
      (∀ j, listed.getD j false = true -> ∀ k ∈ QV md ops j, listed.getD k false = true) ->
      Q4 ops (fun j => listed.getD j false = true) f a a' -> G (fun j => listed.getD j false) f w -> (∀ j, listed.getD j false = true -> F j (Zj f (j :: QV md ops j)) w) -> wpAny P md ops Q fuel listed a' w := by
  have ho := Fu hb
  have fin : ∀ (listed : Array Bool) (f : Nat -> Value) (a' : Act) (w : World), listed.size = ops.size -> Region.ready md ops listed = [] ->
      Q4 ops (fun j => listed.getD j false = true) f a a' -> G (fun j => listed.getD j false) f w -> (∀ j, listed.getD j false = true -> F j (Zj f (j :: QV md ops j)) w) -> Q .normal a' w := by
    intro listed f a' w hsz hr hag hg hf
    have hl := U3 hb hsz hr
    have hout : ∀ j, listed.getD j false = true -> j < ops.size := by
      intro j h
      rcases Nat.lt_or_ge j ops.size with h' | h'
      . exact h'
      . simp [Array.getElem?_eq_none (by omega : listed.size <= j)] at h
    have e : a' = Xe ops f (List.range ops.size) a := by
      refine hag.unique ((Q4.of ho f a (List.range ops.size)).congr (fun j => ?_) (fun _ _ => rfl))
      rw [List.mem_range]
      exact ⟨hl j, hout j⟩
    rw [e]
    refine hend _ f w (fun j => ?_) hg fun j hj => hf j (hl j hj)
    by_cases hj : j < ops.size
    . rw [hl j hj]; simp [hj]
    . have : ¬ listed.getD j false = true := fun h => hj (hout j h)
      rw [Bool.not_eq_true] at this
      rw [this]; simp [hj]
  intro fuel
  induction fuel with
  | zero =>
    intro listed f a' w hsz hc hcl hag hg hf
    have hr : Region.ready md ops listed = [] := by
      rw [List.eq_nil_iff_forall_not_mem]
      intro j hj
      obtain ⟨h0, o, hoj, _⟩ := mem_ready.1 hj
      have hjs : j < ops.size := (Array.getElem?_eq_some_iff.1 hoj).1
      have hc0 : listed.toList.countP (fun b => !b) = 0 := by omega
      rw [List.countP_eq_zero] at hc0
      have h1 := hc0 listed[j] (by simp)
      rw [Array.getD_eq_getD_getElem?, Array.getElem?_eq_getElem (by omega)] at h0
      simp only [Option.getD_some] at h0
      rw [h0] at h1
      exact h1 rfl
    exact ⟨hr, fin listed f a' w hsz hr hag hg hf⟩
  | succ fuel ih =>
    intro listed f a' w hsz hc hcl hag hg hf
    refine ⟨fun hr => fin listed f a' w hsz hr hag hg hf, fun i hi => ?_⟩
    obtain ⟨h0, o, hoi, hdep⟩ := mem_ready.1 hi
    have his : i < ops.size := (Array.getElem?_eq_some_iff.1 hoi).1
    obtain ⟨hsel, hlt, hlook⟩ := Vk hb hoi
    have hdl : ∀ j ∈ Qz md o, listed.getD j false = true := by
      intro j hj
      obtain ⟨e, he, rfl⟩ := List.mem_map.1 hj
      obtain ⟨he1, he2⟩ := List.mem_filter.1 he
      exact hdep e (by simpa using he1) he2
    have hun : ¬ listed.getD i false = true := by
      intro h
      rw [Array.getD_eq_getD_getElem?, Array.getElem?_eq_getElem (by omega)] at h0 h
      simp only [Option.getD_some] at h0 h
      rw [h0] at h
      cases h
    have hA := Q4.of ho f a (Qz md o)
    have hdst : o.dst = Xd ops i := by simp [Xd, hoi]
    have hset : ∀ j, (listed.setIfInBounds i true).getD j false = Yq (fun j => listed.getD j false) i true j := by
      intro j
      unfold Yq
      by_cases e : j = i
      . subst e
        simp [Array.getD_eq_getD_getElem?, hsz, his]
      . rw [getD_set_ne false (fun h => e h.symm), if_neg e]
    refine Qt.wpOp hoi hsel (a := Xe ops f (Qz md o) a) (by rw [hag.size, hA.size]) (fun t ht => ?_)
      (hstep i o hoi (fun j => listed.getD j false) f w (by simpa using hun) (fun j hj => by
        rw [<- Bool.not_eq_true]
        exact fun h => hun (hcl j h i hj)) hdl hg fun j hj => hf j (hdl j hj)) fun v w' hR => ?_
    . by_cases hts : t < a.tmps.size
      . by_cases e : ∃ j, Xd ops j = some t
        . obtain ⟨j, hd⟩ := e
          have hj' : j < ops.size := by
            rcases Nat.lt_or_ge j ops.size with h | h
            . exact h
            . simp [Xd, Array.getElem?_eq_none h] at hd
          have hl := hlook j t hj' hd
          by_cases hjd : j ∈ Qz md o
          . rw [hag.put j t (hdl j hjd) hd hts, hA.put j t hjd hd hts]
          . have hjl : ¬ listed.getD j false = true := by
              intro hjl
              rcases hl.1 ht with h | h | h
              . exact hun (h ▸ hjl)
              . exact hjd h
              . exact hun (hcl j hjl i h)
            rw [hag.same t (fun k hk hkd => hjl (ho k j t hkd hd ▸ hk)), hA.same t (fun k hk hkd => hjd (ho k j t hkd hd ▸ hk))]
        . have hn : ∀ j, Xd ops j ≠ some t := fun j hj => e ⟨j, hj⟩
          rw [hag.same t (fun j _ => hn j), hA.same t (fun j _ => hn j)]
      . rw [Array.getElem?_eq_none (by rw [hag.size]; exact Nat.le_of_not_lt hts), Array.getElem?_eq_none (by rw [hA.size]; exact Nat.le_of_not_lt hts)]
    . obtain ⟨hR1, hR3, hR2⟩ := hR
      have hset' : ∀ j, (listed.setIfInBounds i true).getD j false = true ↔ (j = i \/ listed.getD j false = true) := by
        intro j
        rw [hset j]
        unfold Yq
        by_cases e : j = i <;> simp [e]
      rw [hdst]
      refine ih (listed.setIfInBounds i true) (Yq f i v) _ w' (by simp [hsz]) ?_ ?_ ?_ (by rw [show (fun j => (listed.setIfInBounds i true).getD j false) = Yq (fun j => listed.getD j false) i true from funext hset]; exact hR3) ?_
      . have hc2 : (listed.setIfInBounds i true).toList.countP (fun b => !b) + 1 <= listed.toList.countP (fun b => !b) := by
          rw [Array.toList_setIfInBounds]
          have hlen : i < listed.toList.length := by simpa [hsz] using his
          have hli : listed.toList[i] = false := by
            rw [Array.getD_eq_getD_getElem?, Array.getElem?_eq_getElem (by omega)] at h0
            simpa using h0
          rw [List.countP_set hlen, hli]
          have : 0 < listed.toList.countP (fun b => !b) := List.countP_pos_iff.2 ⟨false, by rw [<- hli]; exact List.getElem_mem _, rfl⟩
          simp only [Bool.not_false, Bool.not_true, if_true, Bool.false_eq_true, if_false]
          omega
        omega
      . intro j hj k hk
        rw [hset'] at hj ⊢
        rcases hj with rfl | hj
        . rw [Yk hoi] at hk
          exact .inr (hdl k hk)
        . exact .inr (hcl j hj k hk)
      . exact hag.step ho i v hset' (fun j hji _ => by simp [Yq, hji]) (by simp [Yq])
      . intro j hj
        rw [hset'] at hj
        by_cases e : j = i
        . subst e
          rw [Yk hoi]
          exact hR2
        . have hjl := hj.resolve_left e
          have hnc : (j :: QV md ops j).contains i = false := by
            rw [<- Bool.not_eq_true, List.contains_iff_mem, List.mem_cons]
            rintro (h | h)
            . exact e h.symm
            . exact hun (hcl j hjl i h)
          rw [GF hnc]
          exact hF i _ w w' j _ hR1 e (fun h => hun (hcl j hjl i h)) (hf j hjl)
end
end Go.Proofs.YtbiboamaigedjaaGreatDoor
namespace Go.Proofs.YtbiboamaigedjaaGreatDoor
open Go.RowKit
set_option linter.unusedVariables false
set_option linter.constructorNameAsVariable false
set_option linter.unusedSimpArgs false

mutual
/-- It does not name k. -/
def SV.av (k : Nat) : SV -> Bool
  | .p j _ => !Nat.beq j k
  | .x j _ _ _ => !Nat.beq j k
  | .q j _ => !Nat.beq j k
  | .y j _ _ _ => !Nat.beq j k
  | .z j _ _ _ => !Nat.beq j k
  | .r j _ _ _ => !Nat.beq j k
  | .t l => avL k l
  | .g l => avL k l
  | .f _ l => avL k l
  | .w _ _ x => x.av k
  | .v _ => true
  | .i _ _ => true
  | .lit _ _ => true
  | .c _ _ => true
  | .l _ => true
  | .s _ => true
  | .o _ _ _ => true
  | .a _ _ _ => true
  | .u => true
def avL (k : Nat) : List SV -> Bool
  | [] => true
  | x :: l => match x.av k with
    | true => avL k l
    | false => false
end
/-- The same but at k. -/
def QS.but (k : Nat) (ρ ρ' : QS) : Prop := ∀ j, j ≠ k -> ρ.b j = ρ'.b j /\ ρ.d j = ρ'.d j
theorem E2 {j k : Nat} (h : (!Nat.beq j k) = true) : j ≠ k := by
  intro e; subst e; simp at h
mutual
theorem SV.den_but {k : Nat} {ρ ρ' : QS} (h : QS.but k ρ ρ') : ∀ x : SV, x.av k = true -> x.den ρ = x.den ρ'
  | .v x, _ => by simp only [SV.den]
  | .i K n, _ => by simp only [SV.den]
  | .lit K c, _ => by simp only [SV.den]
  | .c p d, _ => by simp only [SV.den]
  | .l b, _ => by simp only [SV.den]
  | .s x, _ => by simp only [SV.den]
  | .p j o, hw => by have := (h j (E2 (by simpa only [SV.av] using hw))).1; simp only [SV.den, this]
  | .o _ _ _, _ => by simp only [SV.den]
  | .x j o s n, hw => by have := (h j (E2 (by simpa only [SV.av] using hw))).1; simp only [SV.den, this]
  | .q j o, hw => by have := (h j (E2 (by simpa only [SV.av] using hw))).2; simp only [SV.den, this]
  | .y j _ _ _, hw => by have := (h j (E2 (by simpa only [SV.av] using hw))).1; simp only [SV.den, this]
  | .z j _ _ _, hw => by have := (h j (E2 (by simpa only [SV.av] using hw))).2; simp only [SV.den, this]
  | .r j _ _ _, hw => by have := (h j (E2 (by simpa only [SV.av] using hw))).2; simp only [SV.den, this]
  | .t l, hw => by simp only [SV.den, FS h l (by simpa only [SV.av] using hw)]
  | .g l, hw => by simp only [SV.den, Gg h l (by simpa only [SV.av] using hw)]
  | .a K zs _, _ => by simp only [SV.den]
  | .f F l, hw => by simp only [SV.den, FS h l (by simpa only [SV.av] using hw)]
  | .w p d x, hw => by
    have := SV.den_but h x (by simpa only [SV.av] using hw)
    cases d with
    | isTrue hp => simp only [SV.den, this]
    | isFalse hp => simp only [SV.den]
  | .u, _ => by simp only [SV.den]
theorem FS {k : Nat} {ρ ρ' : QS} (h : QS.but k ρ ρ') : ∀ l : List SV, avL k l = true -> QO ρ l = QO ρ' l
  | [], _ => by simp only [QO]
  | x :: l, hw => by
    unfold avL at hw
    split at hw
    . rename_i hx
      simp only [QO, SV.den_but h x hx, FS h l hw]
    . cases hw
theorem Gg {k : Nat} {ρ ρ' : QS} (h : QS.but k ρ ρ') : ∀ l : List SV, avL k l = true -> Qp ρ l = Qp ρ' l
  | [], _ => by simp only [Qp]
  | x :: l, hw => by
    unfold avL at hw
    split at hw
    . rename_i hx
      simp only [Qp, SV.den_but h x hx, Gg h l hw]
    . cases hw
end
def Jj (k : Nat) (c : Cl) : SM -> SM
  | [] => [(k, c)]
  | (j, x) :: l => match Nat.beq j k with
    | true => (j, c) :: l
    | false => (j, x) :: Jj k c l
def Qgl {α : Type} (k : Nat) (c : Cl) : SM -> (SM -> α) -> α
  | [], K => K [(k, c)]
  | (j, x) :: l, K => match Nat.beq j k with
    | true => K ((j, c) :: l)
    | false => Qgl k c l fun l' => K ((j, x) :: l')
theorem Df {α : Type} {k : Nat} {c : Cl} : ∀ {m : SM} {K : SM -> α}, Qgl k c m K = K (Jj k c m)
  | [], K => rfl
  | (j, x) :: l, K => by
    unfold Qgl Jj
    cases hk : Nat.beq j k with
    | true => rfl
    | false => exact Df
theorem ZH (k : Nat) : Nat.beq k k = true := Nat.beq_refl k
theorem X9 {j k : Nat} (h : j ≠ k) : Nat.beq j k = false := by
  cases e : Nat.beq j k with
  | false => rfl
  | true => exact absurd (Nat.eq_of_beq_eq_true e) h
theorem F5 {k : Nat} {c : Cl} : ∀ {m : SM} {q : Nat}, ZI (Jj k c m) q = if q = k then some c else ZI m q
  | [], q => by
    unfold Jj ZI
    by_cases h : q = k
    . subst h; rw [ZH, if_pos rfl]
    . rw [X9 (fun e => h e.symm), if_neg h]
      rfl
  | (j, x) :: l, q => by
    unfold Jj
    cases hk : Nat.beq j k with
    | true =>
      have e := Nat.eq_of_beq_eq_true hk
      subst e
      by_cases h : q = j
      . subst h; simp only [ZI, ZH, if_true]
      . simp only [ZI, X9 (fun e => h e.symm), if_neg h]
    | false =>
      have hne := Nat.ne_of_beq_eq_false hk
      by_cases h : q = j
      . subst h; simp only [ZI, ZH]; rw [if_neg hne]
      . simp only [ZI, X9 (fun e => h e.symm)]; exact F5
theorem ED {k : Nat} {c : Cl} : ∀ {m : SM}, (m.map Prod.fst).Nodup -> ((Jj k c m).map Prod.fst).Nodup /\ ∀ q, q ∈ (Jj k c m).map Prod.fst -> q = k \/ q ∈ m.map Prod.fst
  | [], _ => by simp [Jj]
  | (j, x) :: l, h => by
    simp only [List.map_cons, List.nodup_cons] at h
    unfold Jj
    cases hk : Nat.beq j k with
    | true => exact ⟨by simp only [List.map_cons, List.nodup_cons]; exact h, fun q hq => .inr hq⟩
    | false =>
      obtain ⟨h1, h2⟩ := ED (k := k) (c := c) h.2
      simp only [List.map_cons, List.nodup_cons]
      refine ⟨⟨fun hm => ?_, h1⟩, fun q hq => ?_⟩
      . rcases h2 j hm with e | e
        . exact Nat.ne_of_beq_eq_false hk e
        . exact h.1 e
      . cases hq with
        | head => exact .inr (.head _)
        | tail _ hq => exact (h2 q hq).imp id fun e => .tail _ e
theorem YS : ∀ {m : SM} {k : Nat} {c : Cl}, (m.map Prod.fst).Nodup -> (k, c) ∈ m -> ZI m k = some c
  | [], _, _, _, h => by cases h
  | (j, x) :: l, k, c, hn, h => by
    simp only [List.map_cons, List.nodup_cons] at hn
    cases h with
    | head => simp only [ZI, ZH]
    | tail _ h =>
      have : j ≠ k := fun e => hn.1 (e ▸ List.mem_map.2 ⟨(k, c), h, rfl⟩)
      simp only [ZI, X9 this]
      exact YS hn.2 h
theorem QdQ {ρ : QS} {m : SM} {L0 : List Nat} {x : Nat} (hn : (m.map Prod.fst).Nodup) : x ∈ own ρ m L0 ↔ (∃ k c, ZI m k = some c /\ ρ.b k = x) \/ x ∈ L0 := by
  unfold own
  rw [List.mem_append, List.mem_map]
  refine or_congr ⟨fun ⟨y, hy, e⟩ => ⟨y.1, y.2, YS hn hy, e⟩, fun ⟨k, c, hk, e⟩ => ⟨(k, c), Zu hk, e⟩⟩ Iff.rfl
section
variable {ρ : QS} {L0 : List Nat} {w0 w : World} {m m2 : SM} {d : SD} {n : Nat} {Γ : List QN}
theorem DB {m : SM} (h1 : (m.map Prod.fst).Nodup) (h2 : ∀ k c k' c', ZI m k = some c -> ZI m k' = some c' -> k ≠ k' -> ρ.b k ≠ ρ.b k') : (m.map fun x => ρ.b x.1).Nodup := by
  have : (m.map fun x => ρ.b x.1) = (m.map Prod.fst).map ρ.b := by simp
  rw [this]
  refine List.pairwise_map.2 (h1.imp_of_mem fun {a b} ha hb hne => ?_)
  obtain ⟨x, hx, rfl⟩ := List.mem_map.1 ha
  obtain ⟨y, hy, rfl⟩ := List.mem_map.1 hb
  exact h2 _ _ _ _ (YS h1 hx) (YS h1 hy) hne
theorem WM.inj (h : WM ρ L0 w0 m d n Γ w) {k k' : Nat} {c c' : Cl} (hk : ZI m k = some c) (hk' : ZI m k' = some c') (hn : k ≠ k') : ρ.b k ≠ ρ.b k' := Uy (x := (k, c)) (y := (k', c')) h.nod (Zu hk) (Zu hk') hn
/-- The own blocks in another order. -/
theorem WM.ext (h : WM ρ L0 w0 m d n Γ w) (he : ∀ k, ZI m2 k = ZI m k) (hn : (m2.map Prod.fst).Nodup) : WM ρ L0 w0 m2 d n Γ w := by
  have h1 := Zn h.nod
  have hown : ∀ x, x ∈ own ρ m2 L0 ↔ x ∈ own ρ m L0 := fun x => by rw [QdQ hn, QdQ h1]; simp only [he]
  have hmem : ∀ x ∈ m2, x ∈ m := fun x hx => Zu (by rw [<- he]; exact YS hn hx)
  exact ⟨fun x hx => h.mem x (hmem x hx), fun x hx => h.key x (hmem x hx), DB hn fun k c k' c' hk hk' hne => h.inj (by rw [<- he]; exact hk) (by rw [<- he]; exact hk') hne, fun x hx => h.low x (hmem x hx), h.bel, fun x hx => ⟨fun hx' => (h.dat x hx).1 ((hown _).1 hx'), (h.dat x hx).2⟩, h.dky, h.ll, h.hs.stp (Stp.refl _ _) fun x hx => .inl ((hown x).1 hx)⟩
theorem EC {k : Nat} {c c' : Cl} : ∀ {m : SM}, ZI m k = some c -> Km k c' m = Jj k c' m
  | [], h => by cases h
  | (j, x) :: l, h => by
    unfold ZI at h
    unfold Km Jj
    cases hk : Nat.beq j k with
    | true => rfl
    | false => rw [hk] at h; simp only; rw [EC h]
end
/-- What an operation of a drawn region does to own blocks. -/
inductive Ef where
  | no
  | wr (k : Nat) (c : Cl)
def Xj : List Ef -> SM -> SM
  | [], m => m
  | .no :: l, m => Xj l m
  | .wr k c :: l, m => Xj l (Jj k c m)
def Yv (L : Nat -> Bool) : Nat -> List Ef -> List Ef
  | _, [] => []
  | k, e :: l => (match L k with
    | true => e
    | false => .no) :: Yv L (k + 1) l
def Ef.on (q : Nat) : Ef -> Bool
  | .no => false
  | .wr k _ => Nat.beq k q
theorem YQ : ∀ {l : List Ef} {m : SM}, (m.map Prod.fst).Nodup -> ((Xj l m).map Prod.fst).Nodup
  | [], _, h => h
  | .no :: l, m, h => YQ (l := l) h
  | .wr k c :: l, m, h => YQ (l := l) (ED h).1
/-- The last that was written to q. -/
def VF (q : Nat) : List Ef -> Option Cl -> Option Cl
  | [], c => c
  | .no :: l, c => VF q l c
  | .wr k x :: l, c => VF q l (if q = k then some x else c)
theorem ZD {q : Nat} : ∀ {l : List Ef} {m : SM}, ZI (Xj l m) q = VF q l (ZI m q)
  | [], m => rfl
  | .no :: l, m => ZD (l := l)
  | .wr k c :: l, m => by
    show ZI (Xj l (Jj k c m)) q = VF q l (if q = k then some c else ZI m q)
    rw [ZD (l := l), F5]
theorem Vl {q : Nat} : ∀ {l : List Ef} {c : Option Cl}, (∀ e ∈ l, e.on q = false) -> VF q l c = c
  | [], _, _ => rfl
  | .no :: l, c, h => Vl (l := l) fun e he => h e (.tail _ he)
  | .wr k x :: l, c, h => by
    have := h _ (.head _)
    simp only [Ef.on] at this
    show VF q l (if q = k then some x else c) = c
    rw [if_neg (fun e => Nat.ne_of_beq_eq_false this e.symm)]
    exact Vl fun e he => h e (.tail _ he)
theorem Zg {L : Nat -> Bool} : ∀ {l : List Ef} {k i : Nat}, (Yv L k l)[i]? = (l[i]?).map fun e => match L (k + i) with
    | true => e
    | false => .no
  | [], k, i => by simp [Yv]
  | e :: l, k, 0 => by simp only [Yv, List.getElem?_cons_zero, Nat.add_zero, Option.map_some]
  | e :: l, k, i + 1 => by simp only [Yv, List.getElem?_cons_succ]; rw [Zg (l := l), show k + 1 + i = k + (i + 1) by omega]
/-- What two runs of effects leave at q, where they agree on those that touch it. -/
theorem VE {q : Nat} : ∀ {l l' : List Ef} {c : Option Cl}, (∀ i : Nat, (l[i]?.map (Ef.on q)).getD false = (l'[i]?.map (Ef.on q)).getD false) -> (∀ (i : Nat) (e e' : Ef), l[i]? = some e -> l'[i]? = some e' -> Ef.on q e = true -> e = e') -> VF q l c = VF q l' c
  | [], l', c, h, _ => by
    rw [Vl (l := l') fun e he => ?_]
    . rfl
    . obtain ⟨i, hi⟩ := List.mem_iff_getElem?.1 he
      have := h i
      rw [hi] at this
      simpa using this.symm
  | l, [], c, h, _ => by
    rw [Vl (l := l) fun e he => ?_]
    . rfl
    . obtain ⟨i, hi⟩ := List.mem_iff_getElem?.1 he
      have := h i
      rw [hi] at this
      simpa using this
  | e :: l, e' :: l', c, h, he => by
    have h0 := h 0
    simp only [List.getElem?_cons_zero, Option.map_some, Option.getD_some] at h0
    have ih : ∀ c, VF q l c = VF q l' c := fun c => VE (fun i => by simpa using h (i + 1)) fun i a b ha hb => he (i + 1) a b (by simpa using ha) (by simpa using hb)
    have one : ∀ (e : Ef) (l : List Ef), e.on q = false -> VF q (e :: l) c = VF q l c := fun e l h => by
      cases e with
      | no => rfl
      | wr k x =>
        simp only [Ef.on] at h
        show VF q l (if q = k then some x else c) = _
        rw [if_neg (fun e => Nat.ne_of_beq_eq_false h e.symm)]
    cases ho : e.on q with
    | false => rw [one e l ho, one e' l' (by rw [<- h0]; exact ho)]; exact ih c
    | true =>
      have := he 0 e e' rfl rfl ho
      subst this
      cases e with
      | no => cases ho
      | wr k x => exact ih _
end Go.Proofs.YtbiboamaigedjaaGreatDoor
namespace Go.Proofs.YtbiboamaigedjaaGreatDoor
open Go.RowKit
set_option linter.unusedVariables false
set_option linter.constructorNameAsVariable false
set_option linter.unusedSimpArgs false

/-- A function of values: what it gives, where G holds. -/
structure PV (P : Program) (G : List QN) (F : FuncId) (args : List SV) (v : SV) : Prop where
  fn : ∃ fn, P.funcs[F]? = some fn /\ (fn.name == "runtime.NumGoroutine") = false /\ fn.body.isNone = false
  wa : VU 0 args = true
  wv : v.wf 0 = true
  h : ∀ w L, LL L w -> Hs G L w -> CX P F (QO QR args) w L (fun _ : Unit => v) (fun _ => []) (fun _ => True)
theorem PV.mk' {P : Program} {G : List QN} {F : FuncId} {args : List SV} {v : SV} {fn : Func} (hf : P.funcs[F]? = some fn) (hn : (fn.name == "runtime.NumGoroutine") = false) (hb : fn.body.isNone = false) (wa : VU 0 args = true) (wv : v.wf 0 = true) (h : ∀ w L, LL L w -> Hs G L w -> CX P F (QO QR args) w L (fun _ : Unit => v) (fun _ => []) (fun _ => True)) : PV P G F args v := ⟨⟨fn, hf, hn, hb⟩, wa, wv, h⟩
theorem Gf {l : List SV} (h : VU 0 l = true) (ρ ρ' : QS) : QO ρ l = QO ρ' l := JV (fun k hk => absurd hk (Nat.not_lt_zero k)) l h
theorem PV.at {P : Program} {G : List QN} {F : FuncId} {args : List SV} {v : SV} (h : PV P G F args v) (ρ : QS) {w : World} {L : List Nat} (hL : LL L w) (hG : Hs G L w) : CX P F (QO ρ args) w L (fun _ : Unit => v) (fun _ => []) (fun _ => True) := by
  rw [Gf h.wa ρ QR]
  exact h.h w L hL hG
/-- A block that stays, off all that is one's own. -/
def fG (B : Nat) (cs : List Value) : QN := ⟨fun L w => B ∉ L /\ B < w.heap.size /\ w.rangeAt B 0 cs, fun {L L' w w'} h hs hl => ⟨fun hx => by
  rcases hl B hx with h1 | h1
  . exact h.1 h1
  . have := h.2.1; omega, Nat.lt_of_lt_of_le h.2.1 hs.size, Zy h.2.2 hs.agree h.1⟩⟩
/-- What a load of a block that stays gives. -/
structure GL (P : Program) (G : List QN) (t g : Nat) (v : SV) : Prop where
  wv : v.wf 0 = true
  h : ∀ w L, LL L w -> Hs G L w -> ∀ (ops : Array Oper) (o : Oper) (N : Nat) (fl : Fl), o.op = .load t (.global g) -> Qu ops o fl = some true -> DV P ops o N fl w (v.den QR)
theorem GL.of {P : Program} {T : TT} (hT : T.ok P = true) {G : List QN} {t g : Nat} {v : SV} (cs : List SV) (hf : ∀ L w, Hs G L w -> g ∉ L /\ w.rangeAt g 0 (Qp QR cs)) (hl : FE T [] [(0, cs)] [] t (.q 0 0) = some (v, [])) (hok : YK cs) (hw : VU 0 cs = true) (h0 : 0 < YC cs) (wv : v.wf 0 = true) : GL P G t g v :=
  ⟨wv, fun w L hL hG ops o N fl ho hq => by
    have h1 := hf L w hG
    have e : Qp (QR.setd 0 (g, 0)) cs = Qp QR cs := Xv (fun k hk => absurd hk (Nat.not_lt_zero k)) cs hw
    have hW : WM (QR.setd 0 (g, 0)) L w [] [(0, cs)] 1 [] w := ⟨fun x hx => (by cases hx), fun x hx => (by cases hx), List.nodup_nil, fun x hx => (by cases hx), Below.refl _ _, fun x hx => (by
      cases hx with
      | head => exact ⟨h1.1, by rw [e]; exact h1.2, hok, h0⟩
      | tail _ hx => cases hx), fun x hx => (by
      cases hx with
      | head => exact Nat.zero_lt_one
      | tail _ hx => cases hx), hL, trivial⟩
    have := (FD (N := N) hT hW hq ho (show ev fl (.global g) = some ((SV.q 0 0).den (QR.setd 0 (g, 0))) from by simp only [SV.den]; rfl) hl trivial).2
    have e2 : v.den (QR.setd 0 (g, 0)) = v.den QR := Yr wv _ _
    unfold Yl at this
    rw [e2] at this
    exact this⟩
/-- A function of values and of what some blocks hold. -/
structure PR (P : Program) (G : List QN) (F : FuncId) (args : List SV) (mc : SM) (v : SV) : Prop where
  fn : ∃ fn, P.funcs[F]? = some fn /\ (fn.name == "runtime.NumGoroutine") = false /\ fn.body.isNone = false
  wv : v.wf 0 = true
  h : ∀ ρ w, (∃ L, Hs G L w) -> (∀ x ∈ mc, Q8 w (ρ.b x.1) (Qp ρ x.2) /\ YK x.2) -> CX P F (QO ρ args) w [] (fun _ : Unit => v) (fun _ => []) (fun _ => True)
def Qh5 (m : SM) : List Nat -> Option SM
  | [] => some []
  | k :: l => match ZI m k with
    | some c => match Qh5 m l with
      | some r => some ((k, c) :: r)
      | none => none
    | none => none
theorem HF {m : SM} : ∀ {l : List Nat} {r : SM}, Qh5 m l = some r -> ∀ x ∈ r, x.1 ∈ l /\ ZI m x.1 = some x.2
  | [], r, h, x, hx => by cases h; cases hx
  | k :: l, r, h, x, hx => by
    unfold Qh5 at h
    split at h
    . rename_i c hk
      split at h
      . rename_i r' hr
        cases h
        cases hx with
        | head => exact ⟨.head _, hk⟩
        | tail _ hx => exact ⟨.tail _ (HF hr x hx).1, (HF hr x hx).2⟩
      . cases h
    . cases h
theorem CX.any {P : Program} {F : FuncId} {args : List Value} {w : World} {L L' : List Nat} {v : SV} (h : CX P F args w L (fun _ : Unit => v) (fun _ => []) (fun _ => True)) : CX P F args w L' (fun _ : Unit => v) (fun _ => []) (fun _ => True) := h
theorem EW {P : Program} {ops : Array Oper} {o : Oper} {N : Nat} {f : Fl} {w : World} {F : FuncId} {xs : List Operand} {ts : Array TypeId} {vs : List Value} {v : Value} {g : Operand} (ho : o.op = .call { callee := .value g, args := xs.toArray, argTypes := ts }) (hcv : ev f g = some (.func (.func F) #[] #[])) (hx : evl f xs = some vs) (hr : (callFunc F vs.toArray).run P w = .ok (.value v) w) (hw : Qu ops o f = some true) : DV P ops o N f w v := fun a ha => by
  have he := QbG (ha.evl hx)
  have hc' := ha.ev hcv
  refine Qt.pure (Qj ha hw) _ ?_ ⟨rfl, rfl⟩
  unfold execOp
  simp only [ho, resolve, he, hc', Deferred.ofValue, Sem.run_bind, Sem.run_pure, Result.andThen_ok, invoke, Array.empty_append, Array.append_empty]
  rw [hr]
/-- A function without a body, of values. -/
structure PE (P : Program) (F : FuncId) (args : List SV) (v : SV) : Prop where
  wa : VU 0 args = true
  wv : v.wf 0 = true
  h : ∀ w, (callFunc F (QO QR args).toArray).run P w = .ok (.value (v.den QR)) w
def lkX : List Nat -> Nat -> Bool
  | [], _ => false
  | k :: l, i => match Nat.beq k i with
    | true => true
    | false => lkX l i
/-- The table, with what calls are known to give. -/
def TT.wo (T : TT) (P : Program) (G : List QN) (pv : List (Nat × SV)) (rk : List (Nat × List Nat) := []) (xk : List Nat := []) : TT := { T with pq := PV P G, pl := GL P G, pv := pv, pr := PR P G, rk := rk, px := PE P, xk := xk }
def lkR : List (Nat × List Nat) -> Nat -> List Nat
  | [], _ => []
  | (k, x) :: l, i => match Nat.beq k i with
    | true => x
    | false => lkR l i
def lkP : List (Nat × SV) -> Nat -> Option SV
  | [], _ => none
  | (k, x) :: l, i => match Nat.beq k i with
    | true => some x
    | false => lkP l i
/-- What an operation yields that writes nothing. -/
def E7 (T : TT) (md : Bool) (f : SF) (m : SM) (d : SD) (acc : List Prop) : Op -> Option (SV × List Prop)
  | .load t x => match Uf f x with
    | some sx => FE T m d acc t sx
    | none => none
  | .indexAddr t x y => Qjx T f acc t x y
  | .index t x y => ixO T f acc t x y
  | .makeFunc fn first caps => QjA f acc fn first caps
  | .build t ps => D9 T f acc t ps
  | .slice t x lo hi none => QiM T f acc t x lo hi
  | .sliceToArrayPointer t x => QiQ T f acc t x
  | .move x => match Uf f x with
    | some v => some (v, acc)
    | none => none
  | .assign x => match Uf f x with
    | some v => some (v, acc)
    | none => none
  | op => Qa0 T md (fun x => unN (Uf f x)) acc op
def QdK (f : SF) : Op -> Option Nat
  | .load _ x => match Uf f x with
    | some sx => K8 sx
    | none => none
  | _ => none
theorem Qbt {T : TT} {m m' : SM} {d : SD} {acc : List Prop} {t : Nat} {x : SV} (h : ∀ k, K8 x = some k -> ZI m k = ZI m' k) : FE T m d acc t x = FE T m' d acc t x := by
  have hn : DA m d x = DA m' d x := by
    cases x
    case x k o s n => have := h k rfl; simp only [DA, this]
    all_goals rfl
  unfold FE
  rw [hn]
  have hk : ∀ k, K8 (DA m' d x) = some k -> ZI m k = ZI m' k := fun k e => by
    refine h k ?_
    rw [<- e]
    unfold DA
    split
    . split
      . exact Dy.symm
      . rfl
    . split
      . exact Dy.symm
      . rfl
    . rfl
  generalize DA m' d x = y at hk
  cases y
  case p k o => have := hk k rfl; simp only [GN, Qdo, QfI, this]
  case x k o s n => have := hk k rfl; simp only [GN, Qdo, QfI, this]
  all_goals simp only [GN, Qdo, QfI]
theorem HY {T : TT} {md : Bool} {f : SF} {m m' : SM} {d : SD} {acc : List Prop} {op : Op} (h : ∀ k, QdK f op = some k -> ZI m k = ZI m' k) : E7 T md f m d acc op = E7 T md f m' d acc op := by
  cases op
  case load t x =>
    simp only [E7]
    split
    . rename_i sx hx
      exact Qbt fun k hk => h k (by simp only [QdK, hx]; exact hk)
    . rfl
  case slice t x lo hi mx => cases mx <;> rfl
  all_goals rfl
section
variable {P : Program} {ops : Array Oper} {o : Oper} {N : Nat} {w w0 : World} {ρ : QS} {T : TT} {acc acc' : List Prop} {L0 : List Nat} {m m' : SM} {d : SD} {n n' : Nat} {Γ : List QN} {f : SF} {md : Bool}
theorem Qdt (hT : T.ok P = true) (hW : WM ρ L0 w0 m d n Γ w) (hw : Qu ops o (QI ρ f) = some true) {v : SV} (h : E7 T md f m d acc o.op = some (v, acc')) (hc : XD acc') : Yl P ops o N ρ (QI ρ f) w v := by
  generalize hq : o.op = q at h
  unfold E7 at h
  split at h
  . split at h
    . rename_i sx hx
      exact (FD hT hW hw hq (QG hx) h hc).2
    . cases h
  . exact (Qd8 (N := N) (w := w) hT hw hq h hc).2
  . exact (Qhz (N := N) (w := w) hT hw hq h hc).2
  . exact (Qea (P := P) (N := N) (w := w) hw hq h hc).2
  . exact (E0 (N := N) (w := w) hT hw hq h hc).2
  . exact (QdB (N := N) (w := w) hT hw hq h hc).2
  . exact (QdF (N := N) (w := w) hT hw hq h hc).2
  . split at h
    . rename_i v1 hx
      cases h
      exact Qe hq (QG hx) hw
    . cases h
  . split at h
    . rename_i v1 hx
      cases h
      exact Qi hq (QG hx) hw
    . cases h
  . rw [<- hq] at h
    exact (Fh (N := N) (w := w) hT (fun hx => HZ hx) hw h hc).2
end
abbrev VR := List (Nat × Option Nat × SV)
def Jc : VR -> Nat -> Option (Option Nat × SV)
  | [], _ => none
  | (k, x) :: l, i => match Nat.beq k i with
    | true => some x
    | false => Jc l i
def Jb (V : VR) : List Nat -> SF -> Option SF
  | [], f => some f
  | i :: l, f => match Jc V i with
    | some (some t, v) => Jb V l ((t, v) :: f)
    | some (none, _) => Jb V l f
    | none => none
def V0 : List (Nat × Nat) -> Nat -> Nat
  | [], _ => 0
  | (k, x) :: l, i => match Nat.beq k i with
    | true => x
    | false => V0 l i
def Ub (A : List (Nat × Nat)) : List Nat -> Nat -> Nat
  | [], a => a
  | i :: l, a => Ub A l (Nat.lor a (Nat.lor (Nat.pow 2 i) (V0 A i)))
def tb (m i : Nat) : Bool := Nat.beq (Nat.mod (Nat.div m (Nat.pow 2 i)) 2) 1
theorem Qay (m i : Nat) : tb m i = Nat.testBit m i := by
  rw [Nat.testBit_eq_decide_div_mod_eq]
  unfold tb
  show Nat.beq (m / 2 ^ i % 2) 1 = _
  by_cases h : m / 2 ^ i % 2 = 1
  . rw [h]; rfl
  . rw [X9 h, decide_eq_false h]
theorem Qdy (i : Nat) : tb 0 i = false := by rw [Qay]; simp
theorem Qki (a b i : Nat) : tb (Nat.lor a b) i = (tb a i || tb b i) := by
  rw [Qay, Qay, Qay]; exact Nat.testBit_or a b i
theorem QkL (a i : Nat) : tb (Nat.pow 2 a) i = decide (a = i) := by
  rw [Qay]; exact Nat.testBit_two_pow
theorem F8 {A : List (Nat × Nat)} {q : Nat} : ∀ {l : List Nat} {a : Nat}, tb (Ub A l a) q = true -> tb a q = true \/ ∃ i ∈ l, i = q \/ tb (V0 A i) q = true
  | [], a, h => .inl h
  | i :: l, a, h => by
    unfold Ub at h
    rcases F8 h with h1 | ⟨k, hk, h1⟩
    . rw [Qki, Qki, QkL, Bool.or_eq_true, Bool.or_eq_true, decide_eq_true_eq] at h1
      rcases h1 with h1 | h1 | h1
      . exact .inl h1
      . exact .inr ⟨i, .head _, .inl h1⟩
      . exact .inr ⟨i, .head _, .inr h1⟩
    . exact .inr ⟨k, .tail _ hk, h1⟩
theorem Qdd {T : TT} {f : SF} {m m' : SM} {acc : List Prop} {t : Nat} {x y : Operand} {r : Nat × Cl × Nat × Nat × List Prop} (hr : D1 T f m' acc t x y = some r) (h : ∀ k, k ∈ [r.1, r.2.2.2.1] -> ZI m k = ZI m' k) : D1 T f m acc t x y = D1 T f m' acc t x y := by
  have hr' := hr
  unfold D1 at hr ⊢
  split at hr
  . cases hr
  . split at hr
    . cases hr
    . split at hr
      . cases hr
      . split at hr
        . cases hr
        . split at hr
          . rename_i k1 o1 l c1 hx
            split at hr
            . rename_i k2 o2 l' c2 hy
              split at hr
              . rename_i K zs n hk1
                split at hr
                . rename_i K' ys n' hk2
                  simp only [Option.some.injEq] at hr
                  subst hr
                  have e1 := h k1 (.head _)
                  have e2 := h k2 (.tail _ (.head _))
                  rw [e1, e2]
                  simp only [hk1, hk2]
                . cases hr
              . cases hr
            . cases hr
          . cases hr
def QgZ : Option Nat -> List Nat
  | none => []
  | some q => [q]
theorem Qbi {x : Option Nat} {q : Nat} : q ∈ QgZ x ↔ x = some q := by
  cases x with
  | none => simp [QgZ]
  | some y => simp [QgZ]; exact eq_comm
def drS (T : TT) (md : Bool) (f : SF) (m : SM) (d : SD) (n k j : Nat) (sv : SV) (o : Oper) : Option (SV × Ef × List Prop × List Nat) := match Nat.beq k j with
  | true => some (sv, .no, [], [])
  | false => match lkP T.pv k with
    | some v => match o.op with
      | .call { callee := .value g, args := ⟨xs⟩, argTypes := _ } => match Uf f g with
        | some (.f F caps) => match DQ f xs with
          | some vs => match lkX T.xk k with
            | true => match caps with
              | [] => some (v, .no, [T.px F vs v], [])
              | _ => none
            | false => match lkR T.rk k with
              | [] => some (v, .no, [T.pq F (vs ++ caps) v], [])
              | q :: l => match Qh5 m (q :: l) with
                | some mc => some (v, .no, [T.pr F (vs ++ caps) mc v], q :: l)
                | none => none
          | none => none
        | _ => none
      | .load t (.global g) => some (v, .no, [T.pl t g v], [])
      | op => match E7 T md f m d [] op with
        | some (v0, cs) => some (v, .no, (∀ ρ : QS, v0.den ρ = v.den ρ) :: cs, QgZ (QdK f op))
        | none => none
    | none => match o.op with
      | .store t px pv => match o.dst with
        | some _ => none
        | none => match Uf f px with
          | some sx => match K8 sx with
            | some q => match ZI m q with
              | some c => match Uf f pv with
                | some v => match Qcq T [] t sx v c with
                  | some (c', cs) => some (.u, .wr q c', cs, [q])
                  | none => none
                | none => none
              | none => none
            | none => none
          | none => none
      | .box _ x => match Uf f x with
        | some sx => match U1 [] sx with
          | some (c, cs) => some (.p (Nat.add n k) 0, .wr (Nat.add n k) c, cs, [])
          | none => none
        | none => none
      | .alloc t => match T.get t with
        | some i => match i.z with
          | some c => some (.p (Nat.add n k) 0, .wr (Nat.add n k) c, [], [])
          | none => none
        | none => none
      | .buildSlice t len ⟨ps⟩ => match Qjs T f [] t len ps with
        | some (c, cs) => some (.y (Nat.add n k) 0 len len, .wr (Nat.add n k) c, cs, [])
        | none => none
      | .call { callee := .builtin .copy, args := ⟨[x, y]⟩, argTypes := ⟨[t, _]⟩ } => match D1 T f m [] t x y with
        | some (q, c', z, q', cs) => some (.i .i64 (z : Int), .wr q c', cs, [q, q'])
        | none => none
      | op => match E7 T md f m d [] op with
        | some (v, cs) => some (v, .no, cs, QgZ (QdK f op))
        | none => none
def Qmc {α : Type} (e : Ef) (m : SM) (K : SM -> α) : α := match e with
  | .no => K m
  | .wr k c => Qgl k c m K
theorem QdC {α : Type} {e : Ef} {m : SM} {K : SM -> α} : Qmc e m K = K (Xj [e] m) := by
  cases e with
  | no => rfl
  | wr k c => exact Df
theorem FM {e : Ef} {l : List Ef} {m : SM} : Xj (e :: l) m = Xj l (Xj [e] m) := by cases e <;> rfl
def okD (N : Nat) (o : Oper) : Bool := match o.dst with
  | some t => Nat.blt t N
  | none => Qlt o.op
def QbQ : Nat -> List Nat -> List (Nat × Nat) -> List (Nat × Nat)
  | _, [], l => l
  | k, q :: r, l => (k, q) :: QbQ k r l
/-- An operation, where it is known whether it runs. -/
def drG (T : TT) (md : Bool) (ops : Array Oper) (f : SF) (m : SM) (d : SD) (n k j : Nat) (sv : SV) (o : Oper) : Option (SV × Ef × List Prop × List Nat) := match J7 ops o f with
  | some .on => drS T md f m d n k j sv o
  | some .off => match Nat.beq k j with
    | true => none
    | false => some (.u, .no, [], [])
  | _ => none
def drx (T : TT) (md : Bool) (N : Nat) (d : SD) (n j : Nat) (sv : SV) (f : SF) (ops : Array Oper) : List Oper -> Nat -> VR -> SM -> List (Nat × Nat) -> Option (VR × List Ef × List (Nat × Nat) × List Prop × List Prop × List (Nat × Nat))
  | [], _, V, _, A => some (V, [], A, [], [], [])
  | o :: os, k, V, m, A => match true with
    | false => none
    | true => match Jb V (Qz .any o) f with
      | none => none
      | some fk => match drG T md ops fk m d n k j sv o with
        | none => none
        | some (v, e, cs, fp) => match okD N o with
          | false => none
          | true => GO (Ub A (Qz .any o) 0) fun a => Qmc e m fun m' => match drx T md N d n j sv f ops os (Nat.succ k) ((k, o.dst, v) :: V) m' ((k, a) :: A) with
            | none => none
            | some (Vf, es, Af, cA, cB, fps) => match tb a j with
              | true => some (Vf, e :: es, Af, cA, XD cs :: cB, QbQ k fp fps)
              | false => some (Vf, e :: es, Af, XD cs :: cA, cB, QbQ k fp fps)
/-- What is known of the operation at a place. -/
structure Sp (T : TT) (md : Bool) (N : Nat) (d : SD) (n j : Nat) (sv : SV) (f : SF) (ops : Array Oper) (V : VR) (E : List Ef) (A : List (Nat × Nat)) (cA cB : List Prop) (fps : List (Nat × Nat)) (m : SM) (k i : Nat) (o : Oper) : Prop where
  sp : ∃ fk v e cs fp, True /\ Jb V (Qz .any o) f = some fk /\ Jc V (k + i) = some (o.dst, v) /\ E[i]? = some e /\ drG T md ops fk (Xj (E.take i) m) d n (k + i) j sv o = some (v, e, cs, fp) /\ okD N o = true /\ V0 A (k + i) = Ub A (Qz .any o) 0 /\ (tb (V0 A (k + i)) j = false -> XD cA -> XD cs) /\ (tb (V0 A (k + i)) j = true -> XD cB -> XD cs) /\ ∀ q, q ∈ fp -> (k + i, q) ∈ fps
theorem Vn {k : Nat} {l : List (Nat × Nat)} : ∀ {fp : List Nat}, (∀ x ∈ l, x ∈ QbQ k fp l) /\ ∀ q, q ∈ fp -> (k, q) ∈ QbQ k fp l
  | [] => ⟨fun x hx => hx, fun q h => by cases h⟩
  | p :: r => ⟨fun x hx => .tail _ (Vn.1 x hx), fun q h => by
    cases h with
    | head => exact .head _
    | tail _ h => exact .tail _ (Vn.2 q h)⟩
theorem QdZ {V : VR} {k i : Nat} {x : Option Nat × SV} (h : i ≠ k) : Jc ((k, x) :: V) i = Jc V i := by
  simp only [Jc, X9 fun e => h e.symm]
theorem FQ {T : TT} {md : Bool} {N : Nat} {d : SD} {n j : Nat} {sv : SV} {f : SF} {ops : Array Oper} : ∀ {os : List Oper} {k : Nat} {V Vf : VR} {m : SM} {A Af : List (Nat × Nat)} {es : List Ef} {cA cB : List Prop} {fps : List (Nat × Nat)}, drx T md N d n j sv f ops os k V m A = some (Vf, es, Af, cA, cB, fps) -> (∀ i, i < k -> Jc Vf i = Jc V i /\ V0 Af i = V0 A i) /\ es.length = os.length
  | [], k, V, Vf, m, A, Af, es, cA, cB, fps, h => by
    simp only [drx, Option.some.injEq, Prod.mk.injEq] at h
    obtain ⟨rfl, rfl, rfl, _⟩ := h
    exact ⟨fun i _ => ⟨rfl, rfl⟩, rfl⟩
  | o :: os, k, V, Vf, m, A, Af, es, cA, cB, fps, h => by
    unfold drx at h
    split at h
    . rename_i hbad; cases hbad
    . split at h
      . cases h
      . split at h
        . cases h
        . split at h
          . cases h
          . rw [YP, QdC] at h
            split at h
            . cases h
            . rename_i hr
              obtain ⟨g1, g2⟩ := FQ hr
              have key : ∀ i, i < k -> Jc Vf i = Jc V i /\ V0 Af i = V0 A i -> Jc Vf i = Jc V i /\ V0 Af i = V0 A i := fun _ _ h => h
              split at h <;>
              . simp only [Option.some.injEq, Prod.mk.injEq] at h
                obtain ⟨rfl, rfl, rfl, _⟩ := h
                refine ⟨fun i hi => ?_, by simp only [List.length_cons, g2]⟩
                have := g1 i (Nat.lt_succ_of_lt hi)
                rw [QdZ (by omega)] at this
                simp only [V0, X9 (show k ≠ i by omega)] at this
                exact this
theorem FR {V V' : VR} : ∀ {l : List Nat} {f : SF}, (∀ i ∈ l, Jc V' i = Jc V i) -> Jb V' l f = Jb V l f
  | [], f, _ => rfl
  | i :: l, f, h => by
    have h0 := h i (.head _)
    have ih : ∀ f, Jb V' l f = Jb V l f := fun f => FR fun i hi => h i (.tail _ hi)
    unfold Jb
    rw [h0]
    split <;> first | exact ih _ | rfl
theorem Hh {A A' : List (Nat × Nat)} : ∀ {l : List Nat} {a : Nat}, (∀ i ∈ l, V0 A' i = V0 A i) -> Ub A' l a = Ub A l a
  | [], a, _ => rfl
  | i :: l, a, h => by
    unfold Ub
    rw [h i (.head _)]
    exact Hh fun i hi => h i (.tail _ hi)
theorem QhY {T : TT} {md : Bool} {N : Nat} {d : SD} {n j : Nat} {sv : SV} {f : SF} {ops : Array Oper} : ∀ {os : List Oper} {k : Nat} {V Vf : VR} {m : SM} {A Af : List (Nat × Nat)} {es : List Ef} {cA cB : List Prop} {fps : List (Nat × Nat)}, drx T md N d n j sv f ops os k V m A = some (Vf, es, Af, cA, cB, fps) -> (∀ i o, os[i]? = some o -> ∀ q ∈ Qz .any o, q < k + i) -> ∀ i o, os[i]? = some o -> Sp T md N d n j sv f ops Vf es Af cA cB fps m k i o
  | [], k, V, Vf, m, A, Af, es, cA, cB, fps, h, _, i, o, ho => by simp at ho
  | o :: os, k, V, Vf, m, A, Af, es, cA, cB, fps, h, hd, i, o', ho => by
    have h' := h
    unfold drx at h
    split at h
    . rename_i hbad; cases hbad
    . have hg : True := trivial
      split at h
      . cases h
      . rename_i fk hfk
        split at h
        . cases h
        . rename_i v e cs fp hs
          split at h
          . cases h
          . rename_i hok
            rw [YP, QdC] at h
            split at h
            . cases h
            . rename_i Vf1 es1 Af1 cA1 cB1 fps1 hr
              have hdk : ∀ q ∈ Qz .any o, q < k := fun q hq => by have := hd 0 o rfl q hq; omega
              obtain ⟨g1, g2⟩ := FQ hr
              have hk := g1 k (Nat.lt_succ_self k)
              have hlow : ∀ q, q < k -> Jc Vf1 q = Jc V q /\ V0 Af1 q = V0 A q := fun q hq => by
                have := g1 q (Nat.lt_succ_of_lt hq)
                rw [QdZ (by omega)] at this
                simp only [V0, X9 (show k ≠ q by omega)] at this
                exact this
              have ha : V0 Af1 k = Ub Af1 (Qz .any o) 0 := by
                rw [hk.2, Hh (A := A) fun q hq => (hlow q (hdk q hq)).2]
                simp only [V0, ZH]
              have hv : Jc Vf1 k = some (o.dst, v) := by rw [hk.1]; simp only [Jc, ZH]
              have hf : Jb Vf1 (Qz .any o) f = some fk := by rw [FR (V := V) fun q hq => (hlow q (hdk q hq)).1]; exact hfk
              have hbit : tb (V0 Af1 k) j = tb (Ub A (Qz .any o) 0) j := by rw [hk.2]; simp only [V0, ZH]
              have ih := fun i o ho => (QhY hr (fun i o ho q hq => by have := hd (i + 1) o (by simpa using ho) q hq; omega) i o ho).sp
              split at h
              . rename_i ht
                simp only [Option.some.injEq, Prod.mk.injEq] at h
                obtain ⟨rfl, rfl, rfl, rfl, rfl, rfl⟩ := h
                cases i with
                | zero =>
                  simp only [List.getElem?_cons_zero, Option.some.injEq] at ho
                  subst ho
                  refine ⟨⟨fk, v, e, cs, fp, ?_⟩⟩
                  rw [Nat.add_zero]
                  exact ⟨hg, hf, hv, rfl, hs, hok, ha, (fun h0 => by rw [hbit, ht] at h0; cases h0), (fun _ hc => hc.1), Vn.2⟩
                | succ i =>
                  obtain ⟨fk', v', e', cs', fp', q1, q2, q3, q4, q5, q6, q7, q8, q9, q10⟩ := ih i o' (by simpa using ho)
                  rw [show Nat.succ k + i = k + (i + 1) by omega] at q3 q5 q7 q8 q9 q10
                  exact ⟨⟨fk', v', e', cs', fp', q1, q2, q3, by simpa using q4, by rw [List.take_succ_cons, FM]; exact q5, q6, q7, q8, (fun hb hc => q9 hb hc.2), fun q hq => Vn.1 _ (q10 q hq)⟩⟩
              . rename_i ht
                simp only [Option.some.injEq, Prod.mk.injEq] at h
                obtain ⟨rfl, rfl, rfl, rfl, rfl, rfl⟩ := h
                cases i with
                | zero =>
                  simp only [List.getElem?_cons_zero, Option.some.injEq] at ho
                  subst ho
                  refine ⟨⟨fk, v, e, cs, fp, ?_⟩⟩
                  rw [Nat.add_zero]
                  exact ⟨hg, hf, hv, rfl, hs, hok, ha, (fun _ hc => hc.1), (fun h0 => by rw [hbit, ht] at h0; cases h0), Vn.2⟩
                | succ i =>
                  obtain ⟨fk', v', e', cs', fp', q1, q2, q3, q4, q5, q6, q7, q8, q9, q10⟩ := ih i o' (by simpa using ho)
                  rw [show Nat.succ k + i = k + (i + 1) by omega] at q3 q5 q7 q8 q9 q10
                  exact ⟨⟨fk', v', e', cs', fp', q1, q2, q3, by simpa using q4, by rw [List.take_succ_cons, FM]; exact q5, q6, q7, (fun hb hc => q8 hb hc.2), q9, fun q hq => Vn.1 _ (q10 q hq)⟩⟩
end Go.Proofs.YtbiboamaigedjaaGreatDoor
namespace Go.Proofs.YtbiboamaigedjaaGreatDoor
open Go.RowKit
set_option linter.unusedVariables false
set_option linter.constructorNameAsVariable false
set_option linter.unusedSimpArgs false

def Ef.av (q : Nat) : Ef -> Bool
  | .no => true
  | .wr _ c => avL q c
def D6 (A : List (Nat × Nat)) (k q : Nat) : List Ef -> Nat -> Bool
  | [], _ => true
  | .no :: l, i => D6 A k q l (Nat.succ i)
  | .wr q' _ :: l, i => match Nat.beq q' q with
    | true => match Nat.beq i k with
      | true => D6 A k q l (Nat.succ i)
      | false => match tb (V0 A k) i with
        | true => D6 A k q l (Nat.succ i)
        | false => match tb (V0 A i) k with
          | true => D6 A k q l (Nat.succ i)
          | false => false
    | false => D6 A k q l (Nat.succ i)
def D4 (A : List (Nat × Nat)) (E : List Ef) : List (Nat × Nat) -> Bool
  | [] => true
  | (k, q) :: l => match D6 A k q E 0 with
    | true => D4 A E l
    | false => false
/-- What does not follow on k does not name its new block. -/
def QbS (A : List (Nat × Nat)) (V : VR) (k q : Nat) : List Ef -> Nat -> Bool
  | [], _ => true
  | e :: l, i => match Nat.beq i k with
    | true => QbS A V k q l (Nat.succ i)
    | false => match tb (V0 A i) k with
      | true => QbS A V k q l (Nat.succ i)
      | false => match e.on q with
        | true => false
        | false => match e.av q with
          | true => match Jc V i with
            | some (_, v) => match v.av q with
              | true => QbS A V k q l (Nat.succ i)
              | false => false
            | none => false
          | false => false
def GV (A : List (Nat × Nat)) (V : VR) (E : List Ef) (n : Nat) : List Ef -> Nat -> Bool
  | [], _ => true
  | .no :: l, k => GV A V E n l (Nat.succ k)
  | .wr q c :: l, k => match Nat.beq q (Nat.add n k) with
    | true => match avL q c with
      | true => match QbS A V k q E 0 with
        | true => GV A V E n l (Nat.succ k)
        | false => false
      | false => false
    | false => GV A V E n l (Nat.succ k)
theorem D5 {A : List (Nat × Nat)} {k q : Nat} : ∀ {l : List Ef} {s : Nat}, D6 A k q l s = true -> ∀ (i : Nat) (e : Ef), l[i]? = some e -> e.on q = true -> s + i = k \/ tb (V0 A k) (s + i) = true \/ tb (V0 A (s + i)) k = true
  | [], s, _, i, e, h, _ => by simp at h
  | .no :: l, s, hc, i, e, h, ho => by
    cases i with
    | zero => simp at h; subst h; cases ho
    | succ i =>
      have := D5 (l := l) hc i e (by simpa using h) ho
      rwa [show Nat.succ s + i = s + (i + 1) by omega] at this
  | .wr q' c :: l, s, hc, i, e, h, ho => by
    unfold D6 at hc
    have rest : D6 A k q l (Nat.succ s) = true := by
      split at hc
      . split at hc
        . exact hc
        . split at hc
          . exact hc
          . split at hc
            . exact hc
            . cases hc
      . exact hc
    cases i with
    | zero =>
      simp at h
      subst h
      simp only [Ef.on] at ho
      rw [ho] at hc
      simp only at hc
      rw [Nat.add_zero]
      split at hc
      . rename_i hb; exact .inl (Nat.eq_of_beq_eq_true hb)
      . split at hc
        . rename_i hb; exact .inr (.inl hb)
        . split at hc
          . rename_i hb; exact .inr (.inr hb)
          . cases hc
    | succ i =>
      have := D5 (l := l) rest i e (by simpa using h) ho
      rwa [show Nat.succ s + i = s + (i + 1) by omega] at this
theorem D3 {A : List (Nat × Nat)} {E : List Ef} : ∀ {l : List (Nat × Nat)}, D4 A E l = true -> ∀ k q, (k, q) ∈ l -> ∀ (i : Nat) (e : Ef), E[i]? = some e -> e.on q = true -> i = k \/ tb (V0 A k) i = true \/ tb (V0 A i) k = true
  | [], _, k, q, h => by cases h
  | (k', q') :: l, hc, k, q, h => by
    unfold D4 at hc
    split at hc
    . rename_i h1
      cases h with
      | head => intro i e he ho; have := D5 h1 i e he ho; rwa [Nat.zero_add] at this
      | tail _ h => exact D3 hc k q h
    . cases hc
theorem D7 {A : List (Nat × Nat)} {V : VR} {k q : Nat} : ∀ {l : List Ef} {s : Nat}, QbS A V k q l s = true -> ∀ (i : Nat) (e : Ef), l[i]? = some e -> s + i ≠ k -> tb (V0 A (s + i)) k = false -> e.on q = false /\ e.av q = true /\ ∀ d v, Jc V (s + i) = some (d, v) -> v.av q = true
  | [], s, _, i, e, h, _, _ => by simp at h
  | e' :: l, s, hc, i, e, h, hne, hb => by
    unfold QbS at hc
    have rest : QbS A V k q l (Nat.succ s) = true := by
      split at hc
      . exact hc
      . split at hc
        . exact hc
        . split at hc
          . cases hc
          . split at hc
            . split at hc
              . split at hc
                . exact hc
                . cases hc
              . cases hc
            . cases hc
    cases i with
    | zero =>
      simp at h
      subst h
      rw [Nat.add_zero] at hne hb ⊢
      rw [X9 hne] at hc
      simp only at hc
      rw [hb] at hc
      simp only at hc
      split at hc
      . cases hc
      . rename_i h0
        split at hc
        . rename_i h1
          split at hc
          . rename_i d0 v0 hl
            split at hc
            . rename_i h2
              refine ⟨h0, h1, fun d v hv => ?_⟩
              rw [hl] at hv
              cases hv
              exact h2
            . cases hc
          . cases hc
        . cases hc
    | succ i =>
      have := D7 (l := l) rest i e (by simpa using h) (by omega) (by rw [show Nat.succ s + i = s + (i + 1) by omega]; exact hb)
      rwa [show Nat.succ s + i = s + (i + 1) by omega] at this
theorem HG {A : List (Nat × Nat)} {V : VR} {E : List Ef} {n : Nat} : ∀ {l : List Ef} {s : Nat}, GV A V E n l s = true -> ∀ (k : Nat) (c : Cl), l[k]? = some (.wr (n + (s + k)) c) -> avL (n + (s + k)) c = true /\ QbS A V (s + k) (n + (s + k)) E 0 = true
  | [], s, _, k, c, h => by simp at h
  | e :: l, s, hc, k, c, h => by
    cases k with
    | zero =>
      simp at h
      subst h
      unfold GV at hc
      have : Nat.beq (n + s) (Nat.add n s) = true := ZH _
      rw [this] at hc
      simp only at hc
      rw [Nat.add_zero]
      split at hc
      . rename_i h1
        split at hc
        . rename_i h2; exact ⟨h1, h2⟩
        . cases hc
      . cases hc
    | succ k =>
      have rest : GV A V E n l (Nat.succ s) = true := by
        cases e with
        | no => exact hc
        | wr q c' =>
          unfold GV at hc
          split at hc
          . split at hc
            . split at hc
              . exact hc
              . cases hc
            . cases hc
          . exact hc
      have := HG (l := l) rest k c (by rw [show Nat.succ s + k = s + (k + 1) by omega]; simpa using h)
      rwa [show Nat.succ s + k = s + (k + 1) by omega] at this
/-- A new block of a number that nothing names yet. -/
theorem WM.newB {ρ : QS} {L0 : List Nat} {w0 w w' : World} {m : SM} {d : SD} {n n' q : Nat} {Γ : List QN} (h : WM ρ L0 w0 m d n' Γ w) (hq : n <= q) (hqn : q < n') (hm : ∀ x ∈ m, avL q x.2 = true) (hk : ZI m q = none) (hd : Hk n d = true) {c : Cl} (hc : YK c) (hcw : avL q c = true) {B : Nat} (hB : w.heap.size <= B) (hb : Below w.heap.size w w') (hbk : Q8 w' B (Qp ρ c)) :
    WM (ρ.setb q B) L0 w0 ((q, c) :: m) d n' Γ w' := by
  have hbut : QS.but q ρ (ρ.setb q B) := fun j hj => ⟨by simp only [QS.setb]; rw [if_neg hj], rfl⟩
  have hup : QS.upto n ρ (ρ.setb q B) := fun j hj => hbut j (by omega)
  have hne : ∀ x ∈ m, x.1 ≠ q := fun x hx e => by
    have := YS (Zn h.nod) (k := x.1) (c := x.2) hx
    rw [e, hk] at this
    cases this
  have h1 := h.below hb
  have hbs := h.bel.size
  have e1 : (m.map fun x => (ρ.setb q B).b x.1) = m.map fun x => ρ.b x.1 := List.map_congr_left fun x hx => ((hbut x.1 (hne x hx)).1).symm
  have hown : own (ρ.setb q B) ((q, c) :: m) L0 = B :: own ρ m L0 := by
    unfold own
    rw [List.map_cons, e1]
    simp [QS.setb_at]
  refine ⟨fun x hx => ?_, fun x hx => ?_, ?_, fun x hx => ?_, h1.bel, fun x hx => ?_, h.dky, h1.ll, ?_⟩
  . cases hx with
    | head => rw [QS.setb_at, <- Gg hbut c hcw]; exact ⟨hbk, hc⟩
    | tail _ hx => rw [<- (hbut x.1 (hne x hx)).1, <- Gg hbut x.2 (hm x hx)]; exact h1.mem x hx
  . cases hx with
    | head => exact hqn
    | tail _ hx => exact h.key x hx
  . rw [List.map_cons, List.nodup_cons, e1]
    refine ⟨fun hx => ?_, h.nod⟩
    rw [QS.setb_at] at hx
    obtain ⟨y, hy, he⟩ := List.mem_map.1 hx
    have := (h.mem y hy).1.lt
    omega
  . cases hx with
    | head => rw [QS.setb_at]; omega
    | tail _ hx => rw [<- (hbut x.1 (hne x hx)).1]; exact h1.low x hx
  . obtain ⟨g1, g2⟩ := h1.dat x hx
    have hxn := HV hd x hx
    rw [hown, <- (hup x.1 hxn.1).2, <- Xv hup x.2 hxn.2]
    refine ⟨?_, g2⟩
    simp only [List.mem_cons, not_or]
    refine ⟨?_, g1⟩
    obtain ⟨_, g3, g4, g5⟩ := h.dat x hx
    have := ZY g3 (by rw [Xm _ g4]; exact g5)
    omega
  . rw [hown]
    refine h.hs.stp (.of_below hb) fun x hx => ?_
    cases hx with
    | head => exact .inr hB
    | tail _ hx => exact .inl hx
theorem FH {q : Nat} {c : Cl} : ∀ {l : List Ef} {k : Nat} {x : Option Cl}, l[k]? = some (.wr q c) -> (∀ (i : Nat) (e : Ef), l[i]? = some e -> k < i -> e.on q = false) -> VF q l x = some c
  | [], k, x, h, _ => by simp at h
  | e :: l, 0, x, h, ho => by
    simp at h
    subst h
    show VF q l (if q = q then some c else x) = some c
    rw [if_pos rfl]
    exact Vl fun e he => by
      obtain ⟨i, hi⟩ := List.mem_iff_getElem?.1 he
      exact ho (i + 1) e (by simpa using hi) (by omega)
  | e :: l, k + 1, x, h, ho => by
    have ih := fun x => FH (l := l) (k := k) (x := x) (c := c) (by simpa using h) fun i e hi hk => ho (i + 1) e (by simpa using hi) (by omega)
    cases e with
    | no => exact ih x
    | wr k' c' => exact ih _
end Go.Proofs.YtbiboamaigedjaaGreatDoor
namespace Go.Proofs.YtbiboamaigedjaaGreatDoor
open Go.RowKit
set_option linter.unusedVariables false
set_option linter.constructorNameAsVariable false
set_option linter.unusedSimpArgs false

/-- What has run is closed. -/
def Cl0 (os : List Oper) (L : Nat -> Bool) : Prop := ∀ (k : Nat) (o : Oper), os[k]? = some o -> L k = true -> ∀ q ∈ Qz .any o, L q = true
section
variable {os : List Oper} {A : List (Nat × Nat)} {L : Nat -> Bool}
theorem Qin (hA : ∀ (k : Nat) (o : Oper), os[k]? = some o -> V0 A k = Ub A (Qz .any o) 0) (hd : ∀ (k : Nat) (o : Oper), os[k]? = some o -> ∀ q ∈ Qz .any o, q < k) : ∀ (k : Nat) (o : Oper), os[k]? = some o -> ∀ i, tb (V0 A k) i = true -> i < k := by
  intro k
  induction k using Nat.strongRecOn with
  | _ k ih =>
    intro o ho i hi
    rw [hA k o ho] at hi
    rcases F8 hi with h | ⟨q, hq, h⟩
    . rw [Qdy] at h; cases h
    . have hqk := hd k o ho q hq
      rcases h with h | h
      . omega
      . have hq2 : q < os.length := by have := (List.getElem?_eq_some_iff.1 ho).1; omega
        have := ih q hqk _ (List.getElem?_eq_getElem hq2) i h
        omega
theorem GZ (hA : ∀ (k : Nat) (o : Oper), os[k]? = some o -> V0 A k = Ub A (Qz .any o) 0) (hd : ∀ (k : Nat) (o : Oper), os[k]? = some o -> ∀ q ∈ Qz .any o, q < k) (hL : Cl0 os L) : ∀ (k : Nat) (o : Oper), os[k]? = some o -> (∀ q ∈ Qz .any o, L q = true) -> ∀ i, tb (V0 A k) i = true -> L i = true := by
  intro k
  induction k using Nat.strongRecOn with
  | _ k ih =>
    intro o ho hdl i hi
    rw [hA k o ho] at hi
    rcases F8 hi with h | ⟨q, hq, h⟩
    . rw [Qdy] at h; cases h
    . rcases h with h | h
      . subst h; exact hdl q hq
      . have hqk := hd k o ho q hq
        have hq2 : q < os.length := by have := (List.getElem?_eq_some_iff.1 ho).1; omega
        exact ih q hqk _ (List.getElem?_eq_getElem hq2) (hL q _ (List.getElem?_eq_getElem hq2) (hdl q hq)) i h
end
/-- A drawn region, its call (the operation j, or none) by what it gives. -/
structure Dw (c : Cx) (md : Bool) (os : List Oper) (f : SF) (m : SM) (d : SD) (n : Nat) (Γ : List QN) (α : Type) (j : Nat) (sv : α -> SV) (fs : α -> List QN) (pr : α -> Prop) (V : α -> VR) (E : α -> List Ef) (A : List (Nat × Nat)) (cA : List Prop) (cB : α -> List Prop) (fps : List (Nat × Nat)) (pv : List (Nat × SV)) (G : List QN) (rk : List (Nat × List Nat)) (xk : List Nat) : Prop where
  hb : Ud .any os.toArray = true
  hx : ∀ x, drx (c.T.wo c.P G pv rk xk) md c.N d n j (sv x) f os.toArray os 0 [] m [] = some (V x, E x, A, cA, cB x, fps)
  ho : ∀ x, D4 A (E x) fps = true
  hn : ∀ x, GV A (V x) (E x) n (E x) 0 = true
  hi : ∀ x x' i, tb (V0 A i) j = false -> i ≠ j -> Jc (V x) i = Jc (V x') i /\ (E x)[i]? = (E x')[i]?
  hA : XD cA
  hB : ∀ x, pr x -> XD (cB x)
  wf : ∀ x, (sv x).wf 0 = true
  wff : wfF n f = true
  wfm : HR n m = true
  wfd : Hk n d = true
  hj : ∀ o, os[j]? = some o -> ∀ x0 fk, Jb (V x0) (Qz .any o) f = some fk -> ∀ ρ W L', LL L' W -> Hs Γ L' W -> DR c.P os.toArray o c.N (QI ρ fk) W fun v W' => ∃ x, v = (sv x).den QR /\ Hs (fs x) L' W' /\ pr x /\ Below W.heap.size W W'
  hG : ∀ L' W, Hs Γ L' W -> Hs G L' W
section
variable {c : Cx} {md : Bool} {os : List Oper} {f : SF} {m : SM} {d : SD} {n : Nat} {Γ : List QN} {α : Type} {j : Nat} {sv : α -> SV} {fs : α -> List QN} {pr : α -> Prop} {V : α -> VR} {E : α -> List Ef} {A : List (Nat × Nat)} {cA : List Prop} {cB : α -> List Prop} {fps : List (Nat × Nat)} {pv : List (Nat × SV)} {G : List QN} {rk : List (Nat × List Nat)} {xk : List Nat}
/-- What holds, of what has run. -/
def DG (c : Cx) (os : List Oper) (f : SF) (m : SM) (d : SD) (n : Nat) (Γ : List QN) (j : Nat) (fs : α -> List QN) (pr : α -> Prop) (V : α -> VR) (E : α -> List Ef) (ρ0 : QS) (L : Nat -> Bool) (g : Nat -> Value) (W : World) : Prop :=
  ∃ ρ x, QI ρ f = QI ρ0 f /\ (∀ i t v, L i = true -> Jc (V x) i = some (some t, v) -> g i = v.den ρ) /\ (L j = true -> pr x) /\ Cl0 os L /\ WM ρ c.L0 c.w0 (Xj (Yv L 0 (E x)) m) d (n + os.length) (Γ ++ bif L j then fs x else []) W
theorem Dw.dep (h : Dw c md os f m d n Γ α j sv fs pr V E A cA cB fps pv G rk xk) : ∀ (k : Nat) (o : Oper), os[k]? = some o -> ∀ q ∈ Qz .any o, q < k := fun k o ho q hq => (Vk h.hb (i := k) (o := o) (by simpa using ho)).2.1 q hq
theorem Dw.sp (h : Dw c md os f m d n Γ α j sv fs pr V E A cA cB fps pv G rk xk) (x : α) {k : Nat} {o : Oper} (ho : os[k]? = some o) : ∃ fk v e cs fp, True /\ Jb (V x) (Qz .any o) f = some fk /\ Jc (V x) k = some (o.dst, v) /\ (E x)[k]? = some e /\ drG (c.T.wo c.P G pv rk xk) md os.toArray fk (Xj ((E x).take k) m) d n k j (sv x) o = some (v, e, cs, fp) /\ okD c.N o = true /\ V0 A k = Ub A (Qz .any o) 0 /\ (tb (V0 A k) j = false -> XD cA -> XD cs) /\ (tb (V0 A k) j = true -> XD (cB x) -> XD cs) /\ ∀ q, q ∈ fp -> (k, q) ∈ fps := by
  have := (QhY (h.hx x) (fun i o ho q hq => by have := h.dep i o ho q hq; omega) k o ho).sp
  simp only [Nat.zero_add] at this
  exact this
theorem Dw.anc (h : Dw c md os f m d n Γ α j sv fs pr V E A cA cB fps pv G rk xk) (x : α) : ∀ (k : Nat) (o : Oper), os[k]? = some o -> V0 A k = Ub A (Qz .any o) 0 := fun k o ho => by
  obtain ⟨_, _, _, _, _, _, _, _, _, _, _, h7, _⟩ := h.sp x ho
  exact h7
theorem Dw.len (h : Dw c md os f m d n Γ α j sv fs pr V E A cA cB fps pv G rk xk) (x : α) : (E x).length = os.length := (FQ (h.hx x)).2
/-- Who else writes what an operation touches has run, or has not, as it is listed. -/
theorem Dw.mem (h : Dw c md os f m d n Γ α j sv fs pr V E A cA cB fps pv G rk xk) (x : α) {L : Nat -> Bool} (hL : Cl0 os L) {k q : Nat} {o : Oper} (ho : os[k]? = some o) (hk : L k = false) (hdl : ∀ q ∈ Qz .any o, L q = true) (hq : (k, q) ∈ fps) : ZI (Xj (Yv L 0 (E x)) m) q = ZI (Xj ((E x).take k) m) q := by
  rw [ZD, ZD]
  have hchk := D3 (h.ho x) k q hq
  have hlt := Qin (h.anc x) h.dep
  have hin := GZ (h.anc x) h.dep hL
  have hel := h.len x
  have hos : ∀ (i : Nat) (e : Ef), (E x)[i]? = some e -> ∃ o', os[i]? = some o' := fun i e he => ⟨_, List.getElem?_eq_getElem (by have := (List.getElem?_eq_some_iff.1 he).1; omega)⟩
  have below : ∀ (i : Nat) (e : Ef), (E x)[i]? = some e -> e.on q = true -> i < k -> L i = true := fun i e he hon hik => by
    obtain ⟨o', ho'⟩ := hos i e he
    rcases hchk i e he hon with h1 | h1 | h1
    . omega
    . exact hin k o ho hdl i h1
    . have := hlt i o' ho' k h1; omega
  have above : ∀ (i : Nat) (e : Ef), (E x)[i]? = some e -> e.on q = true -> ¬ i < k -> L i = false := fun i e he hon hik => by
    obtain ⟨o', ho'⟩ := hos i e he
    rcases hchk i e he hon with h1 | h1 | h1
    . rw [h1]; exact hk
    . have := hlt k o ho i h1; omega
    . cases hLi : L i with
      | false => rfl
      | true =>
        have := hin i o' ho' (hL i o' ho' hLi) k h1
        rw [hk] at this; cases this
  refine VE (fun i => ?_) fun i e e' h1 h2 hon => ?_
  . rw [Zg, Nat.zero_add, List.getElem?_take]
    cases he : (E x)[i]? with
    | none => split <;> simp
    | some e =>
      by_cases hik : i < k
      . rw [if_pos hik]
        show Ef.on q (match L i with | true => e | false => .no) = Ef.on q e
        cases hon : e.on q with
        | true => rw [below i e he hon hik]; exact hon
        | false => split <;> first | exact hon | rfl
      . rw [if_neg hik]
        show Ef.on q (match L i with | true => e | false => .no) = false
        cases hon : e.on q with
        | true => rw [above i e he hon hik]; rfl
        | false => split <;> first | exact hon | rfl
  . rw [Zg, Nat.zero_add] at h1
    rw [List.getElem?_take] at h2
    split at h2
    . rw [h2] at h1
      simp only [Option.map_some, Option.some.injEq] at h1
      split at h1
      . exact h1.symm
      . subst h1; cases hon
    . cases h2
/-- An operation's effect, where those who write the same come before it or have not run. -/
theorem Dw.put1 (h : Dw c md os f m d n Γ α j sv fs pr V E A cA cB fps pv G rk xk) (x : α) {L : Nat -> Bool} {k q : Nat} {cl : Cl} (hk : L k = false) (he : (E x)[k]? = some (.wr q cl)) (hoff : ∀ (i : Nat) (e : Ef), (E x)[i]? = some e -> e.on q = true -> k < i -> L i = false) (q' : Nat) : ZI (Xj (Yv (Yq L k true) 0 (E x)) m) q' = if q' = q then some cl else ZI (Xj (Yv L 0 (E x)) m) q' := by
  rw [ZD, ZD]
  by_cases hq : q' = q
  . subst hq
    rw [if_pos rfl]
    refine FH (k := k) (by rw [Zg, he, Nat.zero_add]; simp [Yq]) fun i e hi hki => ?_
    rw [Zg, Nat.zero_add] at hi
    cases hE : (E x)[i]? with
    | none => rw [hE] at hi; cases hi
    | some e' =>
      rw [hE] at hi
      simp only [Option.map_some, Option.some.injEq] at hi
      subst hi
      cases hon : e'.on q' with
      | false => split <;> first | exact hon | rfl
      | true =>
        have h1 := hoff i e' hE hon hki
        have : Yq L k true i = false := by simp only [Yq]; rw [if_neg (by omega)]; exact h1
        rw [this]; rfl
  . rw [if_neg hq]
    refine VE (fun i => ?_) fun i e e' h1 h2 hon => ?_
    . rw [Zg, Zg, Nat.zero_add]
      by_cases hik : i = k
      . subst hik
        rw [he, hk]
        simp only [Yq, if_true, Option.map_some, Option.getD_some, Ef.on]
        exact X9 fun e => hq e.symm
      . simp only [Yq, if_neg hik]
    . rw [Zg, Nat.zero_add] at h1 h2
      by_cases hik : i = k
      . subst hik
        rw [he, hk] at h2
        simp only [Option.map_some, Option.some.injEq] at h2
        rw [he] at h1
        simp only [Yq, if_true, Option.map_some, Option.some.injEq] at h1
        subst h1
        simp only [Ef.on] at hon
        exact absurd (Nat.eq_of_beq_eq_true hon).symm hq
      . simp only [Yq, if_neg hik] at h1
        rw [h1] at h2
        exact Option.some.inj h2
theorem Dw.putN (h : Dw c md os f m d n Γ α j sv fs pr V E A cA cB fps pv G rk xk) (x : α) {L : Nat -> Bool} {k : Nat} (he : (E x)[k]? = some .no) (q' : Nat) : ZI (Xj (Yv (Yq L k true) 0 (E x)) m) q' = ZI (Xj (Yv L 0 (E x)) m) q' := by
  rw [ZD, ZD]
  refine VE (fun i => ?_) fun i e e' h1 h2 hon => ?_
  . rw [Zg, Zg, Nat.zero_add]
    by_cases hik : i = k
    . subst hik
      rw [he]
      cases L i <;> simp [Yq, Ef.on]
    . simp only [Yq, if_neg hik]
  . rw [Zg, Nat.zero_add] at h1 h2
    by_cases hik : i = k
    . subst hik
      rw [he] at h1
      simp only [Option.map_some, Option.some.injEq] at h1
      split at h1 <;> (subst h1; cases hon)
    . simp only [Yq, if_neg hik] at h1
      rw [h1] at h2
      exact Option.some.inj h2
/-- The frame that an operation looks at. -/
theorem Dw.fr (h : Dw c md os f m d n Γ α j sv fs pr V E A cA cB fps pv G rk xk) (x : α) {ρ : QS} {L : Nat -> Bool} {g : Nat -> Value} (hg : ∀ i t v, L i = true -> Jc (V x) i = some (some t, v) -> g i = v.den ρ) : ∀ {l : List Nat} {f1 fk : SF} {a : Act}, (∀ i ∈ l, L i = true /\ i < os.length) -> Jb (V x) l f1 = some fk -> Fr c.N a (QI ρ f1) -> Fr c.N (Xe os.toArray g l a) (QI ρ fk)
  | [], f1, fk, a, _, hd, ha => by cases hd; exact ha
  | i :: l, f1, fk, a, hl, hd, ha => by
    obtain ⟨h1, h2⟩ := hl i (.head _)
    have hoi : os[i]? = some os[i] := List.getElem?_eq_getElem h2
    obtain ⟨_, v, _, _, _, _, _, q3, _, _, q6, _⟩ := h.sp x hoi
    have hdst : Xd os.toArray i = os[i].dst := by simp [Xd, hoi]
    unfold Jb at hd
    unfold Xe
    rw [q3] at hd
    rw [hdst]
    unfold okD at q6
    cases ht : os[i].dst with
    | none =>
      rw [ht] at hd q3
      exact h.fr x hg (fun i hi => hl i (.tail _ hi)) hd ha
    | some t =>
      rw [ht] at hd q3 q6
      refine h.fr x hg (fun i hi => hl i (.tail _ hi)) hd ?_
      rw [hg i t v h1 q3]
      exact ha.put (decide_eq_true (QY q6)) _
end
end Go.Proofs.YtbiboamaigedjaaGreatDoor
namespace Go.Proofs.YtbiboamaigedjaaGreatDoor
open Go.RowKit
set_option linter.unusedVariables false
set_option linter.constructorNameAsVariable false
set_option linter.unusedSimpArgs false

mutual
theorem SV.wf_av {n q : Nat} (h : n <= q) : ∀ x : SV, x.wf n = true -> x.av q = true
  | .v x, _ => by simp only [SV.av]
  | .i K n, _ => by simp only [SV.av]
  | .lit _ _, _ => by simp only [SV.av]
  | .c p d, _ => by simp only [SV.av]
  | .l b, _ => by simp only [SV.av]
  | .s x, _ => by simp only [SV.av]
  | .o _ _ _, _ => by simp only [SV.av]
  | .p k o, hw => by have := QY (by simpa only [SV.wf] using hw : Nat.blt k n = true); simp only [SV.av, X9 (show k ≠ q by omega)]; rfl
  | .x k o s n', hw => by have := QY (by simpa only [SV.wf] using hw : Nat.blt k n = true); simp only [SV.av, X9 (show k ≠ q by omega)]; rfl
  | .q k o, hw => by have := QY (by simpa only [SV.wf] using hw : Nat.blt k n = true); simp only [SV.av, X9 (show k ≠ q by omega)]; rfl
  | .y k _ _ _, hw => by have := QY (by simpa only [SV.wf] using hw : Nat.blt k n = true); simp only [SV.av, X9 (show k ≠ q by omega)]; rfl
  | .z k _ _ _, hw => by have := QY (by simpa only [SV.wf] using hw : Nat.blt k n = true); simp only [SV.av, X9 (show k ≠ q by omega)]; rfl
  | .r k _ _ _, hw => by have := QY (by simpa only [SV.wf] using hw : Nat.blt k n = true); simp only [SV.av, X9 (show k ≠ q by omega)]; rfl
  | .t l, hw => by simp only [SV.av]; exact HU h l (by simpa only [SV.wf] using hw)
  | .g l, hw => by simp only [SV.av]; exact HU h l (by simpa only [SV.wf] using hw)
  | .f _ l, hw => by simp only [SV.av]; exact HU h l (by simpa only [SV.wf] using hw)
  | .a _ _ _, _ => by simp only [SV.av]
  | .w p d x, hw => by simp only [SV.av]; exact SV.wf_av h x (by simpa only [SV.wf] using hw)
  | .u, _ => by simp only [SV.av]
theorem HU {n q : Nat} (h : n <= q) : ∀ l : List SV, VU n l = true -> avL q l = true
  | [], _ => by simp only [avL]
  | x :: l, hw => by
    unfold VU at hw
    split at hw
    . rename_i hx
      unfold avL
      rw [SV.wf_av h x hx]
      exact HU h l hw
    . cases hw
end
theorem QaZ {p : Cl -> Prop} {k : Nat} {c : Cl} (hc : p c) : ∀ {m : SM}, (∀ x ∈ m, p x.2) -> ∀ x ∈ Jj k c m, p x.2
  | [], _, x, hx => by simp only [Jj, List.mem_singleton] at hx; rw [hx]; exact hc
  | (j, y) :: l, h, x, hx => by
    unfold Jj at hx
    split at hx
    . cases hx with
      | head => exact hc
      | tail _ hx => exact h x (.tail _ hx)
    . cases hx with
      | head => exact h _ (.head _)
      | tail _ hx => exact QaZ hc (fun x hx => h x (.tail _ hx)) x hx
theorem GP {p : Cl -> Prop} : ∀ {l : List Ef} {m : SM}, (∀ x ∈ m, p x.2) -> (∀ k c, Ef.wr k c ∈ l -> p c) -> ∀ x ∈ Xj l m, p x.2
  | [], m, h, _, x, hx => h x hx
  | .no :: l, m, h, hl, x, hx => GP (l := l) h (fun k c hc => hl k c (.tail _ hc)) x hx
  | .wr k c :: l, m, h, hl, x, hx => GP (l := l) (QaZ (hl k c (.head _)) h) (fun k c hc => hl k c (.tail _ hc)) x hx
theorem Cl0.up {os : List Oper} {L : Nat -> Bool} (h : Cl0 os L) {k : Nat} {o : Oper} (ho : os[k]? = some o) (hd : ∀ q ∈ Qz .any o, L q = true) : Cl0 os (Yq L k true) := fun k' o' ho' hk' q hq => by
  unfold Yq at hk' ⊢
  split
  . rfl
  . split at hk'
    . rename_i e; subst e; rw [ho] at ho'; cases ho'; exact hd q hq
    . exact h k' o' ho' hk' q hq
theorem Jd {α : Type} (f : Nat -> α) (i : Nat) (v : α) : Yq f i v i = v := by simp [Yq]
theorem Zt {α : Type} {f : Nat -> α} {i k : Nat} {v : α} (h : k ≠ i) : Yq f i v k = f k := by simp [Yq, h]
section
variable {c : Cx} {md : Bool} {os : List Oper} {f : SF} {m : SM} {d : SD} {n : Nat} {Γ : List QN} {α : Type} {j : Nat} {sv : α -> SV} {fs : α -> List QN} {pr : α -> Prop} {V : α -> VR} {E : α -> List Ef} {A : List (Nat × Nat)} {cA : List Prop} {cB : α -> List Prop} {fps : List (Nat × Nat)} {pv : List (Nat × SV)} {G : List QN} {rk : List (Nat × List Nat)} {xk : List Nat}
/-- An operation that writes nothing: what holds behind it. -/
theorem Dw.goN (h : Dw c md os f m d n Γ α j sv fs pr V E A cA cB fps pv G rk xk) (km : (m.map Prod.fst).Nodup) {ρ0 ρ : QS} {x : α} {L : Nat -> Bool} {g : Nat -> Value} {W : World} (h1 : QI ρ f = QI ρ0 f) (h2 : ∀ i t v, L i = true -> Jc (V x) i = some (some t, v) -> g i = v.den ρ) (h3 : L j = true -> pr x) (h4 : Cl0 os L) (h5 : WM ρ c.L0 c.w0 (Xj (Yv L 0 (E x)) m) d (n + os.length) (Γ ++ bif L j then fs x else []) W) {k : Nat} {o : Oper} (ho : os[k]? = some o) (hkj : k ≠ j) (hd : ∀ q ∈ Qz .any o, L q = true) {v : SV} (hv : Jc (V x) k = some (o.dst, v)) (he : (E x)[k]? = some .no) : DG c os f m d n Γ j fs pr V E ρ0 (Yq L k true) (Yq g k (v.den ρ)) W := by
  refine ⟨ρ, x, h1, fun i t u hi hu => ?_, fun hj => h3 (by rw [<- Zt (v := true) (f := L) (fun e => hkj e.symm)]; exact hj), h4.up ho hd, ?_⟩
  . by_cases e : i = k
    . subst e
      rw [hv] at hu
      simp only [Option.some.injEq, Prod.mk.injEq] at hu
      obtain ⟨_, rfl⟩ := hu
      exact Jd _ _ _
    . rw [Zt e]
      rw [Zt e] at hi
      exact h2 i t u hi hu
  . rw [Zt (f := L) (v := true) (fun e => hkj e.symm)]
    exact h5.ext (h.putN x he) (YQ km)
/-- Who else writes what this one writes, and is listed behind it, hasn't run. -/
theorem Dw.above (h : Dw c md os f m d n Γ α j sv fs pr V E A cA cB fps pv G rk xk) (x : α) {L : Nat -> Bool} (hL : Cl0 os L) {k q : Nat} {o : Oper} (ho : os[k]? = some o) (hk : L k = false) (hq : (k, q) ∈ fps) : ∀ (i : Nat) (e : Ef), (E x)[i]? = some e -> e.on q = true -> k < i -> L i = false := fun i e he hon hik => by
  have hel := h.len x
  have ho' : os[i]? = some (os[i]'(by have := (List.getElem?_eq_some_iff.1 he).1; omega)) := List.getElem?_eq_getElem _
  rcases D3 (h.ho x) k q hq i e he hon with h1 | h1 | h1
  . omega
  . have := Qin (h.anc x) h.dep k o ho i h1; omega
  . cases hLi : L i with
    | false => rfl
    | true =>
      have := GZ (h.anc x) h.dep hL i _ ho' (hL i _ ho' hLi) k h1
      rw [hk] at this; cases this
/-- A new block's number: who else writes it waits for it. -/
theorem Dw.fresh (h : Dw c md os f m d n Γ α j sv fs pr V E A cA cB fps pv G rk xk) (x : α) {L : Nat -> Bool} (hL : Cl0 os L) {k : Nat} {o : Oper} (ho : os[k]? = some o) (hk : L k = false) {cl : Cl} (hE : (E x)[k]? = some (.wr (n + k) cl)) : ∀ (i : Nat) (e : Ef), (E x)[i]? = some e -> e.on (n + k) = true -> i = k \/ L i = false := fun i e he hon => by
  have hel := h.len x
  have hil : i < os.length := by have := (List.getElem?_eq_some_iff.1 he).1; omega
  have ho' : os[i]? = some os[i] := List.getElem?_eq_getElem hil
  by_cases hik : i = k
  . exact .inl hik
  . refine .inr ?_
    have hc := (HG (h.hn x) k cl (by rw [Nat.zero_add]; exact hE)).2
    rw [Nat.zero_add] at hc
    have ha := fun hb => D7 hc i e he (by rw [Nat.zero_add]; exact hik) hb
    rw [Nat.zero_add] at ha
    cases hb : tb (V0 A i) k with
    | false => have := (ha hb).1; rw [hon] at this; cases this
    | true =>
      cases hLi : L i with
      | false => rfl
      | true =>
        have := GZ (h.anc x) h.dep hL i _ ho' (hL i _ ho' hLi) k hb
        rw [hk] at this; cases this
/-- What has run does not name a new block of another one. -/
theorem Dw.avo (h : Dw c md os f m d n Γ α j sv fs pr V E A cA cB fps pv G rk xk) (x : α) {L : Nat -> Bool} (hL : Cl0 os L) {k : Nat} {o : Oper} (ho : os[k]? = some o) (hk : L k = false) {cl : Cl} (hE : (E x)[k]? = some (.wr (n + k) cl)) {i : Nat} (hi : L i = true) (hil : i < os.length) : (∀ e, (E x)[i]? = some e -> e.av (n + k) = true) /\ ∀ d v, Jc (V x) i = some (d, v) -> v.av (n + k) = true := by
  have hik : i ≠ k := fun e => by rw [e, hk] at hi; cases hi
  have hel := h.len x
  have ho' : os[i]? = some os[i] := List.getElem?_eq_getElem hil
  have he : (E x)[i]? = some ((E x)[i]'(by omega)) := List.getElem?_eq_getElem _
  have hc := (HG (h.hn x) k cl (by rw [Nat.zero_add]; exact hE)).2
  rw [Nat.zero_add] at hc
  have hb : tb (V0 A i) k = false := by
    cases hb : tb (V0 A i) k with
    | false => rfl
    | true =>
      have := GZ (h.anc x) h.dep hL i _ ho' (hL i _ ho' hi) k hb
      rw [hk] at this; cases this
  have ha := D7 hc i _ he (by rw [Nat.zero_add]; exact hik) (by rw [Nat.zero_add]; exact hb)
  rw [Nat.zero_add] at ha
  exact ⟨fun e hee => by rw [he] at hee; cases hee; exact ha.2.1, ha.2.2⟩
theorem Qbn {L : Nat -> Bool} {l : List Ef} {q : Nat} {cl : Cl} (h : Ef.wr q cl ∈ Yv L 0 l) : ∃ i : Nat, l[i]? = some (.wr q cl) /\ L i = true := by
  obtain ⟨i, hi⟩ := List.mem_iff_getElem?.1 h
  rw [Zg, Nat.zero_add] at hi
  cases he : l[i]? with
  | none => rw [he] at hi; cases hi
  | some e =>
    rw [he] at hi
    simp only [Option.map_some, Option.some.injEq] at hi
    split at hi
    . rename_i hL; subst hi; exact ⟨i, he, hL⟩
    . cases hi
theorem Qgj (ρ : QS) (n k B : Nat) : (SV.p (Nat.add n k) 0).den (ρ.setb (n + k) B) = .pointer (some ⟨B, 0, none⟩) := by
  have := QS.setb_at ρ (n + k) B
  simp only [SV.den]
  show Value.pointer (some ⟨(ρ.setb (n + k) B).b (n + k), 0, none⟩) = _
  rw [this]
theorem QkS (ρ : QS) (n k B l : Nat) : (SV.y (Nat.add n k) 0 l l).den (ρ.setb (n + k) B) = .slice (some ⟨B, 0, none⟩) l l := by
  have := QS.setb_at ρ (n + k) B
  simp only [SV.den]
  show Value.slice (some ⟨(ρ.setb (n + k) B).b (n + k), 0, none⟩) l l = _
  rw [this]
/-- A new block. -/
theorem Dw.goB (h : Dw c md os f m d n Γ α j sv fs pr V E A cA cB fps pv G rk xk) (km : (m.map Prod.fst).Nodup) {ρ0 ρ : QS} {x : α} {L : Nat -> Bool} {g : Nat -> Value} {W W' : World} (h1 : QI ρ f = QI ρ0 f) (h2 : ∀ i t v, L i = true -> Jc (V x) i = some (some t, v) -> g i = v.den ρ) (h3 : L j = true -> pr x) (h4 : Cl0 os L) (h5 : WM ρ c.L0 c.w0 (Xj (Yv L 0 (E x)) m) d (n + os.length) (Γ ++ bif L j then fs x else []) W) (h6 : ∀ i, L i = true -> i < os.length) {k : Nat} {o : Oper} (ho : os[k]? = some o) (hk : L k = false) (hkj : k ≠ j) (hd : ∀ q ∈ Qz .any o, L q = true) {cl : Cl} (hok : YK cl) {v : SV} (hv : Jc (V x) k = some (o.dst, v)) (he : (E x)[k]? = some (.wr (n + k) cl)) {u : Value} (hn : u = v.den (ρ.setb (n + k) W.heap.size) /\ Q8 W' W.heap.size (Qp ρ cl) /\ Below W.heap.size W W' /\ W.heap.size < W'.heap.size) : DG c os f m d n Γ j fs pr V E ρ0 (Yq L k true) (Yq g k u) W' := by
  obtain ⟨rfl, k1, k2, k3⟩ := hn
  have hkl : k < os.length := (List.getElem?_eq_some_iff.1 ho).1
  have hfresh := h.fresh x h4 ho hk he
  have hav := fun {i : Nat} (hi : L i = true) => h.avo x h4 ho hk he hi (h6 i hi)
  have hcl : avL (n + k) cl = true := by have := (HG (h.hn x) k cl (by rw [Nat.zero_add]; exact he)).1; rwa [Nat.zero_add] at this
  have hat : ZI (Xj (Yv L 0 (E x)) m) (n + k) = none := by
    rw [ZD, Vl fun e hm => ?_]
    . cases hq : ZI m (n + k) with
      | none => rfl
      | some c' => have := (Gy h.wfm _ (Zu hq)).1; simp only at this; omega
    . cases e with
      | no => rfl
      | wr q c' =>
        obtain ⟨i, hi, hLi⟩ := Qbn hm
        cases hon : (Ef.wr q c').on (n + k) with
        | false => rfl
        | true =>
          rcases hfresh i _ hi hon with e | e
          . rw [e, hk] at hLi; cases hLi
          . rw [e] at hLi; cases hLi
  have hmav : ∀ x' ∈ Xj (Yv L 0 (E x)) m, avL (n + k) x'.2 = true := GP (p := fun c => avL (n + k) c = true) (fun y hy => HU (Nat.le_add_right n k) _ (Gy h.wfm y hy).2) fun q c' hm => by
    obtain ⟨i, hi, hLi⟩ := Qbn hm
    exact (hav hLi).1 _ hi
  have hW := h5.newB (n := n) (Nat.le_add_right n k) (by omega) hmav hat h.wfd hok hcl (Nat.le_refl _) k2 k1
  have hbut : QS.but (n + k) ρ (ρ.setb (n + k) W.heap.size) := fun j hj => ⟨by simp only [QS.setb]; rw [if_neg hj], rfl⟩
  refine ⟨ρ.setb (n + k) W.heap.size, x, ?_, fun i t v hi hl => ?_, fun hj => h3 (by rw [<- Zt (v := true) (f := L) (fun e => hkj e.symm)]; exact hj), h4.up ho hd, ?_⟩
  . rw [<- h1]
    exact (Ym (n := n) (fun q hq => hbut q (by omega)) f h.wff).symm
  . by_cases e : i = k
    . subst e
      rw [hv] at hl
      simp only [Option.some.injEq, Prod.mk.injEq] at hl
      obtain ⟨_, rfl⟩ := hl
      rw [Jd]
    . rw [Zt e]
      rw [Zt e] at hi
      rw [h2 i t v hi hl]
      exact SV.den_but hbut v ((hav hi).2 _ _ hl)
  . rw [Zt (f := L) (v := true) (fun e => hkj e.symm)]
    refine hW.ext (fun q => ?_) (YQ km)
    rw [h.put1 x hk he (fun i e hi hon hki => (hfresh i e hi hon).resolve_left (by omega)) q]
    by_cases hq : q = n + k
    . subst hq; rw [if_pos rfl]; simp only [ZI, ZH]
    . rw [if_neg hq]; simp only [ZI, X9 fun e => hq e.symm]
/-- A store. -/
theorem Dw.goS (h : Dw c md os f m d n Γ α j sv fs pr V E A cA cB fps pv G rk xk) (km : (m.map Prod.fst).Nodup) {ρ0 ρ : QS} {x : α} {L : Nat -> Bool} {g : Nat -> Value} {W W' : World} (h1 : QI ρ f = QI ρ0 f) (h2 : ∀ i t v, L i = true -> Jc (V x) i = some (some t, v) -> g i = v.den ρ) (h3 : L j = true -> pr x) (h4 : Cl0 os L) (h5 : WM ρ c.L0 c.w0 (Xj (Yv L 0 (E x)) m) d (n + os.length) (Γ ++ bif L j then fs x else []) W) {k q : Nat} {o : Oper} (ho : os[k]? = some o) (hk : L k = false) (hkj : k ≠ j) (hd : ∀ q ∈ Qz .any o, L q = true) {c0 cl : Cl} (hq : (k, q) ∈ fps) (hc0 : ZI (Xj (Yv L 0 (E x)) m) q = some c0) (hok : YK cl) {v : SV} (hv : Jc (V x) k = some (o.dst, v)) (he : (E x)[k]? = some (.wr q cl)) (hb : Q8 W' (ρ.b q) (Qp ρ cl)) (hon : U4 (ρ.b q) W W') (u : Value) (hu : ∀ t, o.dst = some t -> u = v.den ρ) : DG c os f m d n Γ j fs pr V E ρ0 (Yq L k true) (Yq g k u) W' := by
  refine ⟨ρ, x, h1, fun i t v' hi hl => ?_, fun hj => h3 (by rw [<- Zt (v := true) (f := L) (fun e => hkj e.symm)]; exact hj), h4.up ho hd, ?_⟩
  . by_cases e : i = k
    . subst e
      rw [hv] at hl
      simp only [Option.some.injEq, Prod.mk.injEq] at hl
      obtain ⟨hdt, rfl⟩ := hl
      rw [Jd]
      exact hu t hdt
    . rw [Zt e]
      rw [Zt e] at hi
      exact h2 i t v' hi hl
  . rw [Zt (f := L) (v := true) (fun e => hkj e.symm)]
    refine (h5.put hc0 hb hok hon).ext (fun q' => ?_) (YQ km)
    rw [EC hc0, F5, h.put1 x hk he (h.above x h4 ho hk hq) q']
end
end Go.Proofs.YtbiboamaigedjaaGreatDoor
namespace Go.Proofs.YtbiboamaigedjaaGreatDoor
open Go.RowKit
set_option linter.unusedVariables false
set_option linter.constructorNameAsVariable false
set_option linter.unusedSimpArgs false

section
variable {c : Cx} {md : Bool} {os : List Oper} {f : SF} {m : SM} {d : SD} {n : Nat} {Γ : List QN} {α : Type} {j : Nat} {sv : α -> SV} {fs : α -> List QN} {pr : α -> Prop} {V : α -> VR} {E : α -> List Ef} {A : List (Nat × Nat)} {cA : List Prop} {cB : α -> List Prop} {fps : List (Nat × Nat)} {pv : List (Nat × SV)} {G : List QN} {rk : List (Nat × List Nat)} {xk : List Nat}
theorem Dw.step (h : Dw c md os f m d n Γ α j sv fs pr V E A cA cB fps pv G rk xk) (km : (m.map Prod.fst).Nodup) {ρ0 : QS} {a : Act} (ha : Fr c.N a (QI ρ0 f)) {L : Nat -> Bool} {g : Nat -> Value} {W : World} (hG : DG c os f m d n Γ j fs pr V E ρ0 L g W) (h6 : ∀ i, L i = true -> i < os.length) {k : Nat} {o : Oper} (ho : os[k]? = some o) (hk : L k = false) (hd : ∀ q ∈ Qz .any o, L q = true) :
    Qt c.P os.toArray o (Xe os.toArray g (Qz .any o) a) W fun v W' => DG c os f m d n Γ j fs pr V E ρ0 (Yq L k true) (Yq g k v) W' := by
  obtain ⟨ρ, x, h1, h2, h3, h4, h5⟩ := hG
  obtain ⟨fk, v, e, cs, fp, p1, p2, p3, p4, p5, p6, p7, p8, p9, p10⟩ := h.sp x ho
  have hfr : Fr c.N (Xe os.toArray g (Qz .any o) a) (QI ρ fk) := h.fr x h2 (fun i hi => ⟨hd i hi, h6 i (hd i hi)⟩) p2 (by rw [h1]; exact ha)
  have hcs : k ≠ j -> XD cs := fun hkj => by
    cases hb : tb (V0 A k) j with
    | false => exact p8 hb h.hA
    | true => exact p9 hb (h.hB x (h3 (GZ (h.anc x) h.dep h4 k o ho hd j hb)))
  unfold drG at p5
  split at p5
  case h_3 => cases p5
  case h_2 =>
    rename_i hgo
    split at p5
    . cases p5
    . rename_i hkj
      have hkj := Nat.ne_of_beq_eq_false hkj
      simp only [Option.some.injEq, Prod.mk.injEq] at p5
      obtain ⟨rfl, rfl, rfl, rfl⟩ := p5
      have hwo := (VG (ρ := ρ)).2.1 hgo
      have hgn := h.goN km h1 h2 h3 h4 h5 ho hkj hd p3 p4
      simp only [SV.den] at hgn
      exact Qt.off (Qj hfr hwo) hgn
  rename_i hgo
  have hw : Qu os.toArray o (QI ρ fk) = some true := (VG (ρ := ρ)).1 hgo
  unfold drS at p5
  split at p5
  . -- the call
    rename_i hkj
    have hkj := Nat.eq_of_beq_eq_true hkj
    subst hkj
    simp only [Option.some.injEq, Prod.mk.injEq] at p5
    obtain ⟨rfl, rfl, rfl, rfl⟩ := p5
    rw [hk] at h5
    have hdr := h.hj o ho x fk p2 ρ W (own ρ (Xj (Yv L 0 (E x)) m) c.L0) h5.lt h5.hs.pre
    refine (hdr _ hfr).mono fun u W' hu => ?_
    obtain ⟨x', rfl, g1, g2, g3⟩ := hu
    obtain ⟨_, v', e', _, _, _, _, q3, q4, q5, _⟩ := h.sp x' ho
    unfold drG at q5
    split at q5
    case h_3 => cases q5
    case h_2 => rw [ZH] at q5; cases q5
    unfold drS at q5
    rw [ZH] at q5
    simp only [Option.some.injEq, Prod.mk.injEq] at q5
    obtain ⟨rfl, rfl, _⟩ := q5
    have hind : ∀ i, L i = true -> Jc (V x) i = Jc (V x') i /\ (E x)[i]? = (E x')[i]? := fun i hi => by
      have hik : i ≠ k := fun e => by rw [e, hk] at hi; cases hi
      refine h.hi x x' i ?_ hik
      cases hb : tb (V0 A i) k with
      | false => rfl
      | true =>
        have hil := h6 i hi
        have hoi : os[i]? = some os[i] := List.getElem?_eq_getElem hil
        have := GZ (h.anc x) h.dep h4 i _ hoi (h4 i _ hoi hi) k hb
        rw [hk] at this; cases this
    refine ⟨ρ, x', h1, fun i t u hi hl => ?_, fun _ => g2, h4.up ho hd, ?_⟩
    . by_cases e : i = k
      . subst e
        rw [q3] at hl
        simp only [Option.some.injEq, Prod.mk.injEq] at hl
        obtain ⟨_, rfl⟩ := hl
        rw [Jd]
        exact Yr (h.wf x') QR ρ
      . rw [Zt e]
        rw [Zt e] at hi
        exact h2 i t u hi (by rw [(hind i hi).1]; exact hl)
    . rw [Jd]
      have h5' := h5.below g3
      have h7 : WM ρ c.L0 c.w0 (Xj (Yv L 0 (E x)) m) d (n + os.length) (Γ ++ fs x') W' := ⟨h5'.mem, h5'.key, h5'.nod, h5'.low, h5'.bel, h5'.dat, h5'.dky, h5'.ll, h5'.hs.pre.app g1⟩
      refine h7.ext (fun q => ?_) (YQ km)
      rw [h.putN x' q4 q, ZD, ZD]
      refine VE (fun i => ?_) fun i a b ha' hb' hon => ?_
      . rw [Zg, Zg, Nat.zero_add]
        cases hi : L i with
        | true => rw [(hind i hi).2]
        | false =>
          have l1 := h.len x
          have l2 := h.len x'
          cases e1 : (E x)[i]? with
          | none =>
            cases e2 : (E x')[i]? with
            | none => rfl
            | some y => have := List.getElem?_eq_none_iff.1 e1; have := (List.getElem?_eq_some_iff.1 e2).1; omega
          | some z =>
            cases e2 : (E x')[i]? with
            | none => have := List.getElem?_eq_none_iff.1 e2; have := (List.getElem?_eq_some_iff.1 e1).1; omega
            | some y => rfl
      . rw [Zg, Nat.zero_add] at ha' hb'
        cases hi : L i with
        | true => rw [(hind i hi).2, ha'] at hb'; exact Option.some.inj hb'
        | false =>
          rw [hi] at ha' 
          cases e1 : (E x')[i]? with
          | none => rw [e1] at ha'; cases ha'
          | some y => rw [e1] at ha'; simp only [Option.map_some, Option.some.injEq] at ha'; subst ha'; cases hon
  . rename_i hkj
    have hkj := Nat.ne_of_beq_eq_false hkj
    have hcs := hcs hkj
    split at p5
    . -- a call of a function of values
      rename_i v0 hv0
      split at p5
      . rename_i g xs ts hop
        split at p5
        . rename_i F caps hF
          split at p5
          . rename_i vs hxs
            split at p5
            . -- without a body
              split at p5
              . simp only [Option.some.injEq, Prod.mk.injEq] at p5
                obtain ⟨rfl, rfl, rfl, rfl⟩ := p5
                have hp : PE c.P F vs v0 := hcs.1
                have g1 := QG (ρ := ρ) hF
                simp only [SV.den, QO] at g1
                have g2 := VI (ρ := ρ) hxs
                rw [Gf hp.wa ρ QR] at g2
                have hdr := EW (P := c.P) (ops := os.toArray) (o := o) (N := c.N) (xs := xs) (by rw [hop]) g1 g2 (hp.h W) hw
                refine (hdr _ hfr).mono fun u W' hu => ?_
                obtain ⟨rfl, hww⟩ := hu
                subst hww
                rw [Yr hp.wv QR ρ]
                exact h.goN km h1 h2 h3 h4 h5 ho hkj hd p3 p4
              . cases p5
            . split at p5
              . simp only [Option.some.injEq, Prod.mk.injEq] at p5
                obtain ⟨rfl, rfl, rfl, rfl⟩ := p5
                have hp : PV c.P G F (vs ++ caps) v0 := hcs.1
                obtain ⟨fn, hf, hnn, hbb⟩ := hp.fn
                have g1 := QG (ρ := ρ) hF
                simp only [SV.den] at g1
                have hcc := hp.at ρ h5.lt (h.hG _ _ h5.hs.pre)
                unfold CX at hcc
                rw [FT] at hcc
                have hdr := Qdb (P := c.P) (ops := os.toArray) (o := o) (N := c.N) (xs := xs) (cs := QO ρ caps) (by rw [hop]) g1 hf hnn hbb (VI hxs) hcc hw
                refine (hdr _ hfr).mono fun u W' hu => ?_
                obtain ⟨⟨_, rfl, _, _⟩, hbel⟩ := hu
                rw [Yr hp.wv QR ρ]
                exact h.goN km h1 h2 h3 h4 (h5.below hbel) ho hkj hd p3 p4
              . rename_i q0 l0 hrk
                split at p5
                . rename_i mc hmc
                  simp only [Option.some.injEq, Prod.mk.injEq] at p5
                  obtain ⟨rfl, rfl, rfl, rfl⟩ := p5
                  have hp : PR c.P G F (vs ++ caps) mc v0 := hcs.1
                  obtain ⟨fn, hf, hnn, hbb⟩ := hp.fn
                  have g1 := QG (ρ := ρ) hF
                  simp only [SV.den] at g1
                  have hmm : ∀ y ∈ mc, Q8 W (ρ.b y.1) (Qp ρ y.2) /\ YK y.2 := fun y hy => by
                    obtain ⟨y1, y2⟩ := HF hmc y hy
                    have hat : ZI (Xj (Yv L 0 (E x)) m) y.1 = some y.2 := by rw [h.mem x h4 ho hk hd (p10 _ y1)]; exact y2
                    exact h5.cell hat
                  have hcc := hp.h ρ W ⟨_, h.hG _ _ h5.hs.pre⟩ hmm
                  unfold CX at hcc
                  rw [FT] at hcc
                  have hdr := Qdb (P := c.P) (ops := os.toArray) (o := o) (N := c.N) (xs := xs) (cs := QO ρ caps) (by rw [hop]) g1 hf hnn hbb (VI hxs) hcc hw
                  refine (hdr _ hfr).mono fun u W' hu => ?_
                  obtain ⟨⟨_, rfl, _, _⟩, hbel⟩ := hu
                  rw [Yr hp.wv QR ρ]
                  exact h.goN km h1 h2 h3 h4 (h5.below hbel) ho hkj hd p3 p4
                . cases p5
          . cases p5
        . cases p5
      . rename_i t g hop
        simp only [Option.some.injEq, Prod.mk.injEq] at p5
        obtain ⟨rfl, rfl, rfl, rfl⟩ := p5
        have hp : GL c.P G t g v0 := hcs.1
        refine (hp.h W _ h5.lt (h.hG _ _ h5.hs.pre) os.toArray o c.N (QI ρ fk) hop hw _ hfr).mono fun u W' hu => ?_
        obtain ⟨rfl, hww⟩ := hu
        subst hww
        rw [Yr hp.wv QR ρ]
        exact h.goN km h1 h2 h3 h4 h5 ho hkj hd p3 p4
      . -- a value told otherwise
        split at p5
        . rename_i v1 cs1 hval
          simp only [Option.some.injEq, Prod.mk.injEq] at p5
          obtain ⟨rfl, rfl, rfl, rfl⟩ := p5
          have hval' : E7 (c.T.wo c.P G pv rk xk) md fk (Xj (Yv L 0 (E x)) m) d [] o.op = some (v1, cs1) := by
            rw [HY (m' := Xj ((E x).take k) m) fun q hq => h.mem x h4 ho hk hd (p10 q (Qbi.2 hq))]
            exact hval
          have hdv := Qdt (N := c.N) c.ok h5 hw hval' hcs.2
          refine (hdv _ hfr).mono fun u W' hu => ?_
          obtain ⟨rfl, rfl⟩ := hu
          rw [hcs.1 ρ]
          exact h.goN km h1 h2 h3 h4 h5 ho hkj hd p3 p4
        . cases p5
    . split at p5
      . -- a store
        rename_i t px pw hop
        split at p5
        . cases p5
        . rename_i hdst
          split at p5
          . rename_i sx hx
            split at p5
            . rename_i q hq
              split at p5
              . rename_i c0 hc0
                split at p5
                . rename_i pvv hpv
                  split at p5
                  . rename_i c1 cs1 hst
                    simp only [Option.some.injEq, Prod.mk.injEq] at p5
                    obtain ⟨rfl, rfl, rfl, rfl⟩ := p5
                    have hqf := p10 q (.head _)
                    have hat : ZI (Xj (Yv L 0 (E x)) m) q = some c0 := by rw [h.mem x h4 ho hk hd hqf]; exact hc0
                    obtain ⟨b1, b2⟩ := h5.cell hat
                    obtain ⟨_, s2, s3⟩ := Ev (N := c.N) c.ok hw hq b1 b2 hop (QG hx) (QG hpv) hst hcs
                    exact (s3 _ hfr).mono fun u W' hb => h.goS km h1 h2 h3 h4 h5 ho hk hkj hd hqf hat s2 p3 p4 hb.1 hb.2 u (fun t ht => by rw [hdst] at ht; cases ht)
                  . cases p5
                . cases p5
              . cases p5
            . cases p5
          . cases p5
      . -- a box
        rename_i hop
        split at p5
        . rename_i sx hx
          split at p5
          . rename_i c1 cs1 hcv
            simp only [Option.some.injEq, Prod.mk.injEq] at p5
            obtain ⟨rfl, rfl, rfl, rfl⟩ := p5
            obtain ⟨_, s1, s2, s3⟩ := YR (ρ := ρ) hcv hcs
            exact (QhV hop (QG hx) s2 hw _ hfr).mono fun u W' hb => h.goB km h1 h2 h3 h4 h5 h6 ho hk hkj hd s1 p3 p4 ⟨by rw [Qgj]; exact hb.1, hb.2⟩
          . cases p5
        . cases p5
      . rename_i t hop
        split at p5
        . rename_i i hi
          split at p5
          . rename_i c1 hz
            simp only [Option.some.injEq, Prod.mk.injEq] at p5
            obtain ⟨rfl, rfl, rfl, rfl⟩ := p5
            obtain ⟨z1, z2, Z, z3, z4⟩ := TT.zero c.ok hi hz
            exact (Z0 hop z3 (z4 ρ) hw _ hfr).mono fun u W' hb => h.goB km h1 h2 h3 h4 h5 h6 ho hk hkj hd z1 p3 p4 ⟨by rw [Qgj]; exact hb.1, hb.2⟩
          . cases p5
        . cases p5
      . -- a slice written out
        rename_i t len ps hop
        split at p5
        . rename_i c1 cs1 hl
          simp only [Option.some.injEq, Prod.mk.injEq] at p5
          obtain ⟨rfl, rfl, rfl, rfl⟩ := p5
          obtain ⟨_, s1, s2⟩ := Qd0 (N := c.N) (w := W) (ρ := ρ) c.ok hw hop hl hcs
          exact (s2 _ hfr).mono fun u W' hb => h.goB km h1 h2 h3 h4 h5 h6 ho hk hkj hd s1 p3 p4 ⟨by rw [QkS]; exact hb.1, hb.2⟩
        . cases p5
      . -- a copy
        rename_i px py t t' hop
        split at p5
        . rename_i q c1 z q' cs1 hl
          simp only [Option.some.injEq, Prod.mk.injEq] at p5
          obtain ⟨rfl, rfl, rfl, rfl⟩ := p5
          have hl' : D1 (c.T.wo c.P G pv rk xk) fk (Xj (Yv L 0 (E x)) m) [] t px py = some (q, c1, z, q', cs1) := by
            rw [Qdd (m' := Xj ((E x).take k) m) hl fun y hy => h.mem x h4 ho hk hd (p10 y hy)]
            exact hl
          obtain ⟨_, s1, ⟨c0, s2⟩, s3⟩ := Qet (N := c.N) c.ok h5 hw hop hl' hcs
          exact (s3 _ hfr).mono fun u W' hb => h.goS km h1 h2 h3 h4 h5 ho hk hkj hd (p10 q (.head _)) s2 s1 p3 p4 hb.2.1 hb.2.2 u (fun _ _ => by rw [hb.1]; simp only [SV.den])
        . cases p5
      . -- a value
        split at p5
        . rename_i v1 cs1 hval
          simp only [Option.some.injEq, Prod.mk.injEq] at p5
          obtain ⟨rfl, rfl, rfl, rfl⟩ := p5
          have hval' : E7 (c.T.wo c.P G pv rk xk) md fk (Xj (Yv L 0 (E x)) m) d [] o.op = some (v1, cs1) := by
            rw [HY (m' := Xj ((E x).take k) m) fun q hq => h.mem x h4 ho hk hd (p10 q (Qbi.2 hq))]
            exact hval
          have hdv := Qdt (N := c.N) c.ok h5 hw hval' hcs
          refine (hdv _ hfr).mono fun u W' hu => ?_
          obtain ⟨rfl, rfl⟩ := hu
          exact h.goN km h1 h2 h3 h4 h5 ho hkj hd p3 p4
        . cases p5
/-- XD have run. -/
def GR (V : VR) (f : SF) : Nat -> Nat -> Option SF
  | _, 0 => some f
  | i, s + 1 => match Jc V i with
    | some (some t, v) => GR V ((t, v) :: f) (Nat.succ i) s
    | some (none, _) => GR V f (Nat.succ i) s
    | none => none
theorem HD {V : VR} : ∀ {s i : Nat} {f : SF}, GR V f i s = Jb V (List.range' i s) f
  | 0, i, f => rfl
  | s + 1, i, f => by
    rw [List.range'_succ]
    cases hl : Jc V i with
    | none => simp only [GR, Jb, hl]
    | some y =>
      obtain ⟨t, v⟩ := y
      cases t with
      | none => simp only [GR, Jb, hl]; exact HD
      | some t => simp only [GR, Jb, hl]; exact HD
theorem Fz : ∀ {l : List Ef} {k : Nat} {L : Nat -> Bool}, (∀ i, i < k + l.length -> L i = true) -> Yv L k l = l
  | [], k, L, _ => rfl
  | e :: l, k, L, h => by
    simp only [Yv]
    rw [h k (by simp), Fz (l := l) fun i hi => h i (by simp only [List.length_cons]; omega)]
theorem S.drawn {id : Nat} (h : Dw c md os f m d n Γ α j sv fs pr V E A cA cB fps pv G rk xk) [Inhabited α] (hm : c.P.follows .mixedOrders = true) {ks : List It} {f' : α -> SF} {m' : α -> SM} (hf' : ∀ x, GR (V x) f 0 os.length = some (f' x)) (hm' : ∀ x, Xj (E x) m = m' x) (hj : Nat.blt j os.length = true \/ ∀ x, pr x /\ fs x = [])
    (k : ∀ x, pr x -> S c ks (f' x) (m' x) d (n + os.length) (Γ ++ fs x)) : S c (.c (.region id os.toArray true) :: ks) f m d n Γ := fun ρ0 a w ha hW => by
  have km := Zn hW.nod
  refine wp_region_any hm ?_
  have hF0 : ∀ j, (Array.replicate os.toArray.size false).getD j false = true -> False := fun j hj => by simp [Array.getD_eq_getD_getElem?, Array.getElem?_replicate] at hj; split at hj <;> simp_all
  have hL0 : (fun j => (Array.replicate os.toArray.size false).getD j false) = fun _ => false := by
    funext j
    cases hj : (Array.replicate os.toArray.size false).getD j false with
    | false => rfl
    | true => exact (hF0 j hj).elim
  have hW1 := hW.below (Yo (Below.refl _ _) 1)
  have hstart : ∀ g, DG c os f m d n Γ j fs pr V E ρ0 (fun _ => false) g w.drew := fun g => by
    refine ⟨ρ0, default, rfl, (fun i t v hi => by cases hi), (fun hi => by cases hi), (fun k o _ hk => by cases hk), ?_⟩
    have hmm : ∀ (l : List Ef) (k : Nat) (m : SM), Xj (Yv (fun _ => false) k l) m = m := by
      intro l
      induction l with
      | nil => intro k m; rfl
      | cons e l ih => intro k m; exact ih (k + 1) m
    rw [hmm]
    simp only [cond_false, List.append_nil]
    exact ⟨hW1.mem, fun x hx => Nat.lt_of_lt_of_le (hW1.key x hx) (Nat.le_add_right _ _), hW1.nod, hW1.low, hW1.bel, hW1.dat, fun x hx => Nat.lt_of_lt_of_le (hW1.dky x hx) (Nat.le_add_right _ _), hW1.ll, hW1.hs⟩
  refine KE (md := .any) h.hb a (fun L g W => (∀ i, L i = true -> i < os.length) /\ DG c os f m d n Γ j fs pr V E ρ0 L g W) (fun _ _ _ => True) (fun _ _ _ _ => True) (fun _ _ _ _ _ _ _ _ _ _ => trivial) ?_ ?_ os.toArray.size _ (fun _ => undef) a w.drew (by simp) (by
      have := List.countP_le_length (p := fun b => !b) (l := (Array.replicate os.toArray.size false).toList)
      simpa using this) (fun j hj => (hF0 j hj).elim) (Q4.start fun j hj => hF0 j hj) (by rw [hL0]; exact ⟨fun i hi => (by cases hi), hstart _⟩) (fun _ _ => trivial)
  . intro i o hoi L g W hLi hno hdl hG _
    have ho : os[i]? = some o := by simpa using hoi
    refine (h.step km ha hG.2 hG.1 ho hLi hdl).mono fun v W' hv => ⟨trivial, ⟨fun q hq => ?_, hv⟩, trivial⟩
    unfold Yq at hq
    split at hq
    . rename_i e; subst e; exact (List.getElem?_eq_some_iff.1 ho).1
    . exact hG.1 q hq
  . intro L g W hL hG _
    obtain ⟨_, ρ, x, h1, h2, h3, h4, h5⟩ := hG
    have hLt : ∀ i, i < os.length -> L i = true := fun i hi => by rw [hL i]; simpa using hi
    have hel := h.len x
    rw [Fz fun i hi => hLt i (by omega), hm' x] at h5
    have hfr : Fr c.N (Xe os.toArray g (List.range os.toArray.size) a) (QI ρ (f' x)) := by
      rw [List.range_eq_range']
      refine h.fr x h2 (l := List.range' 0 os.toArray.size) (fun i hi => ?_) (by rw [<- HD]; simpa using hf' x) (by rw [h1]; exact ha)
      have : i < os.length := by simpa [List.mem_range'] using hi
      exact ⟨hLt i this, this⟩
    cases hLj : L j with
    | true =>
      rw [hLj] at h5
      exact k x (h3 hLj) ρ _ W hfr h5
    | false =>
      rw [hLj] at h5
      rcases hj with hj | hj
      . rw [hLt j (QY hj)] at hLj; cases hLj
      . have := k x (hj x).1
        rw [(hj x).2] at this
        exact this ρ _ W hfr h5
end
end Go.Proofs.YtbiboamaigedjaaGreatDoor
namespace Go.Proofs.YtbiboamaigedjaaGreatDoor
open Go.RowKit
set_option linter.unusedVariables false
set_option linter.constructorNameAsVariable false
set_option linter.unusedSimpArgs false

def Gb : List Ef -> SM -> (SM -> Option SM) -> Option SM
  | [], m, K => K m
  | .no :: l, m, K => Gb l m K
  | .wr k c :: l, m, K => Qgl k c m fun m' => Gb l m' K
theorem VH : ∀ {l : List Ef} {m : SM} {K : SM -> Option SM}, Gb l m K = K (Xj l m)
  | [], m, K => rfl
  | .no :: l, m, K => VH (l := l)
  | .wr k c :: l, m, K => by
    unfold Gb
    rw [Df]
    exact VH (l := l)
section
variable {c : Cx} {os : List Oper} {f : SF} {m : SM} {d : SD} {n : Nat} {Γ : List QN} {ks : List It} {id : Nat} {A : List (Nat × Nat)} {cA : List Prop} {fps : List (Nat × Nat)}
/-- A drawn region without a call. -/
theorem S.dr0 (md : Bool) {V : VR} {E : List Ef} {cB : List Prop} {f' : SF} {m' : SM} (hx : drx (c.T.wo c.P [] []) md c.N d n os.length .u f os.toArray os 0 [] m [] = some (V, E, A, cA, cB, fps)) (hf' : GR V f 0 os.length = some f') (hm' : Gb E m some = some m') (k : S c ks f' m' d (n + os.length) Γ)
    (hc : XD cA /\ XD cB := by repeat' (first | exact True.intro | exact fun h => h | refine And.intro ?_ ?_ | omega | exact rfl | (simp only [Int.reduceToNat, Int.reducePow]; omega) | intro _)) (hm : c.P.follows .mixedOrders = true := by kernel_rfl) (hb : Ud .any os.toArray = true := by kernel_rfl) (ho : D4 A E fps = true := by rfl) (hn : GV A V E n E 0 = true := by rfl) (wff : wfF n f = true := by rfl) (wfm : HR n m = true := by rfl) (wfd : Hk n d = true := by rfl) : S c (.c (.region id os.toArray true) :: ks) f m d n Γ :=
  S.drawn (α := Unit) (j := os.length) (sv := fun _ => .u) (fs := fun _ => []) (pr := fun _ => True) (V := fun _ => V) (E := fun _ => E) (A := A) (cA := cA) (cB := fun _ => cB) (fps := fps) (f' := fun _ => f') (m' := fun _ => m')
    ⟨hb, fun _ => hx, fun _ => ho, fun _ => hn, fun _ _ _ _ _ => ⟨rfl, rfl⟩, hc.1, fun _ _ => hc.2, fun _ => rfl, wff, wfm, wfd, fun o hoj => by simp at hoj, fun _ _ _ => trivial⟩
    hm (fun _ => hf') (fun _ => by rw [VH] at hm'; exact Option.some.inj hm') (.inr fun _ => ⟨trivial, rfl⟩) fun _ _ => by rw [List.append_nil]; exact k
/-- A drawn region whose calls are of functions of values. -/
theorem S.drp {G : List QN} (md : Bool) (pv : List (Nat × SV)) {V : VR} {E : List Ef} {cB : List Prop} {f' : SF} {m' : SM} (hx : drx (c.T.wo c.P G pv [] []) md c.N d n os.length .u f os.toArray os 0 [] m [] = some (V, E, A, cA, cB, fps)) (hf' : GR V f 0 os.length = some f') (hm' : Gb E m some = some m') (k : S c ks f' m' d (n + os.length) Γ)
    (hc : XD cA /\ XD cB := by repeat' (first | assumption | exact True.intro | exact fun h => h | refine And.intro ?_ ?_ | omega | exact rfl | (simp only [Int.reduceToNat, Int.reducePow]; omega) | intro _)) (hm : c.P.follows .mixedOrders = true := by kernel_rfl) (hb : Ud .any os.toArray = true := by kernel_rfl) (ho : D4 A E fps = true := by rfl) (hn : GV A V E n E 0 = true := by rfl) (wff : wfF n f = true := by rfl) (wfm : HR n m = true := by rfl) (wfd : Hk n d = true := by rfl) (hG : ∀ L' W, Hs Γ L' W -> Hs G L' W := by first | exact fun _ _ h => h | exact fun _ _ h => Hs.pre h) : S c (.c (.region id os.toArray true) :: ks) f m d n Γ :=
  S.drawn (α := Unit) (j := os.length) (sv := fun _ => .u) (fs := fun _ => []) (pr := fun _ => True) (V := fun _ => V) (E := fun _ => E) (A := A) (cA := cA) (cB := fun _ => cB) (fps := fps) (f' := fun _ => f') (m' := fun _ => m')
    ⟨hb, fun _ => hx, fun _ => ho, fun _ => hn, fun _ _ _ _ _ => ⟨rfl, rfl⟩, hc.1, fun _ _ => hc.2, fun _ => rfl, wff, wfm, wfd, fun o hoj => by simp at hoj, hG⟩
    hm (fun _ => hf') (fun _ => by rw [VH] at hm'; exact Option.some.inj hm') (.inr fun _ => ⟨trivial, rfl⟩) fun _ _ => by rw [List.append_nil]; exact k
/-- The same, where rk says which own blocks a call reads. -/
theorem S.drq {G : List QN} (md : Bool) (pv : List (Nat × SV)) (rk : List (Nat × List Nat)) {V : VR} {E : List Ef} {cB : List Prop} {f' : SF} {m' : SM} (hx : drx (c.T.wo c.P G pv rk []) md c.N d n os.length .u f os.toArray os 0 [] m [] = some (V, E, A, cA, cB, fps)) (hf' : GR V f 0 os.length = some f') (hm' : Gb E m some = some m') (k : S c ks f' m' d (n + os.length) Γ)
    (hc : XD cA /\ XD cB := by repeat' (first | assumption | exact True.intro | exact fun h => h | refine And.intro ?_ ?_ | omega | exact rfl | (simp only [Int.reduceToNat, Int.reducePow]; omega) | intro _)) (hm : c.P.follows .mixedOrders = true := by kernel_rfl) (hb : Ud .any os.toArray = true := by kernel_rfl) (ho : D4 A E fps = true := by rfl) (hn : GV A V E n E 0 = true := by rfl) (wff : wfF n f = true := by rfl) (wfm : HR n m = true := by rfl) (wfd : Hk n d = true := by rfl) (hG : ∀ L' W, Hs Γ L' W -> Hs G L' W := by first | exact fun _ _ h => h | exact fun _ _ h => Hs.pre h) : S c (.c (.region id os.toArray true) :: ks) f m d n Γ :=
  S.drawn (α := Unit) (j := os.length) (sv := fun _ => .u) (fs := fun _ => []) (pr := fun _ => True) (V := fun _ => V) (E := fun _ => E) (A := A) (cA := cA) (cB := fun _ => cB) (fps := fps) (f' := fun _ => f') (m' := fun _ => m')
    ⟨hb, fun _ => hx, fun _ => ho, fun _ => hn, fun _ _ _ _ _ => ⟨rfl, rfl⟩, hc.1, fun _ _ => hc.2, fun _ => rfl, wff, wfm, wfd, fun o hoj => by simp at hoj, hG⟩
    hm (fun _ => hf') (fun _ => by rw [VH] at hm'; exact Option.some.inj hm') (.inr fun _ => ⟨trivial, rfl⟩) fun _ _ => by rw [List.append_nil]; exact k
/-- The same, where xk says which calls are of functions without a body. -/
theorem S.dre {G : List QN} (md : Bool) (pv : List (Nat × SV)) (rk : List (Nat × List Nat)) (xk : List Nat) {V : VR} {E : List Ef} {cB : List Prop} {f' : SF} {m' : SM} (hx : drx (c.T.wo c.P G pv rk xk) md c.N d n os.length .u f os.toArray os 0 [] m [] = some (V, E, A, cA, cB, fps)) (hf' : GR V f 0 os.length = some f') (hm' : Gb E m some = some m') (k : S c ks f' m' d (n + os.length) Γ)
    (hc : XD cA /\ XD cB := by repeat' (first | assumption | exact True.intro | exact fun h => h | refine And.intro ?_ ?_ | omega | exact rfl | (simp only [Int.reduceToNat, Int.reducePow]; omega) | intro _)) (hm : c.P.follows .mixedOrders = true := by kernel_rfl) (hb : Ud .any os.toArray = true := by kernel_rfl) (ho : D4 A E fps = true := by rfl) (hn : GV A V E n E 0 = true := by rfl) (wff : wfF n f = true := by rfl) (wfm : HR n m = true := by rfl) (wfd : Hk n d = true := by rfl) (hG : ∀ L' W, Hs Γ L' W -> Hs G L' W := by first | exact fun _ _ h => h | exact fun _ _ h => Hs.pre h) : S c (.c (.region id os.toArray true) :: ks) f m d n Γ :=
  S.drawn (α := Unit) (j := os.length) (sv := fun _ => .u) (fs := fun _ => []) (pr := fun _ => True) (V := fun _ => V) (E := fun _ => E) (A := A) (cA := cA) (cB := fun _ => cB) (fps := fps) (f' := fun _ => f') (m' := fun _ => m')
    ⟨hb, fun _ => hx, fun _ => ho, fun _ => hn, fun _ _ _ _ _ => ⟨rfl, rfl⟩, hc.1, fun _ _ => hc.2, fun _ => rfl, wff, wfm, wfd, fun o hoj => by simp at hoj, hG⟩
    hm (fun _ => hf') (fun _ => by rw [VH] at hm'; exact Option.some.inj hm') (.inr fun _ => ⟨trivial, rfl⟩) fun _ _ => by rw [List.append_nil]; exact k
end
mutual
theorem SV.wf_up {n n' : Nat} (h : n <= n') : ∀ x : SV, x.wf n = true -> x.wf n' = true
  | .v x, _ => by simp only [SV.wf]
  | .i K n, _ => by simp only [SV.wf]
  | .lit _ _, _ => by simp only [SV.wf]
  | .c p d, _ => by simp only [SV.wf]
  | .l b, _ => by simp only [SV.wf]
  | .s x, _ => by simp only [SV.wf]
  | .o _ _ _, _ => by simp only [SV.wf]
  | .p k o, hw => by have := QY (by simpa only [SV.wf] using hw : Nat.blt k n = true); simp only [SV.wf]; exact Nat.ble_eq_true_of_le (Nat.le_trans this h)
  | .x k o s z, hw => by have := QY (by simpa only [SV.wf] using hw : Nat.blt k n = true); simp only [SV.wf]; exact Nat.ble_eq_true_of_le (Nat.le_trans this h)
  | .q k o, hw => by have := QY (by simpa only [SV.wf] using hw : Nat.blt k n = true); simp only [SV.wf]; exact Nat.ble_eq_true_of_le (Nat.le_trans this h)
  | .y k _ _ _, hw => by have := QY (by simpa only [SV.wf] using hw : Nat.blt k n = true); simp only [SV.wf]; exact Nat.ble_eq_true_of_le (Nat.le_trans this h)
  | .z k _ _ _, hw => by have := QY (by simpa only [SV.wf] using hw : Nat.blt k n = true); simp only [SV.wf]; exact Nat.ble_eq_true_of_le (Nat.le_trans this h)
  | .r k _ _ _, hw => by have := QY (by simpa only [SV.wf] using hw : Nat.blt k n = true); simp only [SV.wf]; exact Nat.ble_eq_true_of_le (Nat.le_trans this h)
  | .t l, hw => by simp only [SV.wf]; exact Kd h l (by simpa only [SV.wf] using hw)
  | .g l, hw => by simp only [SV.wf]; exact Kd h l (by simpa only [SV.wf] using hw)
  | .f _ l, hw => by simp only [SV.wf]; exact Kd h l (by simpa only [SV.wf] using hw)
  | .a _ _ _, _ => by simp only [SV.wf]
  | .w p d x, hw => by simp only [SV.wf]; exact SV.wf_up h x (by simpa only [SV.wf] using hw)
  | .u, _ => by simp only [SV.wf]
theorem Kd {n n' : Nat} (h : n <= n') : ∀ l : List SV, VU n l = true -> VU n' l = true
  | [], _ => by simp only [VU]
  | x :: l, hw => by
    unfold VU at hw
    split at hw
    . rename_i hx
      unfold VU
      rw [SV.wf_up h x hx]
      exact Kd h l hw
    . cases hw
end
section
variable {c : Cx} {os : List Oper} {f : SF} {m : SM} {d : SD} {n : Nat} {Γ : List QN} {ks : List It} {id : Nat} {A : List (Nat × Nat)} {cA : List Prop} {fps : List (Nat × Nat)}
/-- An element of a slice that is read. -/
theorem WM.data {ρ : QS} {L0 : List Nat} {w0 w : World} (h : WM ρ L0 w0 m d n Γ w) {B : Nat × Nat} {cs : List SV} (hm : HR n m = true) (hd : Hk n d = true) (hcs : VU n cs = true) (hok : YK cs) (h0 : 0 < YC cs) (hB : B.1 ∉ own ρ m L0) (hr : w.rangeAt B.1 B.2 (Qp ρ cs)) : WM (ρ.setd n B) L0 w0 m ((n, cs) :: d) (n + 1) Γ w := by
  have h1 := h.upto (QS.setd_upto ρ n B) hm hd
  have hown : own (ρ.setd n B) m L0 = own ρ m L0 := rfl
  refine ⟨h1.mem, fun x hx => Nat.lt_succ_of_lt (h1.key x hx), h1.nod, h1.low, h1.bel, fun x hx => ?_, fun x hx => ?_, h1.ll, h1.hs⟩
  . cases hx with
    | head =>
      rw [hown]
      simp only [QS.setd_at]
      rw [<- Xv (QS.setd_upto ρ n B) cs hcs]
      exact ⟨hB, hr, hok, h0⟩
    | tail _ hx => exact h1.dat x hx
  . cases hx with
    | head => exact Nat.lt_succ_self _
    | tail _ hx => exact Nat.lt_succ_of_lt (h1.dky x hx)
end
end Go.Proofs.YtbiboamaigedjaaGreatDoor
namespace Go.Proofs.YtbiboamaigedjaaGreatDoor
open Go.RowKit
set_option linter.unusedVariables false
set_option linter.constructorNameAsVariable false
set_option linter.unusedSimpArgs false
section
variable {c : Cx} {ks : List It} {f : SF} {m : SM} {d : SD} {n : Nat} {Γ : List QN}
/-- A call of a function of values. -/
theorem S.cv {G : List QN} {F : FuncId} {v : SV} {ops : Array Oper} {o : Oper} {r : List Oper} {t : Nat} {g : Operand} {xs : List Operand} {ts : Array TypeId} {caps vs : List SV}
    (ho : o.op = .call { callee := .value g, args := ⟨xs⟩, argTypes := ts }) (hg : J7 ops o f = some .on) (hF : Uf f g = some (.f F caps)) (hx : DQ f xs = some vs) (hd : o.dst = some t) (hlt : Nat.blt t c.N = true) (h : PV c.P G F (vs ++ caps) v) (k : S c (.o ops r :: ks) ((t, v) :: f) m d n Γ) (hG : ∀ L' W, Hs Γ L' W -> Hs G L' W := by first | exact fun _ _ h => h | exact fun _ _ h => Hs.pre h) : S c (.o ops (o :: r) :: ks) f m d n Γ := by
  obtain ⟨fn, hf, hn, hb⟩ := h.fn
  exact S.call (α := Unit) (sv := fun _ => v) (fs := fun _ => []) (pr := fun _ => True) ho hg hF hx hd hlt hf hn hb (fun ρ w hW => h.at ρ hW.lt (hG _ _ hW.hs)) (fun _ => h.wv) fun _ _ => by rw [List.append_nil]; exact k
/-- A load of a block that stays. -/
theorem S.gl {G : List QN} {v : SV} {ops : Array Oper} {o : Oper} {r : List Oper} {ty g t : Nat} (ho : o.op = .load ty (.global g)) (hg : J7 ops o f = some .on) (hd : o.dst = some t) (hlt : Nat.blt t c.N = true) (h : GL c.P G ty g v) (k : S c (.o ops r :: ks) ((t, v) :: f) m d n Γ) (hG : ∀ L' W, Hs Γ L' W -> Hs G L' W := by first | exact fun _ _ h => h | exact fun _ _ h => Hs.pre h) : S c (.o ops (o :: r) :: ks) f m d n Γ := fun ρ a w ha hW => by
  have hdr := h.h w _ hW.lt (hG _ _ hW.hs) ops o c.N (QI ρ f) ho ((VG (ρ := ρ)).1 hg)
  refine (WL.get hdr hd (decide_eq_true (QY hlt)) (Q := Kn c ks) (rest := r) fun u W hu => ?_) a ha
  obtain ⟨rfl, hww⟩ := hu
  subst hww
  rw [Yr h.wv QR ρ]
  exact fun a' ha' => k ρ a' W ha' hW
/-- A call of a function without a body, of values. -/
theorem S.ext {F : FuncId} {v : SV} {ops : Array Oper} {o : Oper} {r : List Oper} {t : Nat} {g : Operand} {xs : List Operand} {ts : Array TypeId} {vs : List SV}
    (ho : o.op = .call { callee := .value g, args := ⟨xs⟩, argTypes := ts }) (hg : J7 ops o f = some .on) (hF : Uf f g = some (.f F [])) (hx : DQ f xs = some vs) (hd : o.dst = some t) (hlt : Nat.blt t c.N = true) (hw : VU 0 vs = true) (h : ∀ w, (callFunc F (QO QR vs).toArray).run c.P w = .ok (.value (v.den QR)) w) (hv : v.wf 0 = true) (k : S c (.o ops r :: ks) ((t, v) :: f) m d n Γ) : S c (.o ops (o :: r) :: ks) f m d n Γ := fun ρ a w ha hW => by
  have hq := (VG (ρ := ρ)).1 hg
  have h1 := QG (ρ := ρ) hF
  simp only [SV.den, QO] at h1
  have h2 := VI (ρ := ρ) hx
  rw [Gf hw ρ QR] at h2
  have hdr := EW (P := c.P) (ops := ops) (o := o) (N := c.N) (xs := xs) (by rw [ho]) h1 h2 (h w) hq
  refine (WL.get hdr hd (decide_eq_true (QY hlt)) (Q := Kn c ks) (rest := r) fun u W hu => ?_) a ha
  obtain ⟨rfl, hww⟩ := hu
  subst hww
  rw [Yr hv QR ρ]
  exact fun a' ha' => k ρ a' W ha' hW
end
/-- A result that is told by the values alone. -/
theorem S.retv {c : Cx} {ks : List It} {f : SF} {m : SM} {d : SD} {n : Nat} {Γ : List QN} {rs : List ResultVar} {v x : SV} {L : List Nat} (hR : c.R = fun v W => ∃ _ : Unit, v = x.den QR /\ Hs [] L W /\ True) (hr : c.fn.results = ⟨rs⟩) (hv : Qcv c.T f m rs = some [v]) (hw : v.wf 0 = true) (he : v.den QR = x.den QR) : S c (.c .ret :: ks) f m d n Γ :=
  S.ret hr hv fun ρ W h => by rw [hR]; exact ⟨(), by rw [<- he]; exact Yr hw ρ QR, trivial, trivial⟩
theorem WM.g {ρ : QS} {L0 : List Nat} {w0 w : World} {m : SM} {d : SD} {n : Nat} {Γ : List QN} (h : WM ρ L0 w0 m d n Γ w) (i : Nat) {B : Nat} {cs : List Value} (hi : Γ[i]? = some (fG B cs) := by rfl) : B ∉ own ρ m L0 /\ w.rangeAt B 0 cs := ⟨(h.f i hi).1, (h.f i hi).2.2⟩
/-- A pointer to memory that stays: its cells are known from here on. -/
theorem S.data {c : Cx} {ks : List It} {f : SF} {m : SM} {d : SD} {n : Nat} {Γ : List QN} (t : Nat) {B o : Nat} (cs : List SV) (hl : lk f t = some (.v (.pointer (some ⟨B, o, none⟩)))) (hB : ∀ ρ w, WM ρ c.L0 c.w0 m d n Γ w -> B ∉ own ρ m c.L0 /\ w.rangeAt B o (Qp QR cs)) (k : S c ks ((t, .q n 0) :: f) m ((n, cs) :: d) (n + 1) Γ)
    (hcs : VU 0 cs = true := by rfl) (hok : YK cs := by exact UZ rfl) (h0 : 0 < YC cs := by exact Nat.lt_of_lt_of_le Nat.zero_lt_one (Nat.le_add_right 1 _)) (wff : wfF n f = true := by rfl) (wfm : HR n m = true := by rfl) (wfd : Hk n d = true := by rfl) : S c ks f m d n Γ := fun ρ a w ha hW => by
  obtain ⟨g1, g2⟩ := hB ρ w hW
  have e0 : Qp QR cs = Qp ρ cs := Xv (fun k hk => absurd hk (Nat.not_lt_zero k)) cs hcs
  rw [e0] at g2
  have hD := hW.data (B := (B, o)) wfm wfd (Kd (Nat.zero_le n) cs hcs) hok h0 g1 g2
  refine k (ρ.setd n (B, o)) a w ?_ hD
  have e1 : QI (ρ.setd n (B, o)) f = QI ρ f := (Ym (QS.setd_upto ρ n (B, o)) f wff).symm
  have e2 := Yw (ρ := ρ) hl
  simp only [SV.den] at e2
  refine ⟨ha.1, fun t' v hv => ?_⟩
  simp only [QI, SV.den, QS.setd_at, Nat.add_zero] at hv
  rw [e1] at hv
  unfold VQ at hv
  cases hk : Nat.beq t t' with
  | false => rw [hk] at hv; exact ha.2 t' v hv
  | true =>
    rw [hk] at hv
    cases hv
    have e := Nat.eq_of_beq_eq_true hk
    subst e
    exact ha.2 t _ e2
/-- The same, told anew: less may be kept, and by equal values. -/
theorem S.same {c : Cx} {ks : List It} {f : SF} {m : SM} {d : SD} {n : Nat} {Γ : List QN} (n' : Nat) (f' : SF) (m' : SM) (h0 : mF f f') (h1 : mM m m') (k : S c ks f' m' d n' Γ) (hn : n = n' := by rfl) (hk : FI m' = true := by rfl) (hmn : HR n' m' = true := by rfl) (hdn : Hk n' d = true := by rfl) : S c ks f m d n Γ := fun ρ a w ha hW => k ρ a w (ha.sub (DE h0)) (by subst hn; exact hW.sub h1 hk hmn (fun x hx => hx) hdn hW.hs)
/-- Arguments and results, written otherwise. -/
theorem PV.arg {P : Program} {G : List QN} {F : FuncId} {args args' : List SV} {v : SV} (h : PV P G F args v) (he : QO QR args = QO QR args') (wa : VU 0 args' = true := by rfl) : PV P G F args' v := ⟨h.fn, wa, h.wv, fun w L hL hG => by rw [<- he]; exact h.h w L hL hG⟩
theorem PV.res {P : Program} {G : List QN} {F : FuncId} {args : List SV} {v v' : SV} (h : PV P G F args v) (he : v.den QR = v'.den QR) (wv : v'.wf 0 = true := by rfl) : PV P G F args v' := ⟨h.fn, h.wa, wv, fun w L hL hG => CV.mono (h.h w L hL hG) fun u W _ ⟨x, e, g, p⟩ => ⟨x, e.trans he, g, p⟩⟩
/-- A loop, round by round: at most n more rounds behind the first. -/
theorem S.rounds {c : Cx} {ks : List It} {f : SF} {m : SM} {d : SD} {n : Nat} {Γ : List QN} {b : Code} (k : Nat) (h : S c (.c b :: .r (Code.rounds c.P b (Kn c ks) k) :: ks) f m d n Γ) : S c (.c (.loop b) :: ks) f m d n Γ := fun ρ a w ha hW => wp_loop_rounds (k + 1) (h ρ a w ha hW)
theorem S.next {c : Cx} {ks : List It} {f : SF} {m : SM} {d : SD} {n : Nat} {Γ : List QN} {b : Code} {k : Nat} (h : S c (.c b :: .r (Code.rounds c.P b (Kn c ks) k) :: ks) f m d n Γ) : S c (.r (Code.rounds c.P b (Kn c ks) (k + 1)) :: ks) f m d n Γ := fun ρ a w ha hW => h ρ a w ha hW
end Go.Proofs.YtbiboamaigedjaaGreatDoor
namespace Go.Proofs.YtbiboamaigedjaaGreatDoor
open Go.RowKit
set_option linter.unusedVariables false
set_option linter.unusedSimpArgs false
set_option maxRecDepth 8000
set_option maxHeartbeats 2000000

def DK (l : List Int) : List SV := l.map fun n => SV.i .u64 n
def rmL : List Int := [1718705420411056, 234908883556509, 2233514472574048, 2117202627021982, 765476049583133]
def dL : List Int := [929955233495203, 466365720129213, 1662059464998953, 2033849074728123, 1442794654840575]
def Gq : List Int := [1738742601995546, 1146398526822698, 2070867633025821, 562264141797630, 587772402128613, 1801439850948184, 1351079888211148, 450359962737049, 900719925474099, 1801439850948198]
/-- The program's tables. -/
def gT : List QN := [fG 6 (Qp QR (DK rmL)), fG 4 (Qp QR (DK dL)), fG 0 (Qp QR (DK Gq))]
theorem gT0 (L : List Nat) (W : World) (h : Hs gT L W) : 6 ∉ L /\ W.rangeAt 6 0 (Qp QR (DK rmL)) := ⟨h.1.1, h.1.2.2⟩
theorem gT1 (L : List Nat) (W : World) (h : Hs gT L W) : 4 ∉ L /\ W.rangeAt 4 0 (Qp QR (DK dL)) := ⟨h.2.1.1, h.2.1.2.2⟩
theorem gT2 (L : List Nat) (W : World) (h : Hs gT L W) : 0 ∉ L /\ W.rangeAt 0 0 (Qp QR (DK Gq)) := ⟨h.2.2.1.1, h.2.2.1.2.2⟩
theorem VO {x : Int} (h : 0 <= x /\ x < 18446744073709551616) : bits .and .u64 x 2251799813685247 = x % 2251799813685248 := Y8 x 51 2251799813685247 rfl (by decide) h.1 h.2
theorem QmT {x : Int} (h : 0 <= x /\ x < 18446744073709551616) : bits .and .u64 x 4294967295 = x % 4294967296 := Y8 x 32 4294967295 rfl (by decide) h.1 h.2
def lm (x : List Int) : SV := .g [.i .u64 (Qb x 0), .i .u64 (Qb x 1), .i .u64 (Qb x 2), .i .u64 (Qb x 3), .i .u64 (Qb x 4)]
def wvS (v : Int) : SV := .g [.i .u64 (v / 18446744073709551616), .i .u64 (v % 18446744073709551616)]
theorem UC (x : List Int) (hx : QC x) : PV Tryz.prog gT 121 [lm x] (lm (QB x)) := by
  refine PV.mk' Tryz.func121 rfl rfl rfl rfl fun w L hL hG => ?_
  have hx : ∀ k, 0 <= Qb x k /\ Qb x k < 18446744073709551616 := hx.at
  have := hx 0; have := hx 1; have := hx 2; have := hx 3; have := hx 4
  refine S.enter Qw [lm x] gT Tryz.func121 rfl rfl rfl (fun _ => rfl) hL hG ?_
  refine S.g false rfl ?_
  refine S.dr0 false rfl rfl rfl ?_
  refine S.go false rfl (by repeat' (first | exact True.intro | exact fun h => h | refine And.intro ?_ ?_ | omega | exact rfl | (simp only [Int.reduceToNat, Int.reducePow, VO (hx _)]; omega) | intro _)) ?_
  refine S.retv rfl rfl rfl rfl ?_
  simp only [VO (hx _)]
  rfl
theorem mkN (a : Nat) (ha : a < 18446744073709551616) : bits .and .u64 (a : Int) 4294967295 = ((a % 4294967296 : Nat) : Int) := by rw [QmT (by omega)]; omega
theorem dvN (a : Nat) : (a : Int) / 2 ^ Int.toNat 32 = ((a / 4294967296 : Nat) : Int) := by show (a : Int) / 4294967296 = _; omega
theorem mlN (a b : Nat) : (a : Int) * (b : Int) = ((a * b : Nat) : Int) := (Int.natCast_mul a b).symm
theorem adN (a b : Nat) : (a : Int) + (b : Int) = ((a + b : Nat) : Int) := (Int.natCast_add a b).symm
theorem wpN (a : Nat) (ha : a < 18446744073709551616) : IntKind.u64.wrap (a : Int) = (a : Int) := by rw [IntKind.wrap_u64]; omega
theorem wpM (a : Nat) : IntKind.u64.wrap (a : Int) = ((a % 18446744073709551616 : Nat) : Int) := by rw [IntKind.wrap_u64]; omega
theorem Hx (x y : Int) (hx : 0 <= x /\ x < 18446744073709551616) (hy : 0 <= y /\ y < 18446744073709551616) : PV Tryz.prog gT 97 [.i .u64 x, .i .u64 y] (.t [.i .u64 (x * y / 18446744073709551616), .i .u64 (x * y % 18446744073709551616)]) := by
  refine PV.mk' Tryz.func97 rfl rfl rfl rfl fun w L hL hG => ?_
  refine S.enter Qw [.i .u64 x, .i .u64 y] gT Tryz.func97 rfl rfl rfl (fun _ => rfl) hL hG ?_
  refine S.go true rfl (by repeat' (first | exact True.intro | exact fun h => h | refine And.intro ?_ ?_ | omega | exact rfl | (simp only [Int.reduceToNat, Int.reducePow]; omega) | intro _)) ?_
  refine S.ret rfl rfl fun ρ W h => ⟨(), ?_, trivial, trivial⟩
  clear h
  obtain ⟨x, rfl⟩ := Int.eq_ofNat_of_zero_le hx.1
  obtain ⟨y, rfl⟩ := Int.eq_ofNat_of_zero_le hy.1
  have hx : x < 18446744073709551616 := by omega
  have hy : y < 18446744073709551616 := by omega
  simp only [val, SV.den, QO]
  obtain ⟨bd, bt, bw, hhi⟩ := Lib.mul64_hi x y hx hy
  have ba := Lib.half_mul_le (a := x / 4294967296) (b := y / 4294967296) (by omega) (by omega)
  have bb := Lib.half_mul_le (a := x / 4294967296) (b := y % 4294967296) (by omega) (by omega)
  have bc := Lib.half_mul_le (a := x % 4294967296) (b := y / 4294967296) (by omega) (by omega)
  have ba' : x / 4294967296 * (y / 4294967296) < 18446744073709551616 := by omega
  have bb' : x / 4294967296 * (y % 4294967296) < 18446744073709551616 := by omega
  have bc' : x % 4294967296 * (y / 4294967296) < 18446744073709551616 := by omega
  have bh1 : x / 4294967296 * (y / 4294967296) + (x / 4294967296 * (y % 4294967296) + x % 4294967296 * (y % 4294967296) / 4294967296) / 4294967296 < 18446744073709551616 := by omega
  have bh : x / 4294967296 * (y / 4294967296) + (x / 4294967296 * (y % 4294967296) + x % 4294967296 * (y % 4294967296) / 4294967296) / 4294967296 + ((x / 4294967296 * (y % 4294967296) + x % 4294967296 * (y % 4294967296) / 4294967296) % 4294967296 + x % 4294967296 * (y / 4294967296)) / 4294967296 < 18446744073709551616 := by omega
  simp only [mkN x hx, mkN y hy, dvN, mlN, adN, wpN _ bd, wpN _ bb', wpN _ bt, mkN _ bt, wpN _ bc', wpN _ bw, wpN _ ba', wpN _ bh1, wpN _ bh, wpM (x * y)]
  rw [hhi]
  rfl
theorem Vd (x y c : Int) (hx : 0 <= x) (hy : 0 <= y) (hc0 : 0 <= c) (hc : c <= 1) (w : World) : (callFunc 98 (QO QR [.i .u64 x, .i .u64 y, .i .u64 c]).toArray).run Tryz.prog w = .ok (.value ((SV.t [.i .u64 ((x + y + c) % 18446744073709551616), .i .u64 ((x + y + c) / 18446744073709551616)]).den QR)) w := by
  show (callFunc 98 #[.int .u64 x, .int .u64 y, .int .u64 c]).run Tryz.prog w = _
  rw [run_callFunc_extern Tryz.func98 (by kernel_rfl) (by kernel_rfl) (by kernel_rfl) (e := add64Entry) (by kernel_rfl), run_add64 x y c hx hy hc0 hc]
  rfl
theorem XJ (v a b : Int) (hv : 0 <= v) (ha : 0 <= a /\ a < 18446744073709551616) (hb : 0 <= b /\ b < 18446744073709551616) (h : v + a * b < 340282366920938463463374607431768211456) : PV Tryz.prog gT 119 [wvS v, .i .u64 a, .i .u64 b] (wvS (v + a * b)) := by
  refine PV.mk' Tryz.func119 rfl rfl rfl rfl fun w L hL hG => ?_
  have hm : 0 <= a * b := Int.mul_nonneg ha.1 hb.1
  refine S.enter Qw [wvS v, .i .u64 a, .i .u64 b] gT Tryz.func119 rfl rfl rfl (fun _ => rfl) hL hG ?_
  refine S.g false rfl ?_
  refine S.cv rfl rfl rfl rfl rfl rfl (Hx a b ha hb) ?_
  refine S.g false rfl ?_
  refine S.ext rfl rfl rfl rfl rfl rfl rfl (Vd _ _ _ (by omega) (by omega) (by omega) (by omega)) rfl ?_
  refine S.g false rfl ?_
  refine S.ext rfl rfl rfl rfl rfl rfl rfl (Vd _ _ _ (by omega) (by omega) (by omega) (by omega)) rfl ?_
  refine S.g false rfl ?_
  refine S.retv rfl rfl rfl rfl ?_
  show (SV.g [_, _]).den QR = _
  generalize a * b = m at *
  unfold wvS
  have e1 : (v / 18446744073709551616 + m / 18446744073709551616 + (v % 18446744073709551616 + m % 18446744073709551616 + 0) / 18446744073709551616) % 18446744073709551616 = (v + m) / 18446744073709551616 := by omega
  have e2 : (v % 18446744073709551616 + m % 18446744073709551616 + 0) % 18446744073709551616 = (v + m) % 18446744073709551616 := by omega
  rw [e1, e2]
theorem Uk (v : Int) (hv : 0 <= v /\ v < 41538374868278621028243970633760768) : PV Tryz.prog gT 120 [wvS v] (.i .u64 (v / 2251799813685248)) := by
  refine PV.mk' Tryz.func120 rfl rfl rfl rfl fun w L hL hG => ?_
  refine S.enter Qw [wvS v] gT Tryz.func120 rfl rfl rfl (fun _ => rfl) hL hG ?_
  refine S.go false rfl (by repeat' (first | exact True.intro | exact fun h => h | refine And.intro ?_ ?_ | omega | exact rfl | (simp only [Int.reduceToNat, Int.reducePow]; omega) | intro _)) ?_
  refine S.retv rfl rfl rfl rfl ?_
  have e1 : IntKind.u64.wrap (v / 18446744073709551616 * 2 ^ Int.toNat 13) = v / 18446744073709551616 * 8192 := by
    rw [IntKind.wrap_u64]; simp only [Int.reduceToNat, Int.reducePow]; omega
  have e2 : v % 18446744073709551616 / 2 ^ Int.toNat 51 = v % 18446744073709551616 / 2251799813685248 := rfl
  rw [e1, e2, UH _ _ 13 (by omega) (by omega) (by omega) (by omega) (by omega) (by omega)]
  simp only [SV.den]
  congr 1
  omega
theorem Ys (x y : List Int) (hx : X1 x) (hy : X1 y) : PV Tryz.prog gT 84 [lm x, lm y] (lm (QB (XT x y))) := by
  refine PV.mk' Tryz.func84 rfl rfl rfl rfl fun w L hL hG => ?_
  have := hx 0; have := hx 1; have := hx 2; have := hx 3; have := hx 4
  have := hy 0; have := hy 1; have := hy 2; have := hy 3; have := hy 4
  have p : ∀ i j, 0 <= Qb x i * Qb y j /\ Qb x i * Qb y j <= 5070602403274100847696513335296 := GD hx hy
  have z : ∀ i j, 0 <= Qb x i * 19 * Qb y j /\ Qb x i * 19 * Qb y j <= 19 * 5070602403274100847696513335296 := fun i j => by have := p i j; rw [Int.mul_right_comm]; omega
  refine S.enter Qw [lm x, lm y] gT Tryz.func84 rfl rfl rfl (fun _ => rfl) hL hG ?_
  refine S.g false rfl ?_
  refine S.dr0 false rfl rfl rfl ?_
  refine S.g false rfl ?_
  refine S.dr0 false rfl rfl rfl ?_
  refine S.g false rfl ?_
  have := p 0 0
  have := z 1 4
  have := z 2 3
  have := z 3 2
  have := z 4 1
  refine S.cv rfl rfl rfl rfl rfl rfl (XJ 0 _ _ (by omega) (by omega) (by omega) (by omega)) ?_
  refine S.g false rfl ?_
  refine S.cv rfl rfl rfl rfl rfl rfl (XJ _ _ _ (by omega) (by omega) (by omega) (by omega)) ?_
  refine S.g false rfl ?_
  refine S.cv rfl rfl rfl rfl rfl rfl (XJ _ _ _ (by omega) (by omega) (by omega) (by omega)) ?_
  refine S.g false rfl ?_
  refine S.cv rfl rfl rfl rfl rfl rfl (XJ _ _ _ (by omega) (by omega) (by omega) (by omega)) ?_
  refine S.g false rfl ?_
  refine S.cv rfl rfl rfl rfl rfl rfl (XJ _ _ _ (by omega) (by omega) (by omega) (by omega)) ?_
  refine S.g false rfl ?_
  have := p 0 1
  have := p 1 0
  have := z 2 4
  have := z 3 3
  have := z 4 2
  refine S.cv rfl rfl rfl rfl rfl rfl (XJ 0 _ _ (by omega) (by omega) (by omega) (by omega)) ?_
  refine S.g false rfl ?_
  refine S.cv rfl rfl rfl rfl rfl rfl (XJ _ _ _ (by omega) (by omega) (by omega) (by omega)) ?_
  refine S.g false rfl ?_
  refine S.cv rfl rfl rfl rfl rfl rfl (XJ _ _ _ (by omega) (by omega) (by omega) (by omega)) ?_
  refine S.g false rfl ?_
  refine S.cv rfl rfl rfl rfl rfl rfl (XJ _ _ _ (by omega) (by omega) (by omega) (by omega)) ?_
  refine S.g false rfl ?_
  refine S.cv rfl rfl rfl rfl rfl rfl (XJ _ _ _ (by omega) (by omega) (by omega) (by omega)) ?_
  refine S.g false rfl ?_
  have := p 0 2
  have := p 1 1
  have := p 2 0
  have := z 3 4
  have := z 4 3
  refine S.cv rfl rfl rfl rfl rfl rfl (XJ 0 _ _ (by omega) (by omega) (by omega) (by omega)) ?_
  refine S.g false rfl ?_
  refine S.cv rfl rfl rfl rfl rfl rfl (XJ _ _ _ (by omega) (by omega) (by omega) (by omega)) ?_
  refine S.g false rfl ?_
  refine S.cv rfl rfl rfl rfl rfl rfl (XJ _ _ _ (by omega) (by omega) (by omega) (by omega)) ?_
  refine S.g false rfl ?_
  refine S.cv rfl rfl rfl rfl rfl rfl (XJ _ _ _ (by omega) (by omega) (by omega) (by omega)) ?_
  refine S.g false rfl ?_
  refine S.cv rfl rfl rfl rfl rfl rfl (XJ _ _ _ (by omega) (by omega) (by omega) (by omega)) ?_
  refine S.g false rfl ?_
  have := p 0 3
  have := p 1 2
  have := p 2 1
  have := p 3 0
  have := z 4 4
  refine S.cv rfl rfl rfl rfl rfl rfl (XJ 0 _ _ (by omega) (by omega) (by omega) (by omega)) ?_
  refine S.g false rfl ?_
  refine S.cv rfl rfl rfl rfl rfl rfl (XJ _ _ _ (by omega) (by omega) (by omega) (by omega)) ?_
  refine S.g false rfl ?_
  refine S.cv rfl rfl rfl rfl rfl rfl (XJ _ _ _ (by omega) (by omega) (by omega) (by omega)) ?_
  refine S.g false rfl ?_
  refine S.cv rfl rfl rfl rfl rfl rfl (XJ _ _ _ (by omega) (by omega) (by omega) (by omega)) ?_
  refine S.g false rfl ?_
  refine S.cv rfl rfl rfl rfl rfl rfl (XJ _ _ _ (by omega) (by omega) (by omega) (by omega)) ?_
  refine S.g false rfl ?_
  have := p 0 4
  have := p 1 3
  have := p 2 2
  have := p 3 1
  have := p 4 0
  refine S.cv rfl rfl rfl rfl rfl rfl (XJ 0 _ _ (by omega) (by omega) (by omega) (by omega)) ?_
  refine S.g false rfl ?_
  refine S.cv rfl rfl rfl rfl rfl rfl (XJ _ _ _ (by omega) (by omega) (by omega) (by omega)) ?_
  refine S.g false rfl ?_
  refine S.cv rfl rfl rfl rfl rfl rfl (XJ _ _ _ (by omega) (by omega) (by omega) (by omega)) ?_
  refine S.g false rfl ?_
  refine S.cv rfl rfl rfl rfl rfl rfl (XJ _ _ _ (by omega) (by omega) (by omega) (by omega)) ?_
  refine S.g false rfl ?_
  refine S.cv rfl rfl rfl rfl rfl rfl (XJ _ _ _ (by omega) (by omega) (by omega) (by omega)) ?_
  refine S.g false rfl ?_
  have s0 := XQ hx hy 0; have s1 := XQ hx hy 1; have s2 := XQ hx hy 2; have s3 := XQ hx hy 3; have s4 := KQ hx hy; have s5 := XQ hx hy 4
  have hw := KG hx hy
  have e0 : 0 + Qb x 0 * Qb y 0 + Qb x 1 * 19 * Qb y 4 + Qb x 2 * 19 * Qb y 3 + Qb x 3 * 19 * Qb y 2 + Qb x 4 * 19 * Qb y 1 = Q5 x y 0 := by simp only [Q5, Int.zero_add]
  have e1 : 0 + Qb x 0 * Qb y 1 + Qb x 1 * Qb y 0 + Qb x 2 * 19 * Qb y 4 + Qb x 3 * 19 * Qb y 3 + Qb x 4 * 19 * Qb y 2 = Q5 x y 1 := by simp only [Q5, Int.zero_add]
  have e2 : 0 + Qb x 0 * Qb y 2 + Qb x 1 * Qb y 1 + Qb x 2 * Qb y 0 + Qb x 3 * 19 * Qb y 4 + Qb x 4 * 19 * Qb y 3 = Q5 x y 2 := by simp only [Q5, Int.zero_add]
  have e3 : 0 + Qb x 0 * Qb y 3 + Qb x 1 * Qb y 2 + Qb x 2 * Qb y 1 + Qb x 3 * Qb y 0 + Qb x 4 * 19 * Qb y 4 = Q5 x y 3 := by simp only [Q5, Int.zero_add]
  have e4 : 0 + Qb x 0 * Qb y 4 + Qb x 1 * Qb y 3 + Qb x 2 * Qb y 2 + Qb x 3 * Qb y 1 + Qb x 4 * Qb y 0 = Q5 x y 4 := by simp only [Q5, Int.zero_add]
  rw [e0, e1, e2, e3, e4]
  obtain ⟨Z, hZ, hC⟩ : ∃ Z, QB (XT x y) = Z /\ PV Tryz.prog gT 121 [lm (XT x y)] (lm Z) := ⟨_, rfl, UC _ hw⟩
  rw [hZ]
  clear hZ
  unfold XT at hC
  clear e0 e1 e2 e3 e4 p z hx hy hw
  generalize Q5 x y 0 = r0 at *
  generalize Q5 x y 1 = r1 at *
  generalize Q5 x y 2 = r2 at *
  generalize Q5 x y 3 = r3 at *
  generalize Q5 x y 4 = r4 at *
  have c0 := Uk r0 (by omega)
  have c1 := Uk r1 (by omega)
  have c2 := Uk r2 (by omega)
  have c3 := Uk r3 (by omega)
  have c4 := Uk r4 (by omega)
  have k : ∀ r : Int, bits .and .u64 (r % 18446744073709551616) 2251799813685247 = r % 2251799813685248 := fun r => by rw [VO (by omega)]; omega
  rw [<- k r0, <- k r1, <- k r2, <- k r3, <- k r4] at hC
  have k' : ∀ r : Int, 0 <= bits .and .u64 (r % 18446744073709551616) 2251799813685247 /\ bits .and .u64 (r % 18446744073709551616) 2251799813685247 < 2251799813685248 := fun r => by rw [k]; omega
  have := k' r0; have := k' r1; have := k' r2; have := k' r3; have := k' r4
  refine S.drp false [(4, .i .u64 (r4 / 2251799813685248)), (11, .i .u64 (r0 / 2251799813685248)), (17, .i .u64 (r1 / 2251799813685248)), (23, .i .u64 (r2 / 2251799813685248)), (29, .i .u64 (r3 / 2251799813685248)), (32, lm Z)] rfl rfl rfl ?_ ?_
  . refine S.g false rfl ?_
    exact S.retv rfl rfl rfl rfl rfl
  . repeat' (first | exact True.intro | refine And.intro ?_ ?_ | omega | assumption)
theorem QgR (x y : List Int) (hx : X1 x) (hy : X1 y) : PV Tryz.prog gT 114 [lm x, lm y] (lm (QB (EH x y))) := by
  refine PV.mk' Tryz.func114 rfl rfl rfl rfl fun w L hL hG => ?_
  have := hx 0; have := hx 1; have := hx 2; have := hx 3; have := hx 4
  have := hy 0; have := hy 1; have := hy 2; have := hy 3; have := hy 4
  refine S.enter Qw [lm x, lm y] gT Tryz.func114 rfl rfl rfl (fun _ => rfl) hL hG ?_
  refine S.g false rfl ?_
  refine S.rounds 5 ?_
  refine S.g false rfl ?_
  refine S.condT rfl (by decide) ?_
  refine S.g false rfl ?_
  refine S.dr0 false rfl rfl rfl ?_
  refine S.g false rfl ?_
  repeat (refine S.next ?_; refine S.g false rfl ?_; refine S.condT rfl (by decide) ?_; refine S.g false rfl ?_; refine S.dr0 false rfl rfl rfl ?_; refine S.g false rfl ?_)
  refine S.next ?_
  refine S.g false rfl ?_
  refine S.condF rfl (by decide) ?_
  refine S.g false rfl ?_
  refine S.cv rfl rfl rfl rfl rfl rfl (UC (EH x y) (G9 hx hy)) ?_
  refine S.g false rfl ?_
  exact S.retv rfl rfl rfl rfl rfl
theorem DD (x y : List Int) (hx : X1 x) (hy : X1 y) : PV Tryz.prog gT 116 [lm x, lm y] (lm (QB (YN x y))) := by
  refine PV.mk' Tryz.func116 rfl rfl rfl rfl fun w L hL hG => ?_
  have := hx 0; have := hx 1; have := hx 2; have := hx 3; have := hx 4
  have := hy 0; have := hy 1; have := hy 2; have := hy 3; have := hy 4
  refine S.enter Qw [lm x, lm y] gT Tryz.func116 rfl rfl rfl (fun _ => rfl) hL hG ?_
  refine S.g false rfl ?_
  refine S.rounds 4 ?_
  refine S.g false rfl ?_
  refine S.condT rfl (by decide) ?_
  refine S.g false rfl ?_
  refine S.dr0 false rfl rfl rfl ?_
  refine S.g false rfl ?_
  repeat (refine S.next ?_; refine S.g false rfl ?_; refine S.condT rfl (by decide) ?_; refine S.g false rfl ?_; refine S.dr0 false rfl rfl rfl ?_; refine S.g false rfl ?_)
  refine S.next ?_
  refine S.g false rfl ?_
  refine S.condF rfl (by decide) ?_
  refine S.g false rfl ?_
  refine S.cv rfl rfl rfl rfl rfl rfl (UC (YN x y) (K3 hx hy)) ?_
  refine S.g false rfl ?_
  exact S.retv rfl rfl rfl rfl rfl
theorem Hq (n : Int) (hn : 0 <= n /\ n < 4294967296) : PV Tryz.prog gT 83 [.i .u32 n] (lm [n, 0, 0, 0, 0]) := by
  refine PV.mk' Tryz.func83 rfl rfl rfl rfl fun w L hL hG => ?_
  refine S.enter Qw [.i .u32 n] gT Tryz.func83 rfl rfl rfl (fun _ => rfl) hL hG ?_
  refine S.g false rfl ?_
  exact S.retv rfl rfl rfl rfl rfl
theorem UW (x : List Int) (hx : X1 x) : PV Tryz.prog gT 109 [lm x] (lm (QB (YN [] x))) := by
  refine PV.mk' Tryz.func109 rfl rfl rfl rfl fun w L hL hG => ?_
  refine S.enter Qw [lm x] gT Tryz.func109 rfl rfl rfl (fun _ => rfl) hL hG ?_
  refine S.g false rfl ?_
  refine S.cv rfl rfl rfl rfl rfl rfl (DD [] x (fun k => by simp [Qb]) hx) ?_
  refine S.g false rfl ?_
  exact S.retv rfl rfl rfl rfl rfl
/-- Thirty-two bytes. -/
def E1 (z : List Int) : List SV := [.i .u8 (Qb z 0), .i .u8 (Qb z 1), .i .u8 (Qb z 2), .i .u8 (Qb z 3), .i .u8 (Qb z 4), .i .u8 (Qb z 5), .i .u8 (Qb z 6), .i .u8 (Qb z 7), .i .u8 (Qb z 8), .i .u8 (Qb z 9), .i .u8 (Qb z 10), .i .u8 (Qb z 11), .i .u8 (Qb z 12), .i .u8 (Qb z 13), .i .u8 (Qb z 14), .i .u8 (Qb z 15), .i .u8 (Qb z 16), .i .u8 (Qb z 17), .i .u8 (Qb z 18), .i .u8 (Qb z 19), .i .u8 (Qb z 20), .i .u8 (Qb z 21), .i .u8 (Qb z 22), .i .u8 (Qb z 23), .i .u8 (Qb z 24), .i .u8 (Qb z 25), .i .u8 (Qb z 26), .i .u8 (Qb z 27), .i .u8 (Qb z 28), .i .u8 (Qb z 29), .i .u8 (Qb z 30), .i .u8 (Qb z 31)]
def orW (z : List Int) (j : Nat) : Nat -> Int
  | 0 => 0
  | m + 1 => bits .or .u64 (orW z j m) (IntKind.u64.wrap (Qb z (8 * j + m) * 2 ^ (8 * m)))
theorem Fv {z : List Int} (hz : Qh z) (j : Nat) : ∀ m, m <= 8 -> orW z j m = Q0 z j m
  | 0, _ => rfl
  | m + 1, h => by
    have := Fv hz j m (by omega)
    unfold orW Q0
    rw [this]
    exact QdT _ _ m (by omega) (KS z hz j m (by omega)) (hz.at _)
set_option maxHeartbeats 1000000 in
theorem Qiz {z : List Int} (hz : Qh z) {B : Nat} {w : World} (hr : w.rangeAt B 0 (Qp QR (E1 z))) (L : List Nat) : CX Tryz.prog 137 [.pointer (some ⟨B, 0, none⟩), .int .i64 0] w L (fun _ : Unit => .i .u64 (Q0 z 0 8)) (fun _ => []) (fun _ => True) := by
  have hb := fun k => hz.at k
  have h : CX Tryz.prog 137 [.pointer (some ⟨B, 0, none⟩), .int .i64 0] w [] (fun _ : Unit => .i .u64 (Q0 z 0 8)) (fun _ => []) (fun _ => True) := by
    refine S.enter Qw [.v (.pointer (some ⟨B, 0, none⟩)), .i .i64 0] [fG B (Qp QR (E1 z))] Tryz.func137 rfl rfl rfl (fun _ => rfl) (LL.nil w) ⟨⟨by simp, ZY hr (Nat.zero_lt_succ _), hr⟩, trivial⟩ ?_
    refine S.data 0 (E1 z) rfl (fun ρ w h => h.g 0) ?_
    refine S.g false rfl ?_
    refine S.rounds 8 ?_
    refine S.g false rfl ?_
    refine S.condT rfl (by decide) ?_
    have := hb 0
    refine S.g false rfl ?_
    refine S.next ?_
    refine S.g false rfl ?_
    refine S.condT rfl (by decide) ?_
    have := hb 1
    refine S.g false rfl ?_
    refine S.next ?_
    refine S.g false rfl ?_
    refine S.condT rfl (by decide) ?_
    have := hb 2
    refine S.g false rfl ?_
    refine S.next ?_
    refine S.g false rfl ?_
    refine S.condT rfl (by decide) ?_
    have := hb 3
    refine S.g false rfl ?_
    refine S.next ?_
    refine S.g false rfl ?_
    refine S.condT rfl (by decide) ?_
    have := hb 4
    refine S.g false rfl ?_
    refine S.next ?_
    refine S.g false rfl ?_
    refine S.condT rfl (by decide) ?_
    have := hb 5
    refine S.g false rfl ?_
    refine S.next ?_
    refine S.g false rfl ?_
    refine S.condT rfl (by decide) ?_
    have := hb 6
    refine S.g false rfl ?_
    refine S.next ?_
    refine S.g false rfl ?_
    refine S.condT rfl (by decide) ?_
    have := hb 7
    refine S.g false rfl ?_
    refine S.next ?_
    refine S.g false rfl ?_
    refine S.condF rfl (by decide) ?_
    refine S.g false rfl ?_
    refine S.retv rfl rfl rfl rfl ?_
    show (SV.i .u64 (orW z 0 8)).den QR = _
    rw [Fv hz 0 8 (by omega)]
  exact CV.mono h fun v w' _ ⟨x, e, _, p⟩ => ⟨x, e, trivial, p⟩
set_option maxHeartbeats 1000000 in
theorem Qiy {z : List Int} (hz : Qh z) {B : Nat} {w : World} (hr : w.rangeAt B 0 (Qp QR (E1 z))) (L : List Nat) : CX Tryz.prog 137 [.pointer (some ⟨B, 0, none⟩), .int .i64 8] w L (fun _ : Unit => .i .u64 (Q0 z 1 8)) (fun _ => []) (fun _ => True) := by
  have hb := fun k => hz.at k
  have h : CX Tryz.prog 137 [.pointer (some ⟨B, 0, none⟩), .int .i64 8] w [] (fun _ : Unit => .i .u64 (Q0 z 1 8)) (fun _ => []) (fun _ => True) := by
    refine S.enter Qw [.v (.pointer (some ⟨B, 0, none⟩)), .i .i64 8] [fG B (Qp QR (E1 z))] Tryz.func137 rfl rfl rfl (fun _ => rfl) (LL.nil w) ⟨⟨by simp, ZY hr (Nat.zero_lt_succ _), hr⟩, trivial⟩ ?_
    refine S.data 0 (E1 z) rfl (fun ρ w h => h.g 0) ?_
    refine S.g false rfl ?_
    refine S.rounds 8 ?_
    refine S.g false rfl ?_
    refine S.condT rfl (by decide) ?_
    have := hb 8
    refine S.g false rfl ?_
    refine S.next ?_
    refine S.g false rfl ?_
    refine S.condT rfl (by decide) ?_
    have := hb 9
    refine S.g false rfl ?_
    refine S.next ?_
    refine S.g false rfl ?_
    refine S.condT rfl (by decide) ?_
    have := hb 10
    refine S.g false rfl ?_
    refine S.next ?_
    refine S.g false rfl ?_
    refine S.condT rfl (by decide) ?_
    have := hb 11
    refine S.g false rfl ?_
    refine S.next ?_
    refine S.g false rfl ?_
    refine S.condT rfl (by decide) ?_
    have := hb 12
    refine S.g false rfl ?_
    refine S.next ?_
    refine S.g false rfl ?_
    refine S.condT rfl (by decide) ?_
    have := hb 13
    refine S.g false rfl ?_
    refine S.next ?_
    refine S.g false rfl ?_
    refine S.condT rfl (by decide) ?_
    have := hb 14
    refine S.g false rfl ?_
    refine S.next ?_
    refine S.g false rfl ?_
    refine S.condT rfl (by decide) ?_
    have := hb 15
    refine S.g false rfl ?_
    refine S.next ?_
    refine S.g false rfl ?_
    refine S.condF rfl (by decide) ?_
    refine S.g false rfl ?_
    refine S.retv rfl rfl rfl rfl ?_
    show (SV.i .u64 (orW z 1 8)).den QR = _
    rw [Fv hz 1 8 (by omega)]
  exact CV.mono h fun v w' _ ⟨x, e, _, p⟩ => ⟨x, e, trivial, p⟩
set_option maxHeartbeats 1000000 in
theorem Qix {z : List Int} (hz : Qh z) {B : Nat} {w : World} (hr : w.rangeAt B 0 (Qp QR (E1 z))) (L : List Nat) : CX Tryz.prog 137 [.pointer (some ⟨B, 0, none⟩), .int .i64 16] w L (fun _ : Unit => .i .u64 (Q0 z 2 8)) (fun _ => []) (fun _ => True) := by
  have hb := fun k => hz.at k
  have h : CX Tryz.prog 137 [.pointer (some ⟨B, 0, none⟩), .int .i64 16] w [] (fun _ : Unit => .i .u64 (Q0 z 2 8)) (fun _ => []) (fun _ => True) := by
    refine S.enter Qw [.v (.pointer (some ⟨B, 0, none⟩)), .i .i64 16] [fG B (Qp QR (E1 z))] Tryz.func137 rfl rfl rfl (fun _ => rfl) (LL.nil w) ⟨⟨by simp, ZY hr (Nat.zero_lt_succ _), hr⟩, trivial⟩ ?_
    refine S.data 0 (E1 z) rfl (fun ρ w h => h.g 0) ?_
    refine S.g false rfl ?_
    refine S.rounds 8 ?_
    refine S.g false rfl ?_
    refine S.condT rfl (by decide) ?_
    have := hb 16
    refine S.g false rfl ?_
    refine S.next ?_
    refine S.g false rfl ?_
    refine S.condT rfl (by decide) ?_
    have := hb 17
    refine S.g false rfl ?_
    refine S.next ?_
    refine S.g false rfl ?_
    refine S.condT rfl (by decide) ?_
    have := hb 18
    refine S.g false rfl ?_
    refine S.next ?_
    refine S.g false rfl ?_
    refine S.condT rfl (by decide) ?_
    have := hb 19
    refine S.g false rfl ?_
    refine S.next ?_
    refine S.g false rfl ?_
    refine S.condT rfl (by decide) ?_
    have := hb 20
    refine S.g false rfl ?_
    refine S.next ?_
    refine S.g false rfl ?_
    refine S.condT rfl (by decide) ?_
    have := hb 21
    refine S.g false rfl ?_
    refine S.next ?_
    refine S.g false rfl ?_
    refine S.condT rfl (by decide) ?_
    have := hb 22
    refine S.g false rfl ?_
    refine S.next ?_
    refine S.g false rfl ?_
    refine S.condT rfl (by decide) ?_
    have := hb 23
    refine S.g false rfl ?_
    refine S.next ?_
    refine S.g false rfl ?_
    refine S.condF rfl (by decide) ?_
    refine S.g false rfl ?_
    refine S.retv rfl rfl rfl rfl ?_
    show (SV.i .u64 (orW z 2 8)).den QR = _
    rw [Fv hz 2 8 (by omega)]
  exact CV.mono h fun v w' _ ⟨x, e, _, p⟩ => ⟨x, e, trivial, p⟩
set_option maxHeartbeats 1000000 in
theorem Qiw {z : List Int} (hz : Qh z) {B : Nat} {w : World} (hr : w.rangeAt B 0 (Qp QR (E1 z))) (L : List Nat) : CX Tryz.prog 137 [.pointer (some ⟨B, 0, none⟩), .int .i64 24] w L (fun _ : Unit => .i .u64 (Q0 z 3 8)) (fun _ => []) (fun _ => True) := by
  have hb := fun k => hz.at k
  have h : CX Tryz.prog 137 [.pointer (some ⟨B, 0, none⟩), .int .i64 24] w [] (fun _ : Unit => .i .u64 (Q0 z 3 8)) (fun _ => []) (fun _ => True) := by
    refine S.enter Qw [.v (.pointer (some ⟨B, 0, none⟩)), .i .i64 24] [fG B (Qp QR (E1 z))] Tryz.func137 rfl rfl rfl (fun _ => rfl) (LL.nil w) ⟨⟨by simp, ZY hr (Nat.zero_lt_succ _), hr⟩, trivial⟩ ?_
    refine S.data 0 (E1 z) rfl (fun ρ w h => h.g 0) ?_
    refine S.g false rfl ?_
    refine S.rounds 8 ?_
    refine S.g false rfl ?_
    refine S.condT rfl (by decide) ?_
    have := hb 24
    refine S.g false rfl ?_
    refine S.next ?_
    refine S.g false rfl ?_
    refine S.condT rfl (by decide) ?_
    have := hb 25
    refine S.g false rfl ?_
    refine S.next ?_
    refine S.g false rfl ?_
    refine S.condT rfl (by decide) ?_
    have := hb 26
    refine S.g false rfl ?_
    refine S.next ?_
    refine S.g false rfl ?_
    refine S.condT rfl (by decide) ?_
    have := hb 27
    refine S.g false rfl ?_
    refine S.next ?_
    refine S.g false rfl ?_
    refine S.condT rfl (by decide) ?_
    have := hb 28
    refine S.g false rfl ?_
    refine S.next ?_
    refine S.g false rfl ?_
    refine S.condT rfl (by decide) ?_
    have := hb 29
    refine S.g false rfl ?_
    refine S.next ?_
    refine S.g false rfl ?_
    refine S.condT rfl (by decide) ?_
    have := hb 30
    refine S.g false rfl ?_
    refine S.next ?_
    refine S.g false rfl ?_
    refine S.condT rfl (by decide) ?_
    have := hb 31
    refine S.g false rfl ?_
    refine S.next ?_
    refine S.g false rfl ?_
    refine S.condF rfl (by decide) ?_
    refine S.g false rfl ?_
    refine S.retv rfl rfl rfl rfl ?_
    show (SV.i .u64 (orW z 3 8)).den QR = _
    rw [Fv hz 3 8 (by omega)]
  exact CV.mono h fun v w' _ ⟨x, e, _, p⟩ => ⟨x, e, trivial, p⟩
theorem Qlq {z : List Int} (hl : z.length = 32) : z = [Qb z 0, Qb z 1, Qb z 2, Qb z 3, Qb z 4, Qb z 5, Qb z 6, Qb z 7, Qb z 8, Qb z 9, Qb z 10, Qb z 11, Qb z 12, Qb z 13, Qb z 14, Qb z 15, Qb z 16, Qb z 17, Qb z 18, Qb z 19, Qb z 20, Qb z 21, Qb z 22, Qb z 23, Qb z 24, Qb z 25, Qb z 26, Qb z 27, Qb z 28, Qb z 29, Qb z 30, Qb z 31] := by
  refine List.ext_getElem (by simp [hl]) fun i h1 h2 => ?_
  have : i < 32 := by omega
  have e : z[i] = Qb z i := by simp [Qb, h1]
  rw [e]
  clear e h1 hl
  revert h2
  match i, this with
  | 0, _ => intro _; rfl
  | 1, _ => intro _; rfl
  | 2, _ => intro _; rfl
  | 3, _ => intro _; rfl
  | 4, _ => intro _; rfl
  | 5, _ => intro _; rfl
  | 6, _ => intro _; rfl
  | 7, _ => intro _; rfl
  | 8, _ => intro _; rfl
  | 9, _ => intro _; rfl
  | 10, _ => intro _; rfl
  | 11, _ => intro _; rfl
  | 12, _ => intro _; rfl
  | 13, _ => intro _; rfl
  | 14, _ => intro _; rfl
  | 15, _ => intro _; rfl
  | 16, _ => intro _; rfl
  | 17, _ => intro _; rfl
  | 18, _ => intro _; rfl
  | 19, _ => intro _; rfl
  | 20, _ => intro _; rfl
  | 21, _ => intro _; rfl
  | 22, _ => intro _; rfl
  | 23, _ => intro _; rfl
  | 24, _ => intro _; rfl
  | 25, _ => intro _; rfl
  | 26, _ => intro _; rfl
  | 27, _ => intro _; rfl
  | 28, _ => intro _; rfl
  | 29, _ => intro _; rfl
  | 30, _ => intro _; rfl
  | 31, _ => intro _; rfl
  | k + 32, h => exact absurd h (by omega)
theorem Qj0 {z : List Int} (hl : z.length = 32) (ρ : QS) : (SV.g (E1 z)).den ρ = (SV.a .u8 z 32).den ρ := by
  conv => rhs; rw [Qlq hl]
  rfl
theorem Qab {ρ : QS} {L0 : List Nat} {w0 w : World} {m : SM} {d : SD} {n : Nat} {Γ : List QN} (h : WM ρ L0 w0 m d n Γ w) (k : Nat) {z : List Int} (hk : ZI m k = some (E1 z)) : w.rangeAt (ρ.b k) 0 (Qp QR (E1 z)) := by
  have := (h.cell hk).1.range
  rwa [Xv (ρ' := QR) (fun k hk => absurd hk (Nat.not_lt_zero k)) (E1 z) (n := 0) rfl] at this
set_option maxHeartbeats 1000000 in
theorem Qlp {z : List Int} (hz : Qh z) : PV Tryz.prog gT 131 [.g (E1 z)] (lm (QB (Jt z))) := by
  refine PV.mk' Tryz.func131 rfl rfl rfl rfl fun w L hL hG => ?_
  refine S.enter Qw [.g (E1 z)] gT Tryz.func131 rfl rfl rfl (fun _ => rfl) hL hG ?_
  refine S.g false rfl ?_
  refine S.call (α := Unit) (sv := fun _ => .i .u64 (Q0 z 0 8)) (fs := fun _ => []) (pr := fun _ => True) rfl rfl rfl rfl rfl rfl Tryz.func137 rfl rfl (fun ρ W h => Qiz hz (B := ρ.b 0) (Qab h 0 rfl) _) (fun _ => rfl) fun _ _ => ?_
  refine S.g false rfl ?_
  refine S.call (α := Unit) (sv := fun _ => .i .u64 (Q0 z 1 8)) (fs := fun _ => []) (pr := fun _ => True) rfl rfl rfl rfl rfl rfl Tryz.func137 rfl rfl (fun ρ W h => Qiy hz (B := ρ.b 0) (Qab h 0 rfl) _) (fun _ => rfl) fun _ _ => ?_
  refine S.g false rfl ?_
  refine S.call (α := Unit) (sv := fun _ => .i .u64 (Q0 z 2 8)) (fs := fun _ => []) (pr := fun _ => True) rfl rfl rfl rfl rfl rfl Tryz.func137 rfl rfl (fun ρ W h => Qix hz (B := ρ.b 0) (Qab h 0 rfl) _) (fun _ => rfl) fun _ _ => ?_
  refine S.g false rfl ?_
  refine S.call (α := Unit) (sv := fun _ => .i .u64 (Q0 z 3 8)) (fs := fun _ => []) (pr := fun _ => True) rfl rfl rfl rfl rfl rfl Tryz.func137 rfl rfl (fun ρ W h => Qiw hz (B := ρ.b 0) (Qab h 0 rfl) _) (fun _ => rfl) fun _ _ => ?_
  have h0 := X4 z hz 0; have h1 := X4 z hz 1; have h2 := X4 z hz 2; have h3 := X4 z hz 3
  obtain ⟨Z, hZ, hC⟩ : ∃ Z, QB (Jt z) = Z /\ PV Tryz.prog gT 121 [lm (Jt z)] (lm Z) := ⟨_, rfl, UC _ (Ha z hz)⟩
  rw [hZ]
  clear hZ
  unfold Jt at hC
  generalize Q0 z 0 8 = q0 at *
  generalize Q0 z 1 8 = q1 at *
  generalize Q0 z 2 8 = q2 at *
  generalize Q0 z 3 8 = q3 at *
  have m0 := VO h0
  have o1 := Kp (q0 / 2251799813685248) q1 13 (by omega) (by simp only [Int.reducePow]; omega) h1.1
  have o2 := Kp (q1 / 274877906944) q2 26 (by omega) (by simp only [Int.reducePow]; omega) h2.1
  have o3 := Kp (q2 / 33554432) q3 39 (by omega) (by simp only [Int.reducePow]; omega) h3.1
  simp only [Int.reducePow] at o1 o2 o3
  have m1 := VO (x := q0 / 2251799813685248 + q1 * 8192 % 18446744073709551616) (by omega)
  have m2 := VO (x := q1 / 274877906944 + q2 * 67108864 % 18446744073709551616) (by omega)
  have m3 := VO (x := q2 / 33554432 + q3 * 549755813888 % 18446744073709551616) (by omega)
  rw [show (q0 / 2251799813685248 + q1 * 8192 % 18446744073709551616) % 2251799813685248 = (q0 / 2251799813685248 + q1 * 8192) % 2251799813685248 by omega] at m1
  rw [show (q1 / 274877906944 + q2 * 67108864 % 18446744073709551616) % 2251799813685248 = (q1 / 274877906944 + q2 * 67108864) % 2251799813685248 by omega] at m2
  rw [show (q2 / 33554432 + q3 * 549755813888 % 18446744073709551616) % 2251799813685248 = (q2 / 33554432 + q3 * 549755813888) % 2251799813685248 by omega] at m3
  rw [<- o1] at m1
  rw [<- o2] at m2
  rw [<- o3] at m3
  rw [<- m0, <- m1, <- m2, <- m3] at hC
  clear o1 o2 o3 m0 m1 m2 m3
  refine S.g false rfl ?_
  refine S.cv rfl rfl rfl rfl rfl rfl hC ?_ (fun _ _ h => (Hs.pre (Hs.pre (Hs.pre (Hs.pre h)))))
  refine S.g false rfl ?_
  exact S.retv rfl rfl rfl rfl rfl
theorem Qhp {z : List Int} (hz : Qh z) (hl : z.length = 32) : PV Tryz.prog gT 131 [.a .u8 z 32] (lm (QB (Jt z))) := (Qlp hz).arg (by simp only [QO, Qj0 hl])
theorem Qna (cs : List Int) (hc : X1 cs) : bits .or .u64 (bits .and .u64 (yS cs 0) 2251799813685247) (IntKind.u64.wrap (bits .and .u64 (yS cs 1) 2251799813685247 * 2 ^ Int.toNat 51)) = Qb (QK cs) 0 := by
  have y0 := ZK hc 0; have y1 := ZK hc 1
  rw [VO (by omega), VO (by omega)]
  exact Kp (dS cs 0) (dS cs 1) 51 (by omega) (ZR cs 0) (ZR cs 1).1
theorem Qm9 (cs : List Int) (hc : X1 cs) : bits .or .u64 (bits .and .u64 (yS cs 1) 2251799813685247 / 2 ^ Int.toNat 13) (IntKind.u64.wrap (bits .and .u64 (yS cs 2) 2251799813685247 * 2 ^ Int.toNat 38)) = Qb (QK cs) 1 := by
  have y0 := ZK hc 1; have y1 := ZK hc 2
  rw [VO (by omega), VO (by omega)]
  exact Kp (dS cs 1 / 8192) (dS cs 2) 38 (by omega) (by have := ZR cs 1; simp only [Int.reducePow]; omega) (ZR cs 2).1
theorem Qm8 (cs : List Int) (hc : X1 cs) : bits .or .u64 (bits .and .u64 (yS cs 2) 2251799813685247 / 2 ^ Int.toNat 26) (IntKind.u64.wrap (bits .and .u64 (yS cs 3) 2251799813685247 * 2 ^ Int.toNat 25)) = Qb (QK cs) 2 := by
  have y0 := ZK hc 2; have y1 := ZK hc 3
  rw [VO (by omega), VO (by omega)]
  exact Kp (dS cs 2 / 67108864) (dS cs 3) 25 (by omega) (by have := ZR cs 2; simp only [Int.reducePow]; omega) (ZR cs 3).1
theorem Qm7 (cs : List Int) (hc : X1 cs) : bits .or .u64 (bits .and .u64 (yS cs 3) 2251799813685247 / 2 ^ Int.toNat 39) (IntKind.u64.wrap (bits .and .u64 (yS cs 4) 2251799813685247 * 2 ^ Int.toNat 12)) = Qb (QK cs) 3 := by
  have y0 := ZK hc 3; have y1 := ZK hc 4
  rw [VO (by omega), VO (by omega)]
  exact Kp (dS cs 3 / 549755813888) (dS cs 4) 12 (by omega) (by have := ZR cs 3; simp only [Int.reducePow]; omega) (ZR cs 4).1
theorem QiD (v : Int) : IntKind.u8.wrap v = v % 256 := by simp [IntKind.wrap, IntKind.bits, IntKind.signed]
/-- The first k bytes are written. -/
def bw (zs : List Int) : Nat -> List Int
  | 0 => List.replicate 32 0
  | k + 1 => (bw zs k).set k (IntKind.u8.wrap (Qb zs (k / 8) / 2 ^ (8 * (k % 8))))
theorem QX (zs : List Int) : ∀ k, (bw zs k).length = 32
  | 0 => by simp [bw]
  | k + 1 => by simp [bw, QX zs k]
theorem Qkz (zs : List Int) : ∀ k i, i < k -> k <= 32 -> (bw zs k)[i]? = some (HW zs i)
  | 0, i, h, _ => by omega
  | k + 1, i, h, h2 => by
    unfold bw
    by_cases e : k = i
    . subst e
      rw [List.getElem?_set_self (by rw [QX]; omega), QiD]
      rfl
    . rw [List.getElem?_set_ne e]
      exact Qkz zs k i (by omega) (by omega)
theorem QmN (zs : List Int) : bw zs 32 = VK zs 32 := by
  refine List.ext_getElem? fun i => ?_
  by_cases h : i < 32
  . rw [Qkz zs 32 i h (Nat.le_refl _)]; simp [VK, h]
  . rw [List.getElem?_eq_none (by rw [QX]; omega), List.getElem?_eq_none (by simp [VK]; omega)]
theorem Z4 (zs : List Int) (k : Nat) : (bw zs k).set k (IntKind.u8.wrap (Qb zs (k / 8) / 2 ^ (8 * (k % 8)))) = bw zs (k + 1) := rfl
theorem Qnq (zs : List Int) : List.replicate 32 0 = bw zs 0 := rfl
theorem XF {K : IntKind} {X Y : List Int} {n : Nat} (h : X = Y) : (SV.a K X n).eqv (SV.a K Y n) := by subst h; rfl
attribute [local irreducible] bw
set_option maxHeartbeats 2000000 in
theorem QjS (x : List Int) (hx : QC x) : PV Tryz.prog gT 86 [lm x] (.a .u8 (VK (QK (QB x)) 32) 32) := by
  refine PV.mk' Tryz.func86 rfl rfl rfl rfl fun w L hL hG => ?_
  refine S.enter Qw [lm x] gT Tryz.func86 rfl rfl rfl (fun _ => rfl) hL hG ?_
  refine S.g false rfl ?_
  refine S.cv rfl rfl rfl rfl rfl rfl (UC _ hx) ?_
  have hc := (Yn x hx).small
  generalize QB x = cs at hc ⊢
  have c0 := hc 0; have c1 := hc 1; have c2 := hc 2; have c3 := hc 3; have c4 := hc 4
  refine S.g false rfl ?_
  refine S.rounds 4 ?_
  refine S.g false rfl ?_
  refine S.condT rfl (by decide) ?_
  refine S.g false rfl ?_
  repeat (refine S.next ?_; refine S.g false rfl ?_; refine S.condT rfl (by decide) ?_; refine S.g false rfl ?_)
  refine S.next ?_
  refine S.g false rfl ?_
  refine S.condF rfl (by decide) ?_
  refine S.g false rfl ?_
  have y0 := ZK hc 0; have y1 := ZK hc 1; have y2 := ZK hc 2; have y3 := ZK hc 3; have y4 := ZK hc 4
  refine S.same 2 [(1, .p 0 0), (2, .p 1 0), (32, .i .i64 0)] [(0, [.i .u64 (yS cs 0), .i .u64 (Qb cs 1), .i .u64 (Qb cs 2), .i .u64 (Qb cs 3), .i .u64 (Qb cs 4)]), (1, [.a .u8 (List.replicate 32 0) 32])] ⟨rfl, rfl, ⟨rfl, rfl⟩, trivial⟩ ?_ ?_
  . repeat' (first | exact True.intro | refine And.intro ?_ ?_ | exact rfl)
  refine S.rounds 4 ?_
  refine S.g false rfl ?_
  refine S.condT rfl (by decide) ?_
  refine S.g false rfl ?_
  refine S.dr0 false rfl rfl rfl ?_
  refine S.g false rfl ?_
  repeat (refine S.next ?_; refine S.g false rfl ?_; refine S.condT rfl (by decide) ?_; refine S.g false rfl ?_; refine S.dr0 false rfl rfl rfl ?_; refine S.g false rfl ?_)
  refine S.next ?_
  refine S.g false rfl ?_
  refine S.condF rfl (by decide) ?_
  refine S.g false rfl ?_
  have e0 := Qna cs hc; have e1 := Qm9 cs hc; have e2 := Qm8 cs hc; have e3 := Qm7 cs hc
  refine S.same 48 [(2, .p 1 0), (6, .p 46 0), (7, .p 47 0), (83, .i .i64 0)] [(1, [.a .u8 (List.replicate 32 0) 32]), (46, [.i .u64 (Qb (QK cs) 0), .i .u64 (Qb (QK cs) 1), .i .u64 (Qb (QK cs) 2), .i .u64 (Qb (QK cs) 3)]), (47, [.a .u8 (bw (QK cs) 0) 32])] ⟨rfl, rfl, rfl, ⟨rfl, rfl⟩, trivial⟩ ?_ ?_
  . repeat' (first | exact True.intro | refine And.intro ?_ ?_ | exact e0 | exact e1 | exact e2 | exact e3 | exact XF (Qnq _) | exact QX _ _ | exact rfl)
  refine S.rounds 32 ?_
  refine S.go true rfl (by repeat' (first | exact True.intro | refine And.intro ?_ ?_ | decide | exact rfl)) ?_
  refine S.condT rfl (by decide) ?_
  refine S.go true rfl (by repeat' (first | exact True.intro | refine And.intro ?_ ?_ | decide | exact rfl)) ?_
  refine S.next ?_
  refine S.same 48 [(2, .p 1 0), (6, .p 46 0), (7, .p 47 0), (83, .i .i64 1)] [(1, [.a .u8 (List.replicate 32 0) 32]), (46, [.i .u64 (Qb (QK cs) 0), .i .u64 (Qb (QK cs) 1), .i .u64 (Qb (QK cs) 2), .i .u64 (Qb (QK cs) 3)]), (47, [.a .u8 (bw (QK cs) 1) 32])] ⟨rfl, rfl, rfl, ⟨rfl, by decide⟩, trivial⟩ (by repeat' (first | exact True.intro | refine And.intro ?_ ?_ | exact XF (Z4 (QK cs) 0) | exact rfl | exact QX _ _)) ?_
  refine S.go true rfl (by repeat' (first | exact True.intro | refine And.intro ?_ ?_ | decide | exact rfl)) ?_
  refine S.condT rfl (by decide) ?_
  refine S.go true rfl (by repeat' (first | exact True.intro | refine And.intro ?_ ?_ | decide | exact rfl)) ?_
  refine S.next ?_
  refine S.same 48 [(2, .p 1 0), (6, .p 46 0), (7, .p 47 0), (83, .i .i64 2)] [(1, [.a .u8 (List.replicate 32 0) 32]), (46, [.i .u64 (Qb (QK cs) 0), .i .u64 (Qb (QK cs) 1), .i .u64 (Qb (QK cs) 2), .i .u64 (Qb (QK cs) 3)]), (47, [.a .u8 (bw (QK cs) 2) 32])] ⟨rfl, rfl, rfl, ⟨rfl, by decide⟩, trivial⟩ (by repeat' (first | exact True.intro | refine And.intro ?_ ?_ | exact XF (Z4 (QK cs) 1) | exact rfl | exact QX _ _)) ?_
  refine S.go true rfl (by repeat' (first | exact True.intro | refine And.intro ?_ ?_ | decide | exact rfl)) ?_
  refine S.condT rfl (by decide) ?_
  refine S.go true rfl (by repeat' (first | exact True.intro | refine And.intro ?_ ?_ | decide | exact rfl)) ?_
  refine S.next ?_
  refine S.same 48 [(2, .p 1 0), (6, .p 46 0), (7, .p 47 0), (83, .i .i64 3)] [(1, [.a .u8 (List.replicate 32 0) 32]), (46, [.i .u64 (Qb (QK cs) 0), .i .u64 (Qb (QK cs) 1), .i .u64 (Qb (QK cs) 2), .i .u64 (Qb (QK cs) 3)]), (47, [.a .u8 (bw (QK cs) 3) 32])] ⟨rfl, rfl, rfl, ⟨rfl, by decide⟩, trivial⟩ (by repeat' (first | exact True.intro | refine And.intro ?_ ?_ | exact XF (Z4 (QK cs) 2) | exact rfl | exact QX _ _)) ?_
  refine S.go true rfl (by repeat' (first | exact True.intro | refine And.intro ?_ ?_ | decide | exact rfl)) ?_
  refine S.condT rfl (by decide) ?_
  refine S.go true rfl (by repeat' (first | exact True.intro | refine And.intro ?_ ?_ | decide | exact rfl)) ?_
  refine S.next ?_
  refine S.same 48 [(2, .p 1 0), (6, .p 46 0), (7, .p 47 0), (83, .i .i64 4)] [(1, [.a .u8 (List.replicate 32 0) 32]), (46, [.i .u64 (Qb (QK cs) 0), .i .u64 (Qb (QK cs) 1), .i .u64 (Qb (QK cs) 2), .i .u64 (Qb (QK cs) 3)]), (47, [.a .u8 (bw (QK cs) 4) 32])] ⟨rfl, rfl, rfl, ⟨rfl, by decide⟩, trivial⟩ (by repeat' (first | exact True.intro | refine And.intro ?_ ?_ | exact XF (Z4 (QK cs) 3) | exact rfl | exact QX _ _)) ?_
  refine S.go true rfl (by repeat' (first | exact True.intro | refine And.intro ?_ ?_ | decide | exact rfl)) ?_
  refine S.condT rfl (by decide) ?_
  refine S.go true rfl (by repeat' (first | exact True.intro | refine And.intro ?_ ?_ | decide | exact rfl)) ?_
  refine S.next ?_
  refine S.same 48 [(2, .p 1 0), (6, .p 46 0), (7, .p 47 0), (83, .i .i64 5)] [(1, [.a .u8 (List.replicate 32 0) 32]), (46, [.i .u64 (Qb (QK cs) 0), .i .u64 (Qb (QK cs) 1), .i .u64 (Qb (QK cs) 2), .i .u64 (Qb (QK cs) 3)]), (47, [.a .u8 (bw (QK cs) 5) 32])] ⟨rfl, rfl, rfl, ⟨rfl, by decide⟩, trivial⟩ (by repeat' (first | exact True.intro | refine And.intro ?_ ?_ | exact XF (Z4 (QK cs) 4) | exact rfl | exact QX _ _)) ?_
  refine S.go true rfl (by repeat' (first | exact True.intro | refine And.intro ?_ ?_ | decide | exact rfl)) ?_
  refine S.condT rfl (by decide) ?_
  refine S.go true rfl (by repeat' (first | exact True.intro | refine And.intro ?_ ?_ | decide | exact rfl)) ?_
  refine S.next ?_
  refine S.same 48 [(2, .p 1 0), (6, .p 46 0), (7, .p 47 0), (83, .i .i64 6)] [(1, [.a .u8 (List.replicate 32 0) 32]), (46, [.i .u64 (Qb (QK cs) 0), .i .u64 (Qb (QK cs) 1), .i .u64 (Qb (QK cs) 2), .i .u64 (Qb (QK cs) 3)]), (47, [.a .u8 (bw (QK cs) 6) 32])] ⟨rfl, rfl, rfl, ⟨rfl, by decide⟩, trivial⟩ (by repeat' (first | exact True.intro | refine And.intro ?_ ?_ | exact XF (Z4 (QK cs) 5) | exact rfl | exact QX _ _)) ?_
  refine S.go true rfl (by repeat' (first | exact True.intro | refine And.intro ?_ ?_ | decide | exact rfl)) ?_
  refine S.condT rfl (by decide) ?_
  refine S.go true rfl (by repeat' (first | exact True.intro | refine And.intro ?_ ?_ | decide | exact rfl)) ?_
  refine S.next ?_
  refine S.same 48 [(2, .p 1 0), (6, .p 46 0), (7, .p 47 0), (83, .i .i64 7)] [(1, [.a .u8 (List.replicate 32 0) 32]), (46, [.i .u64 (Qb (QK cs) 0), .i .u64 (Qb (QK cs) 1), .i .u64 (Qb (QK cs) 2), .i .u64 (Qb (QK cs) 3)]), (47, [.a .u8 (bw (QK cs) 7) 32])] ⟨rfl, rfl, rfl, ⟨rfl, by decide⟩, trivial⟩ (by repeat' (first | exact True.intro | refine And.intro ?_ ?_ | exact XF (Z4 (QK cs) 6) | exact rfl | exact QX _ _)) ?_
  refine S.go true rfl (by repeat' (first | exact True.intro | refine And.intro ?_ ?_ | decide | exact rfl)) ?_
  refine S.condT rfl (by decide) ?_
  refine S.go true rfl (by repeat' (first | exact True.intro | refine And.intro ?_ ?_ | decide | exact rfl)) ?_
  refine S.next ?_
  refine S.same 48 [(2, .p 1 0), (6, .p 46 0), (7, .p 47 0), (83, .i .i64 8)] [(1, [.a .u8 (List.replicate 32 0) 32]), (46, [.i .u64 (Qb (QK cs) 0), .i .u64 (Qb (QK cs) 1), .i .u64 (Qb (QK cs) 2), .i .u64 (Qb (QK cs) 3)]), (47, [.a .u8 (bw (QK cs) 8) 32])] ⟨rfl, rfl, rfl, ⟨rfl, by decide⟩, trivial⟩ (by repeat' (first | exact True.intro | refine And.intro ?_ ?_ | exact XF (Z4 (QK cs) 7) | exact rfl | exact QX _ _)) ?_
  refine S.go true rfl (by repeat' (first | exact True.intro | refine And.intro ?_ ?_ | decide | exact rfl)) ?_
  refine S.condT rfl (by decide) ?_
  refine S.go true rfl (by repeat' (first | exact True.intro | refine And.intro ?_ ?_ | decide | exact rfl)) ?_
  refine S.next ?_
  refine S.same 48 [(2, .p 1 0), (6, .p 46 0), (7, .p 47 0), (83, .i .i64 9)] [(1, [.a .u8 (List.replicate 32 0) 32]), (46, [.i .u64 (Qb (QK cs) 0), .i .u64 (Qb (QK cs) 1), .i .u64 (Qb (QK cs) 2), .i .u64 (Qb (QK cs) 3)]), (47, [.a .u8 (bw (QK cs) 9) 32])] ⟨rfl, rfl, rfl, ⟨rfl, by decide⟩, trivial⟩ (by repeat' (first | exact True.intro | refine And.intro ?_ ?_ | exact XF (Z4 (QK cs) 8) | exact rfl | exact QX _ _)) ?_
  refine S.go true rfl (by repeat' (first | exact True.intro | refine And.intro ?_ ?_ | decide | exact rfl)) ?_
  refine S.condT rfl (by decide) ?_
  refine S.go true rfl (by repeat' (first | exact True.intro | refine And.intro ?_ ?_ | decide | exact rfl)) ?_
  refine S.next ?_
  refine S.same 48 [(2, .p 1 0), (6, .p 46 0), (7, .p 47 0), (83, .i .i64 10)] [(1, [.a .u8 (List.replicate 32 0) 32]), (46, [.i .u64 (Qb (QK cs) 0), .i .u64 (Qb (QK cs) 1), .i .u64 (Qb (QK cs) 2), .i .u64 (Qb (QK cs) 3)]), (47, [.a .u8 (bw (QK cs) 10) 32])] ⟨rfl, rfl, rfl, ⟨rfl, by decide⟩, trivial⟩ (by repeat' (first | exact True.intro | refine And.intro ?_ ?_ | exact XF (Z4 (QK cs) 9) | exact rfl | exact QX _ _)) ?_
  refine S.go true rfl (by repeat' (first | exact True.intro | refine And.intro ?_ ?_ | decide | exact rfl)) ?_
  refine S.condT rfl (by decide) ?_
  refine S.go true rfl (by repeat' (first | exact True.intro | refine And.intro ?_ ?_ | decide | exact rfl)) ?_
  refine S.next ?_
  refine S.same 48 [(2, .p 1 0), (6, .p 46 0), (7, .p 47 0), (83, .i .i64 11)] [(1, [.a .u8 (List.replicate 32 0) 32]), (46, [.i .u64 (Qb (QK cs) 0), .i .u64 (Qb (QK cs) 1), .i .u64 (Qb (QK cs) 2), .i .u64 (Qb (QK cs) 3)]), (47, [.a .u8 (bw (QK cs) 11) 32])] ⟨rfl, rfl, rfl, ⟨rfl, by decide⟩, trivial⟩ (by repeat' (first | exact True.intro | refine And.intro ?_ ?_ | exact XF (Z4 (QK cs) 10) | exact rfl | exact QX _ _)) ?_
  refine S.go true rfl (by repeat' (first | exact True.intro | refine And.intro ?_ ?_ | decide | exact rfl)) ?_
  refine S.condT rfl (by decide) ?_
  refine S.go true rfl (by repeat' (first | exact True.intro | refine And.intro ?_ ?_ | decide | exact rfl)) ?_
  refine S.next ?_
  refine S.same 48 [(2, .p 1 0), (6, .p 46 0), (7, .p 47 0), (83, .i .i64 12)] [(1, [.a .u8 (List.replicate 32 0) 32]), (46, [.i .u64 (Qb (QK cs) 0), .i .u64 (Qb (QK cs) 1), .i .u64 (Qb (QK cs) 2), .i .u64 (Qb (QK cs) 3)]), (47, [.a .u8 (bw (QK cs) 12) 32])] ⟨rfl, rfl, rfl, ⟨rfl, by decide⟩, trivial⟩ (by repeat' (first | exact True.intro | refine And.intro ?_ ?_ | exact XF (Z4 (QK cs) 11) | exact rfl | exact QX _ _)) ?_
  refine S.go true rfl (by repeat' (first | exact True.intro | refine And.intro ?_ ?_ | decide | exact rfl)) ?_
  refine S.condT rfl (by decide) ?_
  refine S.go true rfl (by repeat' (first | exact True.intro | refine And.intro ?_ ?_ | decide | exact rfl)) ?_
  refine S.next ?_
  refine S.same 48 [(2, .p 1 0), (6, .p 46 0), (7, .p 47 0), (83, .i .i64 13)] [(1, [.a .u8 (List.replicate 32 0) 32]), (46, [.i .u64 (Qb (QK cs) 0), .i .u64 (Qb (QK cs) 1), .i .u64 (Qb (QK cs) 2), .i .u64 (Qb (QK cs) 3)]), (47, [.a .u8 (bw (QK cs) 13) 32])] ⟨rfl, rfl, rfl, ⟨rfl, by decide⟩, trivial⟩ (by repeat' (first | exact True.intro | refine And.intro ?_ ?_ | exact XF (Z4 (QK cs) 12) | exact rfl | exact QX _ _)) ?_
  refine S.go true rfl (by repeat' (first | exact True.intro | refine And.intro ?_ ?_ | decide | exact rfl)) ?_
  refine S.condT rfl (by decide) ?_
  refine S.go true rfl (by repeat' (first | exact True.intro | refine And.intro ?_ ?_ | decide | exact rfl)) ?_
  refine S.next ?_
  refine S.same 48 [(2, .p 1 0), (6, .p 46 0), (7, .p 47 0), (83, .i .i64 14)] [(1, [.a .u8 (List.replicate 32 0) 32]), (46, [.i .u64 (Qb (QK cs) 0), .i .u64 (Qb (QK cs) 1), .i .u64 (Qb (QK cs) 2), .i .u64 (Qb (QK cs) 3)]), (47, [.a .u8 (bw (QK cs) 14) 32])] ⟨rfl, rfl, rfl, ⟨rfl, by decide⟩, trivial⟩ (by repeat' (first | exact True.intro | refine And.intro ?_ ?_ | exact XF (Z4 (QK cs) 13) | exact rfl | exact QX _ _)) ?_
  refine S.go true rfl (by repeat' (first | exact True.intro | refine And.intro ?_ ?_ | decide | exact rfl)) ?_
  refine S.condT rfl (by decide) ?_
  refine S.go true rfl (by repeat' (first | exact True.intro | refine And.intro ?_ ?_ | decide | exact rfl)) ?_
  refine S.next ?_
  refine S.same 48 [(2, .p 1 0), (6, .p 46 0), (7, .p 47 0), (83, .i .i64 15)] [(1, [.a .u8 (List.replicate 32 0) 32]), (46, [.i .u64 (Qb (QK cs) 0), .i .u64 (Qb (QK cs) 1), .i .u64 (Qb (QK cs) 2), .i .u64 (Qb (QK cs) 3)]), (47, [.a .u8 (bw (QK cs) 15) 32])] ⟨rfl, rfl, rfl, ⟨rfl, by decide⟩, trivial⟩ (by repeat' (first | exact True.intro | refine And.intro ?_ ?_ | exact XF (Z4 (QK cs) 14) | exact rfl | exact QX _ _)) ?_
  refine S.go true rfl (by repeat' (first | exact True.intro | refine And.intro ?_ ?_ | decide | exact rfl)) ?_
  refine S.condT rfl (by decide) ?_
  refine S.go true rfl (by repeat' (first | exact True.intro | refine And.intro ?_ ?_ | decide | exact rfl)) ?_
  refine S.next ?_
  refine S.same 48 [(2, .p 1 0), (6, .p 46 0), (7, .p 47 0), (83, .i .i64 16)] [(1, [.a .u8 (List.replicate 32 0) 32]), (46, [.i .u64 (Qb (QK cs) 0), .i .u64 (Qb (QK cs) 1), .i .u64 (Qb (QK cs) 2), .i .u64 (Qb (QK cs) 3)]), (47, [.a .u8 (bw (QK cs) 16) 32])] ⟨rfl, rfl, rfl, ⟨rfl, by decide⟩, trivial⟩ (by repeat' (first | exact True.intro | refine And.intro ?_ ?_ | exact XF (Z4 (QK cs) 15) | exact rfl | exact QX _ _)) ?_
  refine S.go true rfl (by repeat' (first | exact True.intro | refine And.intro ?_ ?_ | decide | exact rfl)) ?_
  refine S.condT rfl (by decide) ?_
  refine S.go true rfl (by repeat' (first | exact True.intro | refine And.intro ?_ ?_ | decide | exact rfl)) ?_
  refine S.next ?_
  refine S.same 48 [(2, .p 1 0), (6, .p 46 0), (7, .p 47 0), (83, .i .i64 17)] [(1, [.a .u8 (List.replicate 32 0) 32]), (46, [.i .u64 (Qb (QK cs) 0), .i .u64 (Qb (QK cs) 1), .i .u64 (Qb (QK cs) 2), .i .u64 (Qb (QK cs) 3)]), (47, [.a .u8 (bw (QK cs) 17) 32])] ⟨rfl, rfl, rfl, ⟨rfl, by decide⟩, trivial⟩ (by repeat' (first | exact True.intro | refine And.intro ?_ ?_ | exact XF (Z4 (QK cs) 16) | exact rfl | exact QX _ _)) ?_
  refine S.go true rfl (by repeat' (first | exact True.intro | refine And.intro ?_ ?_ | decide | exact rfl)) ?_
  refine S.condT rfl (by decide) ?_
  refine S.go true rfl (by repeat' (first | exact True.intro | refine And.intro ?_ ?_ | decide | exact rfl)) ?_
  refine S.next ?_
  refine S.same 48 [(2, .p 1 0), (6, .p 46 0), (7, .p 47 0), (83, .i .i64 18)] [(1, [.a .u8 (List.replicate 32 0) 32]), (46, [.i .u64 (Qb (QK cs) 0), .i .u64 (Qb (QK cs) 1), .i .u64 (Qb (QK cs) 2), .i .u64 (Qb (QK cs) 3)]), (47, [.a .u8 (bw (QK cs) 18) 32])] ⟨rfl, rfl, rfl, ⟨rfl, by decide⟩, trivial⟩ (by repeat' (first | exact True.intro | refine And.intro ?_ ?_ | exact XF (Z4 (QK cs) 17) | exact rfl | exact QX _ _)) ?_
  refine S.go true rfl (by repeat' (first | exact True.intro | refine And.intro ?_ ?_ | decide | exact rfl)) ?_
  refine S.condT rfl (by decide) ?_
  refine S.go true rfl (by repeat' (first | exact True.intro | refine And.intro ?_ ?_ | decide | exact rfl)) ?_
  refine S.next ?_
  refine S.same 48 [(2, .p 1 0), (6, .p 46 0), (7, .p 47 0), (83, .i .i64 19)] [(1, [.a .u8 (List.replicate 32 0) 32]), (46, [.i .u64 (Qb (QK cs) 0), .i .u64 (Qb (QK cs) 1), .i .u64 (Qb (QK cs) 2), .i .u64 (Qb (QK cs) 3)]), (47, [.a .u8 (bw (QK cs) 19) 32])] ⟨rfl, rfl, rfl, ⟨rfl, by decide⟩, trivial⟩ (by repeat' (first | exact True.intro | refine And.intro ?_ ?_ | exact XF (Z4 (QK cs) 18) | exact rfl | exact QX _ _)) ?_
  refine S.go true rfl (by repeat' (first | exact True.intro | refine And.intro ?_ ?_ | decide | exact rfl)) ?_
  refine S.condT rfl (by decide) ?_
  refine S.go true rfl (by repeat' (first | exact True.intro | refine And.intro ?_ ?_ | decide | exact rfl)) ?_
  refine S.next ?_
  refine S.same 48 [(2, .p 1 0), (6, .p 46 0), (7, .p 47 0), (83, .i .i64 20)] [(1, [.a .u8 (List.replicate 32 0) 32]), (46, [.i .u64 (Qb (QK cs) 0), .i .u64 (Qb (QK cs) 1), .i .u64 (Qb (QK cs) 2), .i .u64 (Qb (QK cs) 3)]), (47, [.a .u8 (bw (QK cs) 20) 32])] ⟨rfl, rfl, rfl, ⟨rfl, by decide⟩, trivial⟩ (by repeat' (first | exact True.intro | refine And.intro ?_ ?_ | exact XF (Z4 (QK cs) 19) | exact rfl | exact QX _ _)) ?_
  refine S.go true rfl (by repeat' (first | exact True.intro | refine And.intro ?_ ?_ | decide | exact rfl)) ?_
  refine S.condT rfl (by decide) ?_
  refine S.go true rfl (by repeat' (first | exact True.intro | refine And.intro ?_ ?_ | decide | exact rfl)) ?_
  refine S.next ?_
  refine S.same 48 [(2, .p 1 0), (6, .p 46 0), (7, .p 47 0), (83, .i .i64 21)] [(1, [.a .u8 (List.replicate 32 0) 32]), (46, [.i .u64 (Qb (QK cs) 0), .i .u64 (Qb (QK cs) 1), .i .u64 (Qb (QK cs) 2), .i .u64 (Qb (QK cs) 3)]), (47, [.a .u8 (bw (QK cs) 21) 32])] ⟨rfl, rfl, rfl, ⟨rfl, by decide⟩, trivial⟩ (by repeat' (first | exact True.intro | refine And.intro ?_ ?_ | exact XF (Z4 (QK cs) 20) | exact rfl | exact QX _ _)) ?_
  refine S.go true rfl (by repeat' (first | exact True.intro | refine And.intro ?_ ?_ | decide | exact rfl)) ?_
  refine S.condT rfl (by decide) ?_
  refine S.go true rfl (by repeat' (first | exact True.intro | refine And.intro ?_ ?_ | decide | exact rfl)) ?_
  refine S.next ?_
  refine S.same 48 [(2, .p 1 0), (6, .p 46 0), (7, .p 47 0), (83, .i .i64 22)] [(1, [.a .u8 (List.replicate 32 0) 32]), (46, [.i .u64 (Qb (QK cs) 0), .i .u64 (Qb (QK cs) 1), .i .u64 (Qb (QK cs) 2), .i .u64 (Qb (QK cs) 3)]), (47, [.a .u8 (bw (QK cs) 22) 32])] ⟨rfl, rfl, rfl, ⟨rfl, by decide⟩, trivial⟩ (by repeat' (first | exact True.intro | refine And.intro ?_ ?_ | exact XF (Z4 (QK cs) 21) | exact rfl | exact QX _ _)) ?_
  refine S.go true rfl (by repeat' (first | exact True.intro | refine And.intro ?_ ?_ | decide | exact rfl)) ?_
  refine S.condT rfl (by decide) ?_
  refine S.go true rfl (by repeat' (first | exact True.intro | refine And.intro ?_ ?_ | decide | exact rfl)) ?_
  refine S.next ?_
  refine S.same 48 [(2, .p 1 0), (6, .p 46 0), (7, .p 47 0), (83, .i .i64 23)] [(1, [.a .u8 (List.replicate 32 0) 32]), (46, [.i .u64 (Qb (QK cs) 0), .i .u64 (Qb (QK cs) 1), .i .u64 (Qb (QK cs) 2), .i .u64 (Qb (QK cs) 3)]), (47, [.a .u8 (bw (QK cs) 23) 32])] ⟨rfl, rfl, rfl, ⟨rfl, by decide⟩, trivial⟩ (by repeat' (first | exact True.intro | refine And.intro ?_ ?_ | exact XF (Z4 (QK cs) 22) | exact rfl | exact QX _ _)) ?_
  refine S.go true rfl (by repeat' (first | exact True.intro | refine And.intro ?_ ?_ | decide | exact rfl)) ?_
  refine S.condT rfl (by decide) ?_
  refine S.go true rfl (by repeat' (first | exact True.intro | refine And.intro ?_ ?_ | decide | exact rfl)) ?_
  refine S.next ?_
  refine S.same 48 [(2, .p 1 0), (6, .p 46 0), (7, .p 47 0), (83, .i .i64 24)] [(1, [.a .u8 (List.replicate 32 0) 32]), (46, [.i .u64 (Qb (QK cs) 0), .i .u64 (Qb (QK cs) 1), .i .u64 (Qb (QK cs) 2), .i .u64 (Qb (QK cs) 3)]), (47, [.a .u8 (bw (QK cs) 24) 32])] ⟨rfl, rfl, rfl, ⟨rfl, by decide⟩, trivial⟩ (by repeat' (first | exact True.intro | refine And.intro ?_ ?_ | exact XF (Z4 (QK cs) 23) | exact rfl | exact QX _ _)) ?_
  refine S.go true rfl (by repeat' (first | exact True.intro | refine And.intro ?_ ?_ | decide | exact rfl)) ?_
  refine S.condT rfl (by decide) ?_
  refine S.go true rfl (by repeat' (first | exact True.intro | refine And.intro ?_ ?_ | decide | exact rfl)) ?_
  refine S.next ?_
  refine S.same 48 [(2, .p 1 0), (6, .p 46 0), (7, .p 47 0), (83, .i .i64 25)] [(1, [.a .u8 (List.replicate 32 0) 32]), (46, [.i .u64 (Qb (QK cs) 0), .i .u64 (Qb (QK cs) 1), .i .u64 (Qb (QK cs) 2), .i .u64 (Qb (QK cs) 3)]), (47, [.a .u8 (bw (QK cs) 25) 32])] ⟨rfl, rfl, rfl, ⟨rfl, by decide⟩, trivial⟩ (by repeat' (first | exact True.intro | refine And.intro ?_ ?_ | exact XF (Z4 (QK cs) 24) | exact rfl | exact QX _ _)) ?_
  refine S.go true rfl (by repeat' (first | exact True.intro | refine And.intro ?_ ?_ | decide | exact rfl)) ?_
  refine S.condT rfl (by decide) ?_
  refine S.go true rfl (by repeat' (first | exact True.intro | refine And.intro ?_ ?_ | decide | exact rfl)) ?_
  refine S.next ?_
  refine S.same 48 [(2, .p 1 0), (6, .p 46 0), (7, .p 47 0), (83, .i .i64 26)] [(1, [.a .u8 (List.replicate 32 0) 32]), (46, [.i .u64 (Qb (QK cs) 0), .i .u64 (Qb (QK cs) 1), .i .u64 (Qb (QK cs) 2), .i .u64 (Qb (QK cs) 3)]), (47, [.a .u8 (bw (QK cs) 26) 32])] ⟨rfl, rfl, rfl, ⟨rfl, by decide⟩, trivial⟩ (by repeat' (first | exact True.intro | refine And.intro ?_ ?_ | exact XF (Z4 (QK cs) 25) | exact rfl | exact QX _ _)) ?_
  refine S.go true rfl (by repeat' (first | exact True.intro | refine And.intro ?_ ?_ | decide | exact rfl)) ?_
  refine S.condT rfl (by decide) ?_
  refine S.go true rfl (by repeat' (first | exact True.intro | refine And.intro ?_ ?_ | decide | exact rfl)) ?_
  refine S.next ?_
  refine S.same 48 [(2, .p 1 0), (6, .p 46 0), (7, .p 47 0), (83, .i .i64 27)] [(1, [.a .u8 (List.replicate 32 0) 32]), (46, [.i .u64 (Qb (QK cs) 0), .i .u64 (Qb (QK cs) 1), .i .u64 (Qb (QK cs) 2), .i .u64 (Qb (QK cs) 3)]), (47, [.a .u8 (bw (QK cs) 27) 32])] ⟨rfl, rfl, rfl, ⟨rfl, by decide⟩, trivial⟩ (by repeat' (first | exact True.intro | refine And.intro ?_ ?_ | exact XF (Z4 (QK cs) 26) | exact rfl | exact QX _ _)) ?_
  refine S.go true rfl (by repeat' (first | exact True.intro | refine And.intro ?_ ?_ | decide | exact rfl)) ?_
  refine S.condT rfl (by decide) ?_
  refine S.go true rfl (by repeat' (first | exact True.intro | refine And.intro ?_ ?_ | decide | exact rfl)) ?_
  refine S.next ?_
  refine S.same 48 [(2, .p 1 0), (6, .p 46 0), (7, .p 47 0), (83, .i .i64 28)] [(1, [.a .u8 (List.replicate 32 0) 32]), (46, [.i .u64 (Qb (QK cs) 0), .i .u64 (Qb (QK cs) 1), .i .u64 (Qb (QK cs) 2), .i .u64 (Qb (QK cs) 3)]), (47, [.a .u8 (bw (QK cs) 28) 32])] ⟨rfl, rfl, rfl, ⟨rfl, by decide⟩, trivial⟩ (by repeat' (first | exact True.intro | refine And.intro ?_ ?_ | exact XF (Z4 (QK cs) 27) | exact rfl | exact QX _ _)) ?_
  refine S.go true rfl (by repeat' (first | exact True.intro | refine And.intro ?_ ?_ | decide | exact rfl)) ?_
  refine S.condT rfl (by decide) ?_
  refine S.go true rfl (by repeat' (first | exact True.intro | refine And.intro ?_ ?_ | decide | exact rfl)) ?_
  refine S.next ?_
  refine S.same 48 [(2, .p 1 0), (6, .p 46 0), (7, .p 47 0), (83, .i .i64 29)] [(1, [.a .u8 (List.replicate 32 0) 32]), (46, [.i .u64 (Qb (QK cs) 0), .i .u64 (Qb (QK cs) 1), .i .u64 (Qb (QK cs) 2), .i .u64 (Qb (QK cs) 3)]), (47, [.a .u8 (bw (QK cs) 29) 32])] ⟨rfl, rfl, rfl, ⟨rfl, by decide⟩, trivial⟩ (by repeat' (first | exact True.intro | refine And.intro ?_ ?_ | exact XF (Z4 (QK cs) 28) | exact rfl | exact QX _ _)) ?_
  refine S.go true rfl (by repeat' (first | exact True.intro | refine And.intro ?_ ?_ | decide | exact rfl)) ?_
  refine S.condT rfl (by decide) ?_
  refine S.go true rfl (by repeat' (first | exact True.intro | refine And.intro ?_ ?_ | decide | exact rfl)) ?_
  refine S.next ?_
  refine S.same 48 [(2, .p 1 0), (6, .p 46 0), (7, .p 47 0), (83, .i .i64 30)] [(1, [.a .u8 (List.replicate 32 0) 32]), (46, [.i .u64 (Qb (QK cs) 0), .i .u64 (Qb (QK cs) 1), .i .u64 (Qb (QK cs) 2), .i .u64 (Qb (QK cs) 3)]), (47, [.a .u8 (bw (QK cs) 30) 32])] ⟨rfl, rfl, rfl, ⟨rfl, by decide⟩, trivial⟩ (by repeat' (first | exact True.intro | refine And.intro ?_ ?_ | exact XF (Z4 (QK cs) 29) | exact rfl | exact QX _ _)) ?_
  refine S.go true rfl (by repeat' (first | exact True.intro | refine And.intro ?_ ?_ | decide | exact rfl)) ?_
  refine S.condT rfl (by decide) ?_
  refine S.go true rfl (by repeat' (first | exact True.intro | refine And.intro ?_ ?_ | decide | exact rfl)) ?_
  refine S.next ?_
  refine S.same 48 [(2, .p 1 0), (6, .p 46 0), (7, .p 47 0), (83, .i .i64 31)] [(1, [.a .u8 (List.replicate 32 0) 32]), (46, [.i .u64 (Qb (QK cs) 0), .i .u64 (Qb (QK cs) 1), .i .u64 (Qb (QK cs) 2), .i .u64 (Qb (QK cs) 3)]), (47, [.a .u8 (bw (QK cs) 31) 32])] ⟨rfl, rfl, rfl, ⟨rfl, by decide⟩, trivial⟩ (by repeat' (first | exact True.intro | refine And.intro ?_ ?_ | exact XF (Z4 (QK cs) 30) | exact rfl | exact QX _ _)) ?_
  refine S.go true rfl (by repeat' (first | exact True.intro | refine And.intro ?_ ?_ | decide | exact rfl)) ?_
  refine S.condT rfl (by decide) ?_
  refine S.go true rfl (by repeat' (first | exact True.intro | refine And.intro ?_ ?_ | decide | exact rfl)) ?_
  refine S.next ?_
  refine S.same 48 [(2, .p 1 0), (6, .p 46 0), (7, .p 47 0), (83, .i .i64 32)] [(1, [.a .u8 (List.replicate 32 0) 32]), (46, [.i .u64 (Qb (QK cs) 0), .i .u64 (Qb (QK cs) 1), .i .u64 (Qb (QK cs) 2), .i .u64 (Qb (QK cs) 3)]), (47, [.a .u8 (bw (QK cs) 32) 32])] ⟨rfl, rfl, rfl, ⟨rfl, by decide⟩, trivial⟩ (by repeat' (first | exact True.intro | refine And.intro ?_ ?_ | exact XF (Z4 (QK cs) 31) | exact rfl | exact QX _ _)) ?_
  refine S.go true rfl (by repeat' (first | exact True.intro | refine And.intro ?_ ?_ | decide | exact rfl)) ?_
  refine S.condF rfl (by decide) ?_
  refine S.go true rfl (by repeat' (first | exact True.intro | refine And.intro ?_ ?_ | exact QX _ _ | exact rfl)) ?_
  refine S.retv rfl rfl rfl rfl ?_
  rw [<- QmN]
  rfl
theorem Gm {x : List Int} {u : Int} (hx : Xo x u) : PV Tryz.prog gT 86 [lm x] (.a .u8 (Xf u) 32) := by
  have h := QjS x hx.words
  have hc := Yn x hx.words
  have e : VK (QK (QB x)) 32 = Xf u := by
    rw [QiA hc.small, hc.val, hx.val]
    rfl
  rwa [e] at h
theorem Qcs {x y : List Int} {u v : Int} (hx : Xo x u) (hy : Xo y v) : PV Tryz.prog gT 133 [lm x, lm y] (.c (u = v) inferInstance) := by
  refine PV.mk' Tryz.func133 rfl rfl rfl rfl fun w L hL hG => ?_
  have h1 := Gm hx
  have h2 := Gm hy
  refine S.enter Qw [lm x, lm y] gT Tryz.func133 rfl rfl rfl (fun _ => rfl) hL hG ?_
  refine S.g false rfl ?_
  refine S.drp false [(1, .a .u8 (Xf u) 32), (3, .a .u8 (Xf v) 32)] rfl rfl rfl ?_ ?_
  . refine S.g false rfl ?_
    refine S.retv rfl rfl rfl rfl ?_
    simp only [SV.den]
    rw [Qfl (Qed hx) (Qed hy)]
  . repeat' (first | exact True.intro | refine And.intro ?_ ?_ | assumption | exact QP _)
theorem Qg6 {x : List Int} {u : Int} (hx : Xo x u) : PV Tryz.prog gT 87 [lm x] (.c (u % 2 = 1) inferInstance) := by
  refine PV.mk' Tryz.func87 rfl rfl rfl rfl fun w L hL hG => ?_
  refine S.enter Qw [lm x] gT Tryz.func87 rfl rfl rfl (fun _ => rfl) hL hG ?_
  refine S.g false rfl ?_
  refine S.cv rfl rfl rfl rfl rfl rfl (Gm hx) ?_
  refine S.go false rfl (by repeat' (first | exact True.intro | refine And.intro ?_ ?_ | exact QP _ | decide)) ?_
  refine S.retv rfl rfl rfl rfl ?_
  have e : Qb (Xf u) 0 = u % 256 := by rw [Gt u 0 (by omega)]; simp
  have e2 : (Xf u).getD (Int.toNat 0) 0 = u % 256 := by rw [<- e]; rfl
  simp only [SV.den]
  rw [e2, Vp (by omega)]
  congr 1
  exact decide_eq_decide.2 (by omega)
def lmC (x : List Int) : List SV := [.i .u64 (Qb x 0), .i .u64 (Qb x 1), .i .u64 (Qb x 2), .i .u64 (Qb x 3), .i .u64 (Qb x 4)]
def lm0 : List SV := [.i .u64 0, .i .u64 0, .i .u64 0, .i .u64 0, .i .u64 0]
theorem Qib {nb : List Int} (hn : Qh nb) {k : Nat} (hk : k < 256) : bits .and .u8 (nb.getD (Int.toNat ((255 - (k : Int)) / 8)) 0 / 2 ^ Int.toNat ((255 - (k : Int)) % 8)) 1 = GY nb (255 - k) := by
  have e1 : Int.toNat ((255 - (k : Int)) / 8) = (255 - k) / 8 := by omega
  have e2 : Int.toNat ((255 - (k : Int)) % 8) = (255 - k) % 8 := by omega
  rw [e1, e2]
  have e3 : nb.getD ((255 - k) / 8) 0 = Qb nb ((255 - k) / 8) := by simp [Qb]
  rw [e3, Vp (VL (hn.at _) _)]
  rfl
set_option maxHeartbeats 1000000 in
theorem QdM {x nb : List Int} {u : Int} (hx : Xo x u) (hn : Qh nb) (hl : nb.length = 32) : PV Tryz.prog gT 122 [lm x, .a .u8 nb 32] (lm (Vb x nb 256)) := by
  refine PV.mk' Tryz.func122 rfl rfl rfl rfl fun w L hL hG => ?_
  have hp := Fo x nb u hx hn
  refine S.enter Qw [lm x, .a .u8 nb 32] gT Tryz.func122 rfl rfl rfl (fun _ => rfl) hL hG ?_
  refine S.go false rfl (by repeat' (first | exact True.intro | refine And.intro ?_ ?_ | assumption | omega | exact rfl)) ?_
  refine S.cv rfl rfl rfl rfl rfl rfl (Hq 1 (by omega)) ?_
  refine S.g false rfl ?_
  refine S.loop [2, 3, 4, 5] (fun k : Nat => [(9, .i .i64 (k : Int))]) (fun k => [(0, lmC x), (1, [.a .u8 nb 32]), (2, lm0), (3, lmC (Vb x nb k))]) (fun _ => []) (fun k => k <= 256) (fun k => 256 - k) 0 rfl (fun _ => rfl) (fun _ => rfl) rfl ⟨⟨rfl, rfl⟩, trivial⟩ (by repeat' (first | exact True.intro | refine And.intro ?_ ?_ | assumption | exact rfl)) (fun _ _ _ => trivial) (by omega) fun J k hk again => ?_
  have hk' : k <= 256 := hk
  refine S.g false rfl ?_
  refine S.cond rfl (fun c => ?_) (fun c => ?_)
  . have c' : k < 256 := by omega
    have hr := hp k hk'
    refine S.g false rfl ?_
    refine S.cv rfl rfl rfl rfl rfl rfl (Ys (Vb x nb k) (Vb x nb k) hr.small hr.small) ?_
    refine S.go false rfl (by repeat' (first | exact True.intro | refine And.intro ?_ ?_ | assumption | omega | (show _ < (32 : Int); omega) | exact rfl)) ?_
    refine S.cond rfl (fun b => ?_) (fun b => ?_)
    . have b' : GY nb (255 - k) = 1 := by rw [<- Qib hn c']; exact b
      have e : Vb x nb (k + 1) = QB (XT (QB (XT (Vb x nb k) (Vb x nb k))) x) := by rw [Vb, if_pos b']
      refine S.g false rfl ?_
      refine S.cv rfl rfl rfl rfl rfl rfl (Ys (QB (XT (Vb x nb k) (Vb x nb k))) x (X3 hr hr).small hx.small) ?_
      refine S.g false rfl ?_
      refine S.again (again (k + 1) (show k + 1 <= 256 by omega) (show 256 - (k + 1) < 256 - k by omega)) ⟨⟨rfl, by omega⟩, rfl, rfl, rfl, rfl, trivial⟩ ?_ rfl rfl (fun x hx => hx) rfl (fun ρ W h => h.hs)
      repeat' (first | exact True.intro | refine And.intro ?_ ?_ | assumption | (rw [e]; done) | exact rfl)
    . have b' : ¬ GY nb (255 - k) = 1 := by rw [<- Qib hn c']; exact b
      have e : Vb x nb (k + 1) = QB (XT (Vb x nb k) (Vb x nb k)) := by rw [Vb, if_neg b']
      refine S.g false rfl ?_
      refine S.again (again (k + 1) (show k + 1 <= 256 by omega) (show 256 - (k + 1) < 256 - k by omega)) ⟨⟨rfl, by omega⟩, rfl, rfl, rfl, rfl, trivial⟩ ?_ rfl rfl (fun x hx => hx) rfl (fun ρ W h => h.hs)
      repeat' (first | exact True.intro | refine And.intro ?_ ?_ | assumption | (rw [e]; done) | exact rfl)
  . obtain rfl : k = 256 := by omega
    refine S.g false rfl ?_
    exact S.retv rfl rfl rfl rfl rfl
def fill (k : Nat) : List Int := List.replicate k 255 ++ List.replicate (32 - k) 0
theorem Qly : ∀ k, k < 32 -> (fill k).set k 255 = fill (k + 1) := by decide +kernel
theorem QbD {k : Nat} (h : k <= 32) : (fill k).length = 32 := by simp [fill]; omega
theorem Qkl (lo hi : Int) : PV Tryz.prog gT 123 [.i .u8 lo, .i .u8 hi] (.a .u8 (J0 lo hi) 32) := by
  refine PV.mk' Tryz.func123 rfl rfl rfl rfl fun w L hL hG => ?_
  refine S.enter Qw [.i .u8 lo, .i .u8 hi] gT Tryz.func123 rfl rfl rfl (fun _ => rfl) hL hG ?_
  refine S.g false rfl ?_
  refine S.loop [0, 1, 4, 5] (fun k : Nat => [(7, .i .i64 (k : Int))]) (fun k => [(0, [.a .u8 (List.replicate 32 0) 32]), (1, [.a .u8 (fill k) 32])]) (fun _ => []) (fun k => k <= 32) (fun k => 32 - k) 0 rfl (fun _ => rfl) (fun _ => rfl) rfl ⟨⟨rfl, rfl⟩, trivial⟩ (by repeat' (first | exact True.intro | refine And.intro ?_ ?_ | assumption | exact rfl)) (fun _ _ _ => trivial) (by omega) fun J k hk again => ?_
  have hk' : k <= 32 := hk
  refine S.g false rfl ?_
  refine S.cond rfl (fun c => ?_) (fun c => ?_)
  . have c' : k < 32 := by omega
    refine S.go false rfl (by repeat' (first | exact True.intro | exact QbD hk' | refine And.intro ?_ ?_ | omega | (show _ < (32 : Int); omega) | exact rfl)) ?_
    refine S.again (again (k + 1) (show k + 1 <= 32 by omega) (show 32 - (k + 1) < 32 - k by omega)) ⟨⟨rfl, by omega⟩, ⟨rfl, rfl⟩, ⟨rfl, rfl⟩, rfl, rfl, trivial⟩ ?_ rfl rfl (fun x hx => hx) rfl (fun ρ W h => h.hs)
    repeat' (first | exact True.intro | refine And.intro ?_ ?_ | assumption | exact XF (Qly k c') | exact QbD (show k + 1 <= 32 by omega) | exact rfl)
  . obtain rfl : k = 32 := by omega
    refine S.g false rfl ?_
    exact S.retv rfl rfl rfl rfl rfl
/-- An inverse. -/
def Qbx (u : Int) : Int := u ^ (Qq (J0 235 127) 32).toNat % pV
theorem EQ {x : List Int} {u : Int} (hx : Xo x u) : ∃ z, Xo z (Qbx u) /\ PV Tryz.prog gT 85 [lm x] (lm z) := by
  refine ⟨Vb x (J0 235 127) 256, EF hx Qa4, ?_⟩
  have h1 := Qkl 235 127
  have h2 := QdM hx Qa4 rfl
  generalize Vb x (J0 235 127) 256 = z at *
  refine PV.mk' Tryz.func85 rfl rfl rfl rfl fun w L hL hG => ?_
  refine S.enter Qw [lm x] gT Tryz.func85 rfl rfl rfl (fun _ => rfl) hL hG ?_
  refine S.g false rfl ?_
  refine S.drp false [(1, .a .u8 (J0 235 127) 32), (2, lm z)] rfl rfl rfl ?_ ?_
  . refine S.g false rfl ?_
    exact S.retv rfl rfl rfl rfl rfl
  . repeat' (first | exact True.intro | refine And.intro ?_ ?_ | assumption)
end Go.Proofs.YtbiboamaigedjaaGreatDoor
namespace Go.Proofs.YtbiboamaigedjaaGreatDoor
open Go.RowKit
set_option linter.unusedVariables false
set_option linter.constructorNameAsVariable false
set_option linter.unusedSimpArgs false
section
variable {c : Cx} {ks ks' : List It} {f f' : SF} {m m' : SM} {d : SD} {n n' : Nat} {Γ : List QN} {cs : List Prop}
/-- So many steps. -/
theorem S.gn (k : Nat) (md : Bool) (h : run c.T md c.N d k ks f m n [] = (ks', f', m', n', cs)) (kk : S c ks' f' m' d n' Γ) (hc : XD cs := by repeat' (first | exact True.intro | exact fun h => h | refine And.intro ?_ ?_ | omega | exact rfl | (simp only [Int.reduceToNat, Int.reducePow]; omega) | intro _)) : S c ks f m d n Γ := YI h hc kk
theorem QmY {N : Nat} {a : Act} {ρ : QS} {t : Nat} {v v' : SV} (ha : Fr N a (QI ρ f)) (hl : lk f t = some v) (he : v.den ρ = v'.den ρ) : Fr N a (QI ρ ((t, v') :: f)) := by
  refine ⟨ha.1, fun t' u hu => ?_⟩
  unfold QI VQ at hu
  cases hk : Nat.beq t t' with
  | false => rw [hk] at hu; exact ha.2 t' u hu
  | true =>
    rw [hk] at hu
    cases hu
    have e := Nat.eq_of_beq_eq_true hk
    subst e
    rw [ha.2 t _ (Yw hl), he]
theorem S.rd (t : Nat) {v : SV} (v' : SV) (hl : lk f t = some v) (he : ∀ ρ, v.den ρ = v'.den ρ) (k : S c ks ((t, v') :: f) m d n Γ) : S c ks f m d n Γ := fun ρ a w ha hW => k ρ a w (QmY ha hl (he ρ)) hW
theorem Qe2 {ρ : QS} {L0 : List Nat} {w0 w : World} (h : WM ρ L0 w0 m d n Γ w) {k : Nat} {c0 c' : Cl} (hk : ZI m k = some c0) (he : Qp ρ c0 = Qp ρ c') (hok : YK c') : WM ρ L0 w0 (Km k c' m) d n Γ w := by
  have hkm := Zu hk
  have hown : own ρ (Km k c' m) L0 = own ρ m L0 := by unfold own; rw [Dn]
  refine ⟨fun x hx => ?_, fun x hx => ?_, by rw [Dn]; exact h.nod, fun x hx => ?_, h.bel, fun x hx => by rw [hown]; exact h.dat x hx, h.dky, h.ll, by rw [hown]; exact h.hs⟩
  . rcases Vv (Zn h.nod) hx with ⟨e1, e2⟩ | ⟨h1, h2⟩
    . rw [e1, e2, <- he]; exact ⟨(h.mem _ hkm).1, hok⟩
    . exact h.mem x h1
  . rcases Vv (Zn h.nod) hx with ⟨e1, e2⟩ | ⟨h1, h2⟩
    . rw [e1]; exact h.key _ hkm
    . exact h.key x h1
  . rcases Vv (Zn h.nod) hx with ⟨e1, e2⟩ | ⟨h1, h2⟩
    . rw [e1]; exact h.low _ hkm
    . exact h.low x h1
/-- A block's cells, told anew. -/
theorem S.recell (k : Nat) {c0 : Cl} (c' : Cl) (hk : ZI m k = some c0) (he : ∀ ρ, Qp ρ c0 = Qp ρ c') (hok : YK c') (hm : Km k c' m = m') (kk : S c ks f m' d n Γ) : S c ks f m d n Γ := fun ρ a w ha hW => kk ρ a w ha (by rw [<- hm]; exact Qe2 hW hk (he ρ) hok)
theorem Qds {n : Nat} : ∀ {l l' : List SV}, VU n l = true -> VU n l' = true -> VU n (l ++ l') = true
  | [], l', _, h => h
  | x :: l, l', h, h' => by
    unfold VU at h
    split at h
    . rename_i hx
      show VU n (x :: (l ++ l')) = true
      unfold VU
      rw [hx]
      exact Qds h h'
    . cases h
theorem Qdr {n : Nat} {l : List SV} (h : VU n l = true) : ∀ k : Nat, VU n (List.replicate k l).flatten = true
  | 0 => rfl
  | k + 1 => Qds h (Qdr h k)
/-- A new slice, of so many elements of nothing. -/
theorem S.make {ops : Array Oper} {o : Oper} {r : List Oper} {t s bytes : Nat} {ty : Nat} {x y : Operand} {K : IntKind} {z : Int} {i j : TI} {zl : List SV} (k : Nat) (ho : o.op = .makeSlice ty x y) (hd : o.dst = some t) (hx : unN (Uf f x) = some (.i K z)) (hy : unN (Uf f y) = some (.i K z)) (ht : apB c.P ty s bytes = true) (hi : c.T.get ty = some i) (hy2 : Nat.beq i.y 2 = true) (hj : c.T.get i.e = some j) (hz : j.z = some zl) (hk : z = (k : Int)) (hs : 0 < s) (hb : bytes * k <= 140737488355328)
    (kk : S c (.o ops r :: ks) ((t, .y n 0 k k) :: f) ((n, (List.replicate k zl).flatten) :: m) d (n + 1) Γ) (hf : wfF n f = true := by rfl) (hm : HR n m = true := by rfl) (hdd : Hk n d = true := by rfl) (hg : J7 ops o f = some .on := by rfl) (hlt : Nat.blt t c.N = true := by rfl) (hml : k <= maxLen := by (unfold maxLen; omega)) : S c (.o ops (o :: r) :: ks) f m d n Γ := fun ρ a w ha hW => by
  subst hk
  have hx' := HZ (ρ := ρ) hx
  have hy' := HZ (ρ := ρ) hy
  simp only [SV.den] at hx' hy'
  have hwt := (VG (ρ := ρ)).1 hg
  obtain ⟨z1, z2, Z, z3, z4⟩ := TT.zero c.ok hj hz
  obtain ⟨ti, hti, hsz⟩ := Uw (TT.size c.ok hj)
  rw [hti] at z3
  simp only [Option.bind_some] at z3
  have hu := TT.slc c.ok hi hy2
  refine (WL.get (QhQ (r := Qp ρ zl) ho ht (fun e he => by
    rw [hu] at he
    cases he
    rw [hti]
    simp only [Option.bind_some, z3, Option.map_some, z4 ρ]) hx' hy' (by omega) hs (by omega) (by omega) hwt) hd (decide_eq_true (QY hlt)) (Q := Kn c ks) (rest := r) fun u W hu => ?_) a ha
  obtain ⟨rfl, _, hB, h2, h3⟩ := hu
  rw [Int.toNat_natCast] at hB ⊢
  have hW' := hW.new hm hdd (Du z1 k) (Kd (Nat.zero_le n) _ (Qdr z2 k)) (B := w.heap.size) (Nat.le_refl _) h2 (by rw [FU]; exact hB)
  intro a' ha'
  refine kk _ a' W ?_ hW'
  have e : QI (ρ.setb n w.heap.size) f = QI ρ f := (Ym (QS.setb_upto _ _ _) f hf).symm
  show Fr c.N a' ((t, (SV.y n 0 k k).den (ρ.setb n w.heap.size)) :: QI (ρ.setb n w.heap.size) f)
  rw [e]
  simp only [SV.den, QS.setb_at]
  exact ha'
/-- A call of a function of values and of what own blocks hold. -/
theorem S.cr {G : List QN} {F : FuncId} {v : SV} {ops : Array Oper} {o : Oper} {r : List Oper} {t : Nat} {g : Operand} {xs : List Operand} {ts : Array TypeId} {caps vs : List SV} {mc : SM} (rk : List Nat)
    (ho : o.op = .call { callee := .value g, args := ⟨xs⟩, argTypes := ts }) (hg : J7 ops o f = some .on) (hF : Uf f g = some (.f F caps)) (hx : DQ f xs = some vs) (hd : o.dst = some t) (hlt : Nat.blt t c.N = true) (hm : Qh5 m rk = some mc) (h : PR c.P G F (vs ++ caps) mc v) (k : S c (.o ops r :: ks) ((t, v) :: f) m d n Γ) (hG : ∀ L' W, Hs Γ L' W -> Hs G L' W := by first | exact fun _ _ h => h | exact fun _ _ h => Hs.pre h) : S c (.o ops (o :: r) :: ks) f m d n Γ := by
  obtain ⟨fn, hf, hn, hb⟩ := h.fn
  exact S.call (α := Unit) (sv := fun _ => v) (fs := fun _ => []) (pr := fun _ => True) ho hg hF hx hd hlt hf hn hb (fun ρ w hW => CX.any (h.h ρ w ⟨_, hG _ _ hW.hs⟩ fun x hx => hW.cell (HF hm x hx).2)) (fun _ => h.wv) fun _ _ => by rw [List.append_nil]; exact k
end
/-- A slice that is read: its cells are known from here on. -/
theorem S.slc {c : Cx} {ks : List It} {f : SF} {m : SM} {d : SD} {n : Nat} {Γ : List QN} (t : Nat) {a0 : Option Addr} {q cap s : Nat} {rs : List (List Value)} (cs : List SV) (hl : lk f t = some (.o a0 q cap)) (hB : ∀ ρ w, WM ρ c.L0 c.w0 m d n Γ w -> Zh s (own ρ m c.L0) w (.slice a0 q cap) rs) (hcr : rs.flatten = Qp QR cs) (h0 : 0 < YC cs) (k : S c ks ((t, .z n 0 q cap) :: f) m ((n, cs) :: d) (n + 1) Γ)
    (hok : YK cs := by exact UZ rfl) (hcs : VU 0 cs = true := by rfl) (wff : wfF n f = true := by rfl) (wfm : HR n m = true := by rfl) (wfd : Hk n d = true := by rfl) : S c ks f m d n Γ := fun ρ a w ha hW => by
  obtain ⟨g0, g1, a1, cap1, g2, g3, g4, g5, g6⟩ := hB ρ w hW
  simp only [Value.slice.injEq] at g2
  obtain ⟨rfl, rfl, rfl⟩ := g2
  have hne : rs ≠ [] := fun e => by
    subst e
    have := congrArg List.length hcr
    rw [Xm QR hok] at this
    simp at this
    omega
  obtain ⟨X, o, rfl, gX, gr⟩ := g6 hne
  rw [hcr] at gr
  have e0 : Qp QR cs = Qp ρ cs := Xv (fun k hk => absurd hk (Nat.not_lt_zero k)) cs hcs
  rw [e0] at gr
  have hD := hW.data (B := (X, o)) wfm wfd (Kd (Nat.zero_le n) cs hcs) hok h0 gX gr
  refine k (ρ.setd n (X, o)) a w ?_ hD
  have e1 : QI (ρ.setd n (X, o)) f = QI ρ f := (Ym (QS.setd_upto ρ n (X, o)) f wff).symm
  have e2 := Yw (ρ := ρ) hl
  simp only [SV.den] at e2
  refine ⟨ha.1, fun t' v hv => ?_⟩
  simp only [QI, SV.den, QS.setd_at, Nat.add_zero] at hv
  rw [e1] at hv
  unfold VQ at hv
  cases hk : Nat.beq t t' with
  | false => rw [hk] at hv; exact ha.2 t' v hv
  | true =>
    rw [hk] at hv
    cases hv
    have e := Nat.eq_of_beq_eq_true hk
    subst e
    exact ha.2 t _ e2
/-- Several results that are told by the values alone. -/
theorem S.rett {c : Cx} {ks : List It} {f : SF} {m : SM} {d : SD} {n : Nat} {Γ : List QN} {rs : List ResultVar} {a b : SV} {vs ws : List SV} {L : List Nat} (hR : c.R = fun v W => ∃ _ : Unit, v = (SV.t ws).den QR /\ Hs [] L W /\ True) (hr : c.fn.results = ⟨rs⟩) (hv : Qcv c.T f m rs = some (a :: b :: vs)) (hw : VU 0 (a :: b :: vs) = true) (he : QO QR (a :: b :: vs) = QO QR ws) : S c (.c .ret :: ks) f m d n Γ :=
  S.ret hr hv fun ρ W h => by
    rw [hR]
    refine ⟨(), ?_, trivial, trivial⟩
    show Value.tuple (QO ρ (a :: b :: vs)).toArray = _
    rw [Gf hw ρ QR, he]
    simp only [SV.den]
theorem Hs.none {Γ : List QN} {L : List Nat} {w : World} (h : Hs Γ L w) : Hs Γ [] w := h.stp (Stp.refl _ _) fun _ hx => by cases hx
theorem LL.none (w : World) : LL [] w := fun _ hx => by cases hx
theorem PR.mk' {P : Program} {G : List QN} {F : FuncId} {args : List SV} {mc : SM} {v : SV} {fn : Func} (hf : P.funcs[F]? = some fn) (hn : (fn.name == "runtime.NumGoroutine") = false) (hb : fn.body.isNone = false) (wv : v.wf 0 = true) (h : ∀ ρ w, Hs G [] w -> (∀ x ∈ mc, Q8 w (ρ.b x.1) (Qp ρ x.2) /\ YK x.2) -> CX P F (QO ρ args) w [] (fun _ : Unit => v) (fun _ => []) (fun _ => True)) : PR P G F args mc v := ⟨⟨fn, hf, hn, hb⟩, wv, fun ρ w ⟨_, hG⟩ hm => h ρ w hG.none hm⟩
/-- A block as a slice of rows. -/
theorem Q8.rows {w : World} {B s : Nat} {rows : List (List Value)} (h : Q8 w B rows.flatten) (h0 : 0 < s) (hr : ∀ r ∈ rows, r.length = s) (hm : rows.length <= maxLen) : Zh s [] w (.slice (some ⟨B, 0, none⟩) rows.length rows.length) rows := by
  have := RwB.part (L := []) (lo := 0) (n := rows.length) (c := rows.length) (o1 := 0) ⟨h0, hr, hm, h⟩ (by simp) (by simp) (Nat.le_refl _) (by omega)
  simpa using this
end Go.Proofs.YtbiboamaigedjaaGreatDoor
namespace Go.Proofs.YtbiboamaigedjaaGreatDoor
open Go.RowKit
set_option linter.unusedVariables false
set_option linter.unusedSimpArgs false
set_option maxRecDepth 8000
set_option maxHeartbeats 2000000

theorem QJ (l : List Int) (k : Nat) : l.getD k 0 = Qb l k := by simp [Qb]
theorem Zo {f g : Nat -> Int} {n i : Nat} {v : Int} (hi : i < n) (h1 : ∀ j, j < n -> j ≠ i -> g j = f j) (h2 : g i = v) : ((List.range n).map f).set i v = (List.range n).map g := by
  refine List.ext_getElem (by simp) fun j q1 q2 => ?_
  simp only [List.length_map, List.length_range] at q2
  rw [List.getElem_set]
  split
  . rename_i e; subst e; simp [h2]
  . rename_i e; simp [h1 j (by simpa using q2) (fun e' => e e'.symm)]
/-- The words of which k bytes have been read. -/
def ldW (za : List Int) (n k : Nat) : List Int := (List.range n).map fun j => Q0 za j (min 8 (k - 8 * j))
theorem V1 (za : List Int) (n k : Nat) : (ldW za n k).length = n := by simp [ldW]
theorem Qbv (za : List Int) (n : Nat) : ldW za n 0 = List.replicate n 0 := by
  unfold ldW
  refine List.ext_getElem (by simp) fun j q1 q2 => ?_
  simp [Q0]
theorem Qd2 (za : List Int) (n : Nat) : ldW za n (8 * n) = Ue za n := by
  unfold ldW Ue
  refine List.map_congr_left fun j hj => ?_
  rw [List.mem_range] at hj
  rw [Nat.min_eq_left (by omega)]
theorem Qbw {za : List Int} (hb : Qh za) {n k : Nat} (hk : k < 8 * n) : (ldW za n k).set (Int.toNat ((k : Int) / 8)) (bits .or .u64 ((ldW za n k).getD (Int.toNat ((k : Int) / 8)) 0) (IntKind.u64.wrap (za.getD (Int.toNat (k : Int)) 0 * 2 ^ Int.toNat (8 * ((k : Int) % 8))))) = ldW za n (k + 1) := by
  have e1 : Int.toNat ((k : Int) / 8) = k / 8 := by omega
  have e2 : Int.toNat (8 * ((k : Int) % 8)) = 8 * (k % 8) := by omega
  rw [e1, e2, Int.toNat_natCast, QJ, QJ]
  have hlt : k / 8 < n := by omega
  have e3 : Qb (ldW za n k) (k / 8) = Q0 za (k / 8) (k % 8) := by
    unfold ldW Qb
    rw [List.getElem?_map, List.getElem?_range hlt]
    simp only [Option.map_some, Option.getD_some]
    rw [show min 8 (k - 8 * (k / 8)) = k % 8 by omega]
  rw [e3, QdT _ _ _ (by omega) (KS za hb _ _ (by omega)) (hb.at k)]
  unfold ldW
  refine Zo hlt (fun j hj hne => ?_) ?_
  . congr 1; omega
  . rw [show min 8 (k + 1 - 8 * (k / 8)) = k % 8 + 1 by omega, Q0, show 8 * (k / 8) + k % 8 = k by omega]
theorem QaU {za : List Int} (hb : Qh za) (k : Nat) : 0 <= za.getD k 0 /\ za.getD k 0 < 18446744073709551616 := by
  have := hb.at k
  rw [QJ]; omega
theorem QdS : PV Tryz.prog gT 68 [] (.a .u64 Uv 4) := by
  have h : PV Tryz.prog gT 68 [] (.g [.i .u64 6346243789798364141, .i .u64 1503914060200516822, .i .u64 0, .i .u64 1152921504606846976]) := by
    refine PV.mk' Tryz.func68 rfl rfl rfl rfl fun w L hL hG => ?_
    refine S.enter Qw [] gT Tryz.func68 rfl rfl rfl (fun _ => rfl) hL hG ?_
    refine S.g false rfl ?_
    exact S.retv rfl rfl rfl rfl rfl
  exact h.res rfl rfl
set_option maxHeartbeats 1000000 in
theorem DF {za : List Int} (hb : Qh za) (hl : za.length = 32) : PV Tryz.prog gT 52 [.a .u8 za 32] (.a .u64 (Qn 4 (Qq za 32)) 4) := by
  rw [<- QdY za hb 4, <- Qd2 za 4]
  refine PV.mk' Tryz.func52 rfl rfl rfl rfl fun w L hL hG => ?_
  refine S.enter Qw [.a .u8 za 32] gT Tryz.func52 rfl rfl rfl (fun _ => rfl) hL hG ?_
  refine S.go false rfl (by repeat' (first | exact True.intro | refine And.intro ?_ ?_ | assumption | omega | (dsimp only; omega) | (simp only [Nat.add_eq, Nat.mul_eq, Nat.sub_eq, SV.wd]; omega) | exact rfl)) ?_
  refine S.recell 2 [.a .u64 (ldW za 4 0) 4] rfl (fun ρ => by rw [Qbv]; rfl) ⟨V1 za 4 0, trivial⟩ rfl ?_
  refine S.loop [2, 3, 6] (fun k : Nat => [(7, .i .i64 (k : Int))]) (fun k => [(1, [.i .u64 0, .i .u64 0, .i .u64 0, .i .u64 0]), (2, [.a .u64 (ldW za 4 k) 4])]) (fun _ => []) (fun k => k <= 32) (fun k => 32 - k) 0 rfl (fun _ => rfl) (fun _ => rfl) rfl ⟨⟨rfl, rfl⟩, trivial⟩ (by repeat' (first | exact True.intro | refine And.intro ?_ ?_ | exact V1 za 4 0 | exact rfl)) (fun _ _ _ => trivial) (by omega) fun J k hk again => ?_
  have hk' : k <= 32 := hk
  have hlen := V1 za 4 k
  have hlen' := V1 za 4 (k + 1)
  refine S.g false rfl ?_
  refine S.cond rfl (fun c => ?_) (fun c => ?_)
  . have c' : k < 32 := by omega
    have hr := QaU hb (Int.toNat (k : Int))
    refine S.go false rfl (by repeat' (first | exact True.intro | refine And.intro ?_ ?_ | assumption | omega | (dsimp only; omega) | (simp only [Nat.add_eq, Nat.mul_eq, Nat.sub_eq, SV.wd]; omega) | exact rfl)) ?_
    refine S.dr0 false rfl rfl rfl ?_ (by repeat' (first | exact True.intro | refine And.intro ?_ ?_ | assumption | omega | (dsimp only; omega) | (simp only [Nat.add_eq, Nat.mul_eq, Nat.sub_eq, SV.wd]; omega) | exact rfl))
    refine S.g false rfl ?_
    refine S.again (again (k + 1) (show k + 1 <= 32 by omega) (show 32 - (k + 1) < 32 - k by omega)) ⟨⟨rfl, by omega⟩, rfl, rfl, rfl, trivial⟩ ?_ rfl rfl (fun x hx => hx) rfl (fun ρ W h => h.hs)
    repeat' (first | exact True.intro | refine And.intro ?_ ?_ | exact congrArg (fun z => SV.a .u64 z 4) (Qbw hb (n := 4) (by omega)) | assumption | exact rfl)
  . obtain rfl : k = 32 := by omega
    refine S.go false rfl (by repeat' (first | exact True.intro | refine And.intro ?_ ?_ | assumption | omega | (dsimp only; omega) | (simp only [Nat.add_eq, Nat.mul_eq, Nat.sub_eq, SV.wd]; omega) | exact rfl)) ?_
    exact S.retv rfl rfl rfl rfl rfl
/-- Qh of words, as far as they have been told. -/
def btW (zs : List Int) (k : Nat) : List Int := (List.range 32).map fun i => if i < k then HW zs i else 0
theorem V7 (zs : List Int) (k : Nat) : (btW zs k).length = 32 := by simp [btW]
theorem QbV (zs : List Int) : btW zs 0 = List.replicate 32 0 := by
  unfold btW
  refine List.ext_getElem (by simp) fun j q1 q2 => ?_
  simp only [List.getElem_map, List.getElem_range, Nat.not_lt_zero, if_false, List.getElem_replicate]
theorem Qev (zs : List Int) : btW zs 32 = VK zs 32 := by
  unfold btW VK
  refine List.map_congr_left fun j hj => ?_
  rw [List.mem_range] at hj
  rw [if_pos hj]
theorem QbW {zs : List Int} {k : Nat} (hk : k < 32) : (btW zs k).set (Int.toNat (k : Int)) (IntKind.u8.wrap (zs.getD (Int.toNat ((k : Int) / 8)) 0 / 2 ^ Int.toNat (8 * ((k : Int) % 8)))) = btW zs (k + 1) := by
  have e1 : Int.toNat ((k : Int) / 8) = k / 8 := by omega
  have e2 : Int.toNat (8 * ((k : Int) % 8)) = 8 * (k % 8) := by omega
  rw [e1, e2, Int.toNat_natCast, QJ]
  refine Zo hk (fun j hj hne => ?_) ?_
  . by_cases h : j < k
    . rw [if_pos (by omega), if_pos h]
    . rw [if_neg (by omega), if_neg h]
  . rw [if_pos (by omega)]
    unfold HW
    rw [IntKind.wrap_u8']
set_option maxHeartbeats 1000000 in
theorem Qeu (v : Int) : PV Tryz.prog gT 43 [.a .u64 (Qn 4 v) 4] (.a .u8 (Xf v) 32) := by
  have hv : Xf v = btW (Qn 4 v) 32 := (Qev _).symm
  rw [hv]
  have hnl := Qc 4 v
  generalize Qn 4 v = zs at *
  refine PV.mk' Tryz.func43 rfl rfl rfl rfl fun w L hL hG => ?_
  refine S.enter Qw [.a .u64 zs 4] gT Tryz.func43 rfl rfl rfl (fun _ => rfl) hL hG ?_
  refine S.go false rfl (by repeat' (first | exact True.intro | refine And.intro ?_ ?_ | assumption | omega | (dsimp only; omega) | (simp only [Nat.add_eq, Nat.mul_eq, Nat.sub_eq, SV.wd]; omega) | exact rfl)) ?_
  refine S.recell 2 [.a .u8 (btW zs 0) 32] rfl (fun ρ => by rw [QbV]) ⟨V7 zs 0, trivial⟩ rfl ?_
  refine S.loop [1, 2, 3] (fun k : Nat => [(5, .i .i64 (k : Int))]) (fun k => [(0, [.a .u64 zs 4]), (1, [.a .u8 (List.replicate 32 0) 32]), (2, [.a .u8 (btW zs k) 32])]) (fun _ => []) (fun k => k <= 32) (fun k => 32 - k) 0 rfl (fun _ => rfl) (fun _ => rfl) rfl ⟨⟨rfl, rfl⟩, trivial⟩ (by repeat' (first | exact True.intro | refine And.intro ?_ ?_ | exact V7 zs 0 | assumption | exact rfl)) (fun _ _ _ => trivial) (by omega) fun J k hk again => ?_
  have hk' : k <= 32 := hk
  have hlen := V7 zs k
  have hlen' := V7 zs (k + 1)
  refine S.g false rfl ?_
  refine S.cond rfl (fun c => ?_) (fun c => ?_)
  . have c' : k < 32 := by omega
    refine S.gn 18 false rfl ?_ (by repeat' (first | exact True.intro | refine And.intro ?_ ?_ | assumption | omega | (dsimp only; omega) | (simp only [Nat.add_eq, Nat.mul_eq, Nat.sub_eq, SV.wd]; omega) | exact rfl))
    refine S.gn 1 true rfl ?_ (by repeat' (first | exact True.intro | refine And.intro ?_ ?_ | assumption | omega | (dsimp only; omega) | (simp only [Nat.add_eq, Nat.mul_eq, Nat.sub_eq, SV.wd]; omega) | exact rfl))
    refine S.g false rfl ?_
    refine S.again (again (k + 1) (show k + 1 <= 32 by omega) (show 32 - (k + 1) < 32 - k by omega)) ⟨⟨rfl, by omega⟩, rfl, rfl, rfl, trivial⟩ ?_ rfl rfl (fun x hx => hx) rfl (fun ρ W h => h.hs)
    repeat' (first | exact True.intro | refine And.intro ?_ ?_ | exact congrArg (fun z => SV.a .u8 z 32) (QbW c') | assumption | exact rfl)
  . obtain rfl : k = 32 := by omega
    refine S.go false rfl (by repeat' (first | exact True.intro | refine And.intro ?_ ?_ | assumption | omega | (dsimp only; omega) | (simp only [Nat.add_eq, Nat.mul_eq, Nat.sub_eq, SV.wd]; omega) | exact rfl)) ?_
    exact S.retv rfl rfl rfl rfl rfl
theorem QdA (x y b : Int) (hx : 0 <= x) (hy : 0 <= y) (hy1 : y < 18446744073709551616) (hb0 : 0 <= b) (hb : b <= 1) : PE Tryz.prog 107 [.i .u64 x, .i .u64 y, .i .u64 b] (.t [.i .u64 ((x - y - b) % 18446744073709551616), .i .u64 (bor x y b)]) := ⟨rfl, rfl, fun w => by
  show (callFunc 107 #[.int .u64 x, .int .u64 y, .int .u64 b]).run Tryz.prog w = _
  obtain ⟨x, rfl⟩ := Int.eq_ofNat_of_zero_le hx
  obtain ⟨y, rfl⟩ := Int.eq_ofNat_of_zero_le hy
  obtain ⟨b, rfl⟩ := Int.eq_ofNat_of_zero_le hb0
  have e1 : (((x + 18446744073709551616 - y - b) % 18446744073709551616 : Nat) : Int) = ((x : Int) - y - b) % 18446744073709551616 := by omega
  have e2 : ((if x < y + b then 1 else 0 : Nat) : Int) = bor x y b := by unfold bor; split <;> split <;> omega
  rw [<- e1, <- e2, run_callFunc_extern Tryz.func107 (by kernel_rfl) (by kernel_rfl) (by kernel_rfl) (e := sub64Entry) (by kernel_rfl), run_sub64 x y b (by omega)]
  rfl⟩
/-- A difference, as far as it has been reckoned. -/
def sbW (xs ys : List Int) (k : Nat) : List Int := (List.range 4).map fun j => if j < k then Qcl xs ys j else 0
theorem VW (xs ys : List Int) (k : Nat) : (sbW xs ys k).length = 4 := by simp [sbW]
theorem QdE (xs ys : List Int) : sbW xs ys 4 = Vs xs ys 4 := by
  unfold sbW Vs
  refine List.map_congr_left fun j hj => ?_
  rw [List.mem_range] at hj
  rw [if_pos hj]
theorem QaP {xs ys : List Int} {k : Nat} (hk : k < 4) : (sbW xs ys k).set (Int.toNat (k : Int)) ((xs.getD (Int.toNat (k : Int)) 0 - ys.getD (Int.toNat (k : Int)) 0 - KB xs ys k) % 18446744073709551616) = sbW xs ys (k + 1) := by
  rw [Int.toNat_natCast, QJ, QJ]
  refine Zo hk (fun j hj hne => ?_) ?_
  . by_cases h : j < k
    . rw [if_pos (by omega), if_pos h]
    . rw [if_neg (by omega), if_neg h]
  . rw [if_pos (by omega)]
    rfl
set_option maxHeartbeats 1000000 in
theorem Qhr {xs ys : List Int} (hx : QC xs) (hy : QC ys) (hl : xs.length = 4) (hm : ys.length = 4) : PV Tryz.prog gT 67 [.a .u64 xs 4, .a .u64 ys 4] (.t [.a .u64 (Vs xs ys 4) 4, .i .u64 (KB xs ys 4)]) := by
  rw [<- QdE]
  refine PV.mk' Tryz.func67 rfl rfl rfl rfl fun w L hL hG => ?_
  refine S.enter Qw [.a .u64 xs 4, .a .u64 ys 4] gT Tryz.func67 rfl rfl rfl (fun _ => rfl) hL hG ?_
  refine S.go false rfl (by repeat' (first | exact True.intro | refine And.intro ?_ ?_ | assumption | omega | (dsimp only; omega) | (simp only [Nat.add_eq, Nat.mul_eq, Nat.sub_eq, SV.wd]; omega) | exact rfl)) ?_
  refine S.recell 3 [.a .u64 (sbW xs ys 0) 4] rfl (fun ρ => rfl) ⟨VW xs ys 0, trivial⟩ rfl ?_
  refine S.loop [2, 3, 4, 6] (fun k : Nat => [(7, .i .u64 (KB xs ys k)), (9, .i .i64 (k : Int))]) (fun k => [(0, [.a .u64 xs 4]), (1, [.a .u64 ys 4]), (2, [.i .u64 0, .i .u64 0, .i .u64 0, .i .u64 0]), (3, [.a .u64 (sbW xs ys k) 4])]) (fun _ => []) (fun k => k <= 4) (fun k => 4 - k) 0 rfl (fun _ => rfl) (fun _ => rfl) rfl ⟨⟨rfl, rfl⟩, ⟨rfl, rfl⟩, trivial⟩ (by repeat' (first | exact True.intro | refine And.intro ?_ ?_ | exact VW xs ys 0 | assumption | exact rfl)) (fun _ _ _ => trivial) (by omega) fun J k hk again => ?_
  have hk' : k <= 4 := hk
  have hlen := VW xs ys k
  have hlen' := VW xs ys (k + 1)
  refine S.g false rfl ?_
  refine S.cond rfl (fun c => ?_) (fun c => ?_)
  . have c' : k < 4 := by omega
    have hb := HI xs ys k
    have h1 := hx.at k
    have h2 := hy.at k
    have e1 : xs.getD (Int.toNat (k : Int)) 0 = Qb xs k := by rw [Int.toNat_natCast, QJ]
    have e2 : ys.getD (Int.toNat (k : Int)) 0 = Qb ys k := by rw [Int.toNat_natCast, QJ]
    have hE := QdA (xs.getD (Int.toNat (k : Int)) 0) (ys.getD (Int.toNat (k : Int)) 0) (KB xs ys k) (by omega) (by omega) (by omega) hb.1 hb.2
    refine S.g false rfl ?_
    refine S.dre (G := gT) false [(8, .t [.i .u64 ((xs.getD (Int.toNat (k : Int)) 0 - ys.getD (Int.toNat (k : Int)) 0 - KB xs ys k) % 18446744073709551616), .i .u64 (bor (xs.getD (Int.toNat (k : Int)) 0) (ys.getD (Int.toNat (k : Int)) 0) (KB xs ys k))])] [] [8] rfl rfl rfl ?_ (by repeat' (first | exact True.intro | refine And.intro ?_ ?_ | assumption | omega | (dsimp only; omega) | (simp only [Nat.add_eq, Nat.mul_eq, Nat.sub_eq, SV.wd]; omega) | exact rfl))
    refine S.g false rfl ?_
    refine S.again (again (k + 1) (show k + 1 <= 4 by omega) (show 4 - (k + 1) < 4 - k by omega)) ⟨⟨rfl, by rw [e1, e2]; rfl⟩, ⟨rfl, by omega⟩, rfl, rfl, rfl, rfl, trivial⟩ ?_ rfl rfl (fun x hx => hx) rfl (fun ρ W h => h.hs)
    repeat' (first | exact True.intro | refine And.intro ?_ ?_ | exact congrArg (fun z => SV.a .u64 z 4) (QaP c') | assumption | exact rfl)
  . obtain rfl : k = 4 := by omega
    refine S.go false rfl (by repeat' (first | exact True.intro | refine And.intro ?_ ?_ | assumption | omega | (dsimp only; omega) | (simp only [Nat.add_eq, Nat.mul_eq, Nat.sub_eq, SV.wd]; omega) | exact rfl)) ?_
    exact S.rett rfl rfl rfl rfl rfl
theorem QmJ {xs : List Int} (hx : QC xs) (hl : xs.length = 4) : PV Tryz.prog gT 92 [.a .u64 xs 4] (.a .u64 (FV xs) 4) := by
  have h1 := QdS
  have h2 := Qhr hx YJ hl rfl
  have hb := HH xs Uv hx YJ 4
  have hsl : (Vs xs Uv 4).length = 4 := by simp [Vs]
  have hc : FV xs = if KB xs Uv 4 = 1 then xs else Vs xs Uv 4 := by
    unfold FV
    rw [hb]
    split <;> simp
  rw [hc]
  generalize KB xs Uv 4 = b at *
  generalize Vs xs Uv 4 = ds at *
  clear hb hc
  refine PV.mk' Tryz.func92 rfl rfl rfl rfl fun w L hL hG => ?_
  refine S.enter Qw [.a .u64 xs 4] gT Tryz.func92 rfl rfl rfl (fun _ => rfl) hL hG ?_
  refine S.go false rfl (by repeat' (first | exact True.intro | refine And.intro ?_ ?_ | assumption | omega | (dsimp only; omega) | (simp only [Nat.add_eq, Nat.mul_eq, Nat.sub_eq, SV.wd]; omega) | exact rfl)) ?_
  refine S.drp false [(1, .a .u64 Uv 4), (2, .t [.a .u64 ds 4, .i .u64 b])] rfl rfl rfl ?_ (by repeat' (first | exact True.intro | refine And.intro ?_ ?_ | assumption | omega | (dsimp only; omega) | (simp only [Nat.add_eq, Nat.mul_eq, Nat.sub_eq, SV.wd]; omega) | exact rfl))
  refine S.g false rfl ?_
  refine S.cond rfl (fun c => ?_) (fun c => ?_)
  . rw [if_pos c]
    refine S.go false rfl (by repeat' (first | exact True.intro | refine And.intro ?_ ?_ | assumption | omega | (dsimp only; omega) | (simp only [Nat.add_eq, Nat.mul_eq, Nat.sub_eq, SV.wd]; omega) | exact rfl)) ?_
    exact S.retv rfl rfl rfl rfl rfl
  . rw [if_neg c]
    refine S.go false rfl (by repeat' (first | exact True.intro | refine And.intro ?_ ?_ | assumption | omega | (dsimp only; omega) | (simp only [Nat.add_eq, Nat.mul_eq, Nat.sub_eq, SV.wd]; omega) | exact rfl)) ?_
    exact S.retv rfl rfl rfl rfl rfl
theorem QfC {xs : List Int} (hx : QC xs) (hl : xs.length = 4) {b : Int} (hb : 0 <= b /\ b <= 1) : PV Tryz.prog gT 91 [.a .u64 xs 4, .i .u64 b] (.a .u64 (Hj xs b) 4) := by
  have x0 := hx.at 0; have x1 := hx.at 1; have x2 := hx.at 2; have x3 := hx.at 3
  have e0 := D0 (Qb xs 0) b hb
  have e1 := D0 (Qb xs 1) (Qb xs 0 / 9223372036854775808) (by omega)
  have e2 := D0 (Qb xs 2) (Qb xs 1 / 9223372036854775808) (by omega)
  have e3 := D0 (Qb xs 3) (Qb xs 2 / 9223372036854775808) (by omega)
  have h : PV Tryz.prog gT 91 [.a .u64 xs 4, .i .u64 b] (.g [.i .u64 (bits .or .u64 (IntKind.u64.wrap (xs.getD 0 0 * 2 ^ Int.toNat 1)) b), .i .u64 (bits .or .u64 (IntKind.u64.wrap (xs.getD 1 0 * 2 ^ Int.toNat 1)) (xs.getD 0 0 / 2 ^ Int.toNat 63)), .i .u64 (bits .or .u64 (IntKind.u64.wrap (xs.getD 2 0 * 2 ^ Int.toNat 1)) (xs.getD 1 0 / 2 ^ Int.toNat 63)), .i .u64 (bits .or .u64 (IntKind.u64.wrap (xs.getD 3 0 * 2 ^ Int.toNat 1)) (xs.getD 2 0 / 2 ^ Int.toNat 63))]) := by
    refine PV.mk' Tryz.func91 rfl rfl rfl rfl fun w L hL hG => ?_
    refine S.enter Qw [.a .u64 xs 4, .i .u64 b] gT Tryz.func91 rfl rfl rfl (fun _ => rfl) hL hG ?_
    refine S.go false rfl (by repeat' (first | exact True.intro | refine And.intro ?_ ?_ | assumption | omega | (dsimp only; omega) | (simp only [Nat.add_eq, Nat.mul_eq, Nat.sub_eq, SV.wd]; omega) | exact rfl)) ?_
    exact S.retv rfl rfl rfl rfl rfl
  refine h.res ?_ rfl
  simp only [QJ, show Int.toNat 1 = 1 from rfl, show Int.toNat 63 = 63 from rfl, Int.reducePow]
  rw [e0, e1, e2, e3]
  rfl
end Go.Proofs.YtbiboamaigedjaaGreatDoor
