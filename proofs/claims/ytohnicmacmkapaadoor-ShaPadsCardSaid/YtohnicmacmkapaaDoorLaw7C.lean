/- ShaPads. -/
import Derived.Test.YtohnicmacmkapaaDoorLaw7A
import Derived.Test.YtohnicmacmkapaaDoorShaJ
namespace Go.Proofs.YtohnicmacmkapaaDoor
open Go.RowKit
set_option linter.unusedVariables false
set_option maxRecDepth 8000

set_option maxHeartbeats 1000000 in
theorem pads_v (n wd : Int) (v : Value) (zs : List Int) (w : World) (hT : TabS w) (hn : -9223372036854775808 ≤ n ∧ n ≤ 9223372036854775807) (hw : -9223372036854775808 ≤ wd ∧ wd ≤ 9223372036854775807) (rz : RdI .u8 w v zs) (hz : Bytes zs) :
    Calls Tryd.prog 5 #[.int .i64 n, .int .i64 wd, v] w fun e w' => e = .returned (.bool true) ∧ Below w.heap.size w w' := by
  have rz0 := rz
  obtain ⟨az, cz, rfl, hlz, hmz, -, -⟩ := rz0
  unfold maxLen at hmz
  have hP := fun W => padded_v n wd W hn hw
  have hR := fun W => ref_padded_v n wd W hn hw
  generalize padded n wd = pd at *
  replace hP := Lib.hid hP
  replace hR := Lib.hid hR
  by_cases h1 : zs.length ≤ 3000
  case neg =>
    go_enter Tryd.func5, Tryd.ntmps5
    go_wp2_with (first
      | (go_at_call 7; (with_reducible refine (alive_v w hT).mono ?_); rintro e w2 ⟨rfl, B⟩))
    all_goals go_ret
    all_goals first | exact ⟨rfl, B⟩ | omega
  have ju := str_eq_yes (rfl : strOfNums (hexL zs) = strOfNums (hexL zs))
  have hA := fun W V r => hex_v V zs W r hz (by omega)
  have hB := fun W V r => ref_hex_v V zs W r hz (by omega)
  generalize strOfNums (hexL zs) = SA at *
  replace hA := Lib.hid hA
  replace hB := Lib.hid hB
  go_enter Tryd.func5, Tryd.ntmps5
  go_wp2_with (first
    | (go_at_call 7; (with_reducible refine (alive_v w hT).mono ?_); rintro e w2 ⟨rfl, B⟩; replace rz := rz.below B)
    | (go_at_call 14; (with_reducible refine (hP.out _).mono ?_); rintro e w3 ⟨rfl, rfl⟩)
    | (go_at_call 15; (with_reducible refine (hR.out _).mono ?_); rintro e w4 ⟨rfl, rfl⟩)
    | (go_at_call 16; (with_reducible refine (hA.out _ _ rz).mono ?_); rintro e w5 ⟨rfl, b5⟩; replace rz := rz.below b5; replace B := below_then B b5)
    | (go_at_call 17; (with_reducible refine (hB.out _ _ rz).mono ?_); rintro e w6 ⟨rfl, b6⟩; replace B := below_then B b6))
  all_goals go_ret
  exact ⟨rfl, B⟩
end Go.Proofs.YtohnicmacmkapaaDoor
