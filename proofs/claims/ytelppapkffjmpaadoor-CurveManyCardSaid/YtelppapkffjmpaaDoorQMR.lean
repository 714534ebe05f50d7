/- alive of layer 10. -/
import Derived.Test.YtelppapkffjmpaaDoorQMQ
namespace Go.Proofs.YtelppapkffjmpaaDoor
open Go.RowKit Go.Shelf
set_option linter.unusedVariables false
set_option maxRecDepth 8000

set_option maxHeartbeats 2000000 in
theorem alive_walk (bu0 bb bu1 bu2 : List Int) (w : World) (hT : TabD w)
    (l_bu0 : bu0.length = 32) (l_bb : bb.length = 32) (l_bu1 : bu1.length = 32) (l_bu2 : bu2.length = 32)
    (h_bb_at0 : at0 bb 0 = 88)
    (h_bb_at1 : at0 bb 1 = 102)
    (h_bb_at31 : at0 bb 31 = 102)
    (hbu0 : Tryd.prog.built 22 [(0, .int .u8 1)] = some (bu0.map (Value.int .u8)).toArray)
    (hbu1 : Tryd.prog.built 22 [] = some (bu1.map (Value.int .u8)).toArray)
    (hbu2 : Tryd.prog.built 22 [(0, .int .u8 2)] = some (bu2.map (Value.int .u8)).toArray)
    (H0 : ∀ W, TabD W → Ret 19 #[aggI .u8 bu0] (aggI .u8 bb) W)
    (H1 : ∀ W, TabD W → Ret 19 #[aggI .u8 bu1] (aggI .u8 bu0) W)
    (H2 : ∀ W, TabD W → Ret 15 #[aggI .u8 bb] (.bool true) W)
    (H3 : ∀ W, TabD W → Ret 15 #[aggI .u8 bu2] (.bool false) W) :
    Calls Tryd.prog 10 #[] w fun e w' => e = .returned (.bool true) ∧ Below w.heap.size w w' := by
  go_enter Tryd.func10, Tryd.ntmps10
  go_wp2_with (first
      | (with_reducible refine at_n 2 ?_; go_loud (refine wpList_val' (fun R hR => Does.buildI rfl 22 _ rfl .u8 (bu0) _ (hbu0) rfl hR) ?_))
      | (with_reducible refine at_n 1 ?_; refine wpList_allocI rfl 22 rfl .u8 32 zero_a32 ?_; intro w2 A1 s2 b2; replace BB := below_then BB b2; have y2 := BB.size)
      | (with_reducible refine at_op (o := ⟨_, .store 22 (.tmp 1) _, _, _, _, _⟩) ?_; refine wpList_storeI rfl 22 _ _ rfl 32 info_a32 (w1.heap.size) rfl .u8 _ (bb) rfl (A1) (rfl) (l_bb) ?_; intro D3; replace BB := Below.setRow BB (g := w1.heap.size) (by omega) ((bb).map (Value.int .u8)).toArray; clear A1; have A1 := D3)
      | (with_reducible refine at_n 5 ?_; refine wpList_val' (fun R hR => Does.loadC rfl 5 _ rfl _ Tryd.underlying5 rfl (w1.heap.size) 0 rfl .u8 (bb) (A1) (by rw [l_bb]; decide) (h_bb_at0) hR) ?_)
      | (with_reducible refine at_n 9 ?_; refine wpList_val' (fun R hR => Does.loadC rfl 5 _ rfl _ Tryd.underlying5 rfl (w1.heap.size) 1 rfl .u8 (bb) (A1) (by rw [l_bb]; decide) (h_bb_at1) hR) ?_)
      | (with_reducible refine at_n 14 ?_; refine wpList_val' (fun R hR => Does.loadC rfl 5 _ rfl _ Tryd.underlying5 rfl (w1.heap.size) 31 rfl .u8 (bb) (A1) (by rw [l_bb]; decide) (h_bb_at31) hR) ?_)
      | (with_reducible refine at_n 18 ?_; go_loud (refine wpList_val' (fun R hR => Does.buildI rfl 22 _ rfl .u8 (bu1) _ (hbu1) rfl hR) ?_))
      | (with_reducible refine at_n 20 ?_; go_loud (refine wpList_val' (fun R hR => Does.buildI rfl 22 _ rfl .u8 (bu0) _ (hbu0) rfl hR) ?_))
      | (with_reducible refine at_n 21 ?_; refine wpList_val' (fun R hR => Does.eqlI rfl 22 _ 5 _ _ rfl 32 und_a32 .u8 .u8 Tryd.underlying5 (by kernel_rfl) (by kernel_rfl) (bu0) (bu0) rfl rfl (l_bu0) (l_bu0) true (by simp) hR) ?_)
      | (with_reducible refine at_n 24 ?_; refine wpList_val' (fun R hR => Does.loadM rfl 22 _ rfl 32 _ und_a32 rfl info_a32 (w1.heap.size) 0 rfl .u8 (bb) (A1) (by omega) (sl_all l_bb) hR) ?_)
      | (with_reducible refine at_n 28 ?_; go_loud (refine wpList_val' (fun R hR => Does.buildI rfl 22 _ rfl .u8 (bu2) _ (hbu2) rfl hR) ?_))
      | (go_at_call 19; first | ((with_reducible refine (H0 _ hT).mono ?_); rintro e w1 ⟨rfl, b1⟩; have BB := b1; have z1 := BB.size) | ((with_reducible refine (H1 _ (hT.below BB)).mono ?_); rintro e w4 ⟨rfl, b4⟩; replace A1 := A1.below b4; replace BB := below_then BB b4; have z4 := BB.size))
      | (go_at_call 15; first | ((with_reducible refine (H2 _ (hT.below BB)).mono ?_); rintro e w5 ⟨rfl, b5⟩; replace A1 := A1.below b5; replace BB := below_then BB b5; have z5 := BB.size) | ((with_reducible refine (H3 _ (hT.below BB)).mono ?_); rintro e w6 ⟨rfl, b6⟩; replace A1 := A1.below b6; replace BB := below_then BB b6; have z6 := BB.size)))
  go_ret
  exact ⟨rfl, BB⟩
theorem built_one : Tryd.prog.built 22 [(0, .int .u8 1)] = some (one32.map (Value.int .u8)).toArray := by kernel_rfl
theorem built_two : Tryd.prog.built 22 [(0, .int .u8 2)] = some (two32.map (Value.int .u8)).toArray := by kernel_rfl
theorem base32_b : Bytes base32 := bytes_dec (by decide)
theorem two32_b : Bytes two32 := bytes_dec (by decide)
theorem alive_v (w : World) (hT : TabD w) : Calls Tryd.prog 10 #[] w fun e w' => e = .returned (.bool true) ∧ Below w.heap.size w w' :=
  alive_walk (hT := hT) (l_bu0 := rfl) (l_bb := rfl) (l_bu1 := rfl) (l_bu2 := rfl) (h_bb_at0 := rfl) (h_bb_at1 := rfl) (h_bb_at31 := rfl) (hbu0 := built_one) (hbu1 := built_a32z) (hbu2 := built_two) (H0 := base_one) (H1 := base_none) (H2 := right_yes base32_b rfl base32_is) (H3 := right_not two32_b rfl two_not)
end Go.Proofs.YtelppapkffjmpaaDoor
