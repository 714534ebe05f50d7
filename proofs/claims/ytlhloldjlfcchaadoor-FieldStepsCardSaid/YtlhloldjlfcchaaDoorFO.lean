/- The laws' fixed fact. -/
import Derived.Test.YtlhloldjlfcchaaDoorFN
namespace Go.Proofs.YtlhloldjlfcchaaDoor
open Go.RowKit Go.Shelf
set_option linter.unusedVariables false
set_option maxRecDepth 8000

section
variable {P : Program} {ops : Array Oper} {o : Oper} {a : Act} {w : World}
theorem wpList_val {rest : List Oper} {Q : Exit → Act → World → Prop} {v : Value} (hd : ∀ R : Value → World → Prop, R v w → Does P ops o a w R) (h : wpList P ops Q rest (a.put o.dst v) w) : wpList P ops Q (o :: rest) a w :=
  wpList_does (hd (fun v' w' => v' = v ∧ w' = w) ⟨rfl, rfl⟩) fun v' w' h' => by rw [h'.1, h'.2]; exact h
end
def unit32 (x : Int) : List Int := x :: List.replicate 31 0
theorem built_zero : Tryd.prog.built 22 [] = some ((unit32 0).map (Value.int .u8)).toArray := by kernel_rfl
theorem built_unit (x : Int) : Tryd.prog.built 22 [(0, .int .u8 x)] = some ((unit32 x).map (Value.int .u8)).toArray := by kernel_rfl
theorem unit32_length (x : Int) : (unit32 x).length = 32 := rfl
set_option maxHeartbeats 4000000 in
theorem alive_v (w : World) (hT : Tab w) : Calls Tryd.prog 10 #[] w fun e w' => e = .returned (.bool true) ∧ Below w.heap.size w w' := by
  have H4 : ∀ W, Tab W → Calls Tryd.prog 25 #[aggI .u8 (unit32 4)] W fun e w' => e = .returned (.tuple #[aggI .u8 (unit32 2), .bool true]) ∧ Below W.heap.size W w' := by
    intro W hW
    have h := root_v (unit32 4) W (by unfold Bytes; decide +kernel) rfl hW
    rw [show valB (unit32 4) 32 % pV = 4 by decide +kernel, root_4.1, root_4.2, show numB 2 = unit32 2 by decide +kernel] at h
    exact h
  have H2 : ∀ W, Tab W → Calls Tryd.prog 25 #[aggI .u8 (unit32 2)] W fun e w' => e = .returned (.tuple #[aggI .u8 (unit32 0), .bool false]) ∧ Below W.heap.size W w' := by
    intro W hW
    have h := root_v (unit32 2) W (by unfold Bytes; decide +kernel) rfl hW
    rw [show valB (unit32 2) 32 % pV = 2 by decide +kernel, root_2.1, root_2.2, show numB 0 = unit32 0 by decide +kernel] at h
    exact h
  have HR : ∀ W, Calls Tryd.prog 15 #[aggI .u8 (numB pV)] W fun e w' => e = .returned (aggI .u8 (unit32 0)) ∧ Below W.heap.size W w' := by
    intro W
    have h := reduce_v (numB pV) W (numB_bytes _) (numB_length _)
    rw [valB_numB pV pV_lt.1 pV_lt.2, Int.emod_self, show numB 0 = unit32 0 by decide +kernel] at h
    exact h
  have HA : ∀ W, Calls Tryd.prog 11 #[aggI .u8 (numB pV), aggI .u8 (unit32 1)] W fun e w' => e = .returned (aggI .u8 (unit32 1)) ∧ Below W.heap.size W w' := by
    intro W
    have h := add_v (numB pV) (unit32 1) W (numB_bytes _) (by unfold Bytes; decide +kernel) (numB_length _) rfl
    rw [valB_numB pV pV_lt.1 pV_lt.2, show numB ((pV + valB (unit32 1) 32) % pV) = unit32 1 by decide +kernel] at h
    exact h
  have HM : ∀ W, Calls Tryd.prog 19 #[aggI .u8 (unit32 3), aggI .u8 (unit32 5)] W fun e w' => e = .returned (aggI .u8 (unit32 15)) ∧ Below W.heap.size W w' := by
    intro W
    have h := mul_v (unit32 3) (unit32 5) W (by unfold Bytes; decide +kernel) (by unfold Bytes; decide +kernel) rfl rfl
    rw [show numB ((valB (unit32 3) 32 * valB (unit32 5) 32) % pV) = unit32 15 by decide +kernel] at h
    exact h
  have HF : ∀ W, Calls Tryd.prog 17 #[aggI .u8 (numB pV)] W fun e w' => e = .returned (.bool false) ∧ Below W.heap.size W w' := by
    intro W
    have h := fright_v (numB pV) W (numB_bytes _) (numB_length _)
    rw [valB_numB pV pV_lt.1 pV_lt.2, decide_eq_false (by omega)] at h
    exact h
  go_enter Tryd.func10, Tryd.ntmps10
  go_wp2_with (first
    | (go_at_call 28; refine (ref_P_v _).mono ?_; rintro e w1 ⟨rfl, b1⟩)
    | (go_at_call 27; refine (ref_bytes_v pV _).mono ?_; rintro e w2 ⟨rfl, b2⟩; have c2 := below_then b1 b2)
    | (with_reducible refine at_op (o := ⟨some 1, _, _, _, _, _⟩) ?_; refine wpList_allocI rfl 22 rfl .u8 32 zero_a32 ?_; intro w3 A3 s3 b3; have c3 := below_then c2 b3)
    | (with_reducible refine at_op (o := ⟨_, .store 22 (.tmp 1) _, _, _, _, _⟩) ?_; refine wpList_storeI rfl 22 _ _ rfl 32 info_a32 (w2.heap.size) rfl .u8 _ (numB pV) rfl (A3) (rfl) (numB_length _) ?_; intro D3; have z2 := c2.size; have d3 := Below.setRow c3 (g := w2.heap.size) (by omega) ((numB pV).map (Value.int .u8)).toArray; have T3 := hT.below d3)
    | (with_reducible refine at_op (o := ⟨some 9, _, _, _, _, _⟩) ?_; go_loud (refine wpList_val (fun R hR => Does.buildI rfl 22 _ rfl .u8 (unit32 4) _ (built_unit 4) rfl hR) ?_))
    | (with_reducible refine at_op (o := ⟨some 14, _, _, _, _, _⟩) ?_; go_loud (refine wpList_val (fun R hR => Does.buildI rfl 22 _ rfl .u8 (unit32 2) _ (built_unit 2) rfl hR) ?_))
    | (go_at_call 25; first | ((with_reducible refine (H4 _ T3).mono ?_); rintro e w4 ⟨rfl, b4⟩; have c4 := below_then d3 b4; have D4 := D3.below b4; have z4 := c4.size; have y4 := D4.lt) | ((with_reducible refine (H2 _ T5).mono ?_); rintro e w6 ⟨rfl, b6⟩; have c6 := below_then d5 b6; have D6 := D5.below b6; have E6 := E5.below b6; have z6 := c6.size; have y6 := D6.lt; have x6 := E6.lt))
    | (with_reducible refine at_op (o := ⟨some 2, _, _, _, _, _⟩) ?_; refine wpList_allocI rfl 22 rfl .u8 32 zero_a32 ?_; intro w5 A5 s5 b5; have c5 := below_then c4 b5; have F5 := D4.below b5)
    | (with_reducible refine at_op (o := ⟨_, .store 22 (.tmp 2) _, _, _, _, _⟩) ?_; refine wpList_storeI rfl 22 _ _ rfl 32 info_a32 (w4.heap.size) rfl .u8 _ (unit32 2) rfl (A5) (rfl) (rfl) ?_; intro E5; have D5 := F5.rowOther (B' := w4.heap.size) (by omega) ((unit32 2).map (Value.int .u8)).toArray; have d5 := Below.setRow c5 (g := w4.heap.size) (by omega) ((unit32 2).map (Value.int .u8)).toArray; have T5 := hT.below d5)
    | (with_reducible refine at_op (o := ⟨some 4, _, _, _, _, _⟩) ?_; refine wpList_allocI rfl 22 rfl .u8 32 zero_a32 ?_; intro w7 A7 s7 b7; have c7 := below_then c6 b7; have F7 := D6.below b7; have G7 := E6.below b7)
    | (with_reducible refine at_op (o := ⟨_, .store 22 (.tmp 4) _, _, _, _, _⟩) ?_; refine wpList_storeI rfl 22 _ _ rfl 32 info_a32 (w6.heap.size) rfl .u8 _ (unit32 0) rfl (A7) (rfl) (rfl) ?_; intro _E7; have D7 := F7.rowOther (B' := w6.heap.size) (by omega) ((unit32 0).map (Value.int .u8)).toArray; have E7 := G7.rowOther (B' := w6.heap.size) (by omega) ((unit32 0).map (Value.int .u8)).toArray; have d7 := Below.setRow c7 (g := w6.heap.size) (by omega) ((unit32 0).map (Value.int .u8)).toArray)
    | (with_reducible refine at_op (o := ⟨some 18, _, _, _, _, _⟩) ?_; refine wpList_val (fun R hR => Does.loadI rfl 22 _ rfl 32 5 und_a32 info_a32 (w2.heap.size) rfl .u8 (numB pV) (D7) (numB_length _) hR) ?_)
    | (go_at_call 15; refine (HR _).mono ?_; rintro e w8 ⟨rfl, b8⟩; have D8 := D7.below b8; have E8 := E7.below b8; have c8 := below_then d7 b8)
    | (with_reducible refine at_op (o := ⟨some 20, _, _, _, _, _⟩) ?_; go_loud (refine wpList_val (fun R hR => Does.buildI rfl 22 _ rfl .u8 (unit32 0) _ (built_zero) rfl hR) ?_))
    | (with_reducible refine at_op (o := ⟨some 21, _, _, _, _, _⟩) ?_; refine wpList_val (fun R hR => Does.eqlI rfl 22 _ 5 _ _ rfl 32 und_a32 .u8 .u8 Tryd.underlying5 (by kernel_rfl) (by kernel_rfl) (unit32 0) (unit32 0) rfl rfl (rfl) (rfl) true (by simp) hR) ?_)
    | (with_reducible refine at_op (o := ⟨some 23, _, _, _, _, _⟩) ?_; refine wpList_val (fun R hR => Does.loadI rfl 22 _ rfl 32 5 und_a32 info_a32 (w2.heap.size) rfl .u8 (numB pV) (D8) (numB_length _) hR) ?_)
    | (with_reducible refine at_op (o := ⟨some 24, _, _, _, _, _⟩) ?_; go_loud (refine wpList_val (fun R hR => Does.buildI rfl 22 _ rfl .u8 (unit32 1) _ (built_unit 1) rfl hR) ?_))
    | (go_at_call 11; refine (HA _).mono ?_; rintro e w9 ⟨rfl, b9⟩; have D9 := D8.below b9; have E9 := E8.below b9; have c9 := below_then c8 b9)
    | (with_reducible refine at_op (o := ⟨some 26, _, _, _, _, _⟩) ?_; go_loud (refine wpList_val (fun R hR => Does.buildI rfl 22 _ rfl .u8 (unit32 1) _ (built_unit 1) rfl hR) ?_))
    | (with_reducible refine at_op (o := ⟨some 27, _, _, _, _, _⟩) ?_; refine wpList_val (fun R hR => Does.eqlI rfl 22 _ 5 _ _ rfl 32 und_a32 .u8 .u8 Tryd.underlying5 (by kernel_rfl) (by kernel_rfl) (unit32 1) (unit32 1) rfl rfl (rfl) (rfl) true (by simp) hR) ?_)
    | (with_reducible refine at_op (o := ⟨some 33, _, _, _, _, _⟩) ?_; refine wpList_val (fun R hR => Does.loadI rfl 22 _ rfl 32 5 und_a32 info_a32 (w4.heap.size) rfl .u8 (unit32 2) (E9) (rfl) hR) ?_)
    | (with_reducible refine at_op (o := ⟨some 34, _, _, _, _, _⟩) ?_; go_loud (refine wpList_val (fun R hR => Does.buildI rfl 22 _ rfl .u8 (unit32 2) _ (built_unit 2) rfl hR) ?_))
    | (with_reducible refine at_op (o := ⟨some 35, _, _, _, _, _⟩) ?_; refine wpList_val (fun R hR => Does.eqlI rfl 22 _ 5 _ _ rfl 32 und_a32 .u8 .u8 Tryd.underlying5 (by kernel_rfl) (by kernel_rfl) (unit32 2) (unit32 2) rfl rfl (rfl) (rfl) true (by simp) hR) ?_)
    | (with_reducible refine at_op (o := ⟨some 42, _, _, _, _, _⟩) ?_; go_loud (refine wpList_val (fun R hR => Does.buildI rfl 22 _ rfl .u8 (unit32 3) _ (built_unit 3) rfl hR) ?_))
    | (with_reducible refine at_op (o := ⟨some 43, _, _, _, _, _⟩) ?_; go_loud (refine wpList_val (fun R hR => Does.buildI rfl 22 _ rfl .u8 (unit32 5) _ (built_unit 5) rfl hR) ?_))
    | (go_at_call 19; refine (HM _).mono ?_; rintro e w10 ⟨rfl, b10⟩; have DX := D9.below b10; have cX := below_then c9 b10)
    | (with_reducible refine at_op (o := ⟨some 45, _, _, _, _, _⟩) ?_; go_loud (refine wpList_val (fun R hR => Does.buildI rfl 22 _ rfl .u8 (unit32 15) _ (built_unit 15) rfl hR) ?_))
    | (with_reducible refine at_op (o := ⟨some 46, _, _, _, _, _⟩) ?_; refine wpList_val (fun R hR => Does.eqlI rfl 22 _ 5 _ _ rfl 32 und_a32 .u8 .u8 Tryd.underlying5 (by kernel_rfl) (by kernel_rfl) (unit32 15) (unit32 15) rfl rfl (rfl) (rfl) true (by simp) hR) ?_)
    | (with_reducible refine at_op (o := ⟨some 49, _, _, _, _, _⟩) ?_; refine wpList_val (fun R hR => Does.loadI rfl 22 _ rfl 32 5 und_a32 info_a32 (w2.heap.size) rfl .u8 (numB pV) (DX) (numB_length _) hR) ?_)
    | (go_at_call 17; refine (HF _).mono ?_; rintro e w11 ⟨rfl, b11⟩))
  go_ret
  exact ⟨rfl, below_then cX b11⟩
end Go.Proofs.YtlhloldjlfcchaaDoor
