/- The laws' fixed fact. -/
import Derived.Test.YteocdjgdljfpdaaMulAdd
import Derived.Test.YteocdjgdljfpdaaNeg
import Derived.Test.YteocdjgdljfpdaaRMul
import Derived.Test.YteocdjgdljfpdaaRNeg
import Derived.Test.YteocdjgdljfpdaaRed2
namespace Go.Proofs.Yteocdjgdljfpdaa
open Go.RowKit Go.Shelf
set_option linter.unusedVariables false
set_option maxRecDepth 8000

section
variable {P : Program} {ops : Array Oper} {o : Oper} {a : Act} {w : World}
theorem wpList_val {rest : List Oper} {Q : Exit → Act → World → Prop} {v : Value} (hd : ∀ R : Value → World → Prop, R v w → Does P ops o a w R) (h : wpList P ops Q rest (a.put o.dst v) w) : wpList P ops Q (o :: rest) a w :=
  wpList_does (hd (fun v' w' => v' = v ∧ w' = w) ⟨rfl, rfl⟩) fun v' w' h' => by rw [h'.1, h'.2]; exact h
end
theorem built_zero : Try.prog.built 23 [] = some ((List.replicate 32 (0 : Int)).map (Value.int .u8)).toArray := by kernel_rfl
def unit32 (x : Int) : List Int := x :: List.replicate 31 0
theorem built_unit (x : Int) : Try.prog.built 23 [(0, .int .u8 x)] = some ((unit32 x).map (Value.int .u8)).toArray := by kernel_rfl
theorem unit32_length (x : Int) : (unit32 x).length = 32 := rfl
theorem wideS_length (zs : List Int) : (wideS zs).length = 64 := by simp [wideS]
theorem at0_wideS (zs : List Int) (j : Nat) (h : j < 64) : at0 (wideS zs) j = at0 zs j := by
  simp only [wideS, at0, List.getElem?_map, List.getElem?_range h]; rfl
theorem wideS_bytes {zs : List Int} (h : Bytes zs) : Bytes (wideS zs) := by
  intro x hx
  simp only [wideS, List.mem_map] at hx
  obtain ⟨k, _, rfl⟩ := hx
  exact h.at k
theorem valB_wide (zs : List Int) (hl : zs.length = 32) : valB (wideS zs) 64 = valB zs 32 := by
  have h1 : ∀ m, m ≤ 32 → valB (wideS zs) m = valB zs m := by
    intro m
    induction m with
    | zero => intro _; rfl
    | succ m ih => intro h; simp only [valB]; rw [ih (by omega), at0_wideS zs m (by omega)]
  have h2 : ∀ m, m ≤ 32 → valB (wideS zs) (32 + m) = valB zs 32 := by
    intro m
    induction m with
    | zero => intro _; exact h1 32 (Nat.le_refl _)
    | succ m ih =>
      intro h
      have e : at0 zs (32 + m) = 0 := by simp [at0, hl]
      rw [show 32 + (m + 1) = 32 + m + 1 by omega]
      rw [valB.eq_2, ih (by omega), at0_wideS zs _ (by omega), e, Int.zero_mul, Int.add_zero]
  exact h2 32 (Nat.le_refl _)

set_option maxHeartbeats 4000000 in
theorem alive_v (w : World) : Calls Try.prog 7 #[] w fun e w' => e = .returned (.bool true) ∧ Below w.heap.size w w' := by
  have HR : ∀ W, Calls Try.prog 8 #[aggI .u8 (wideS (numB ordV))] W fun e w' => e = .returned (aggI .u8 (List.replicate 32 0)) ∧ Below W.heap.size W w' := by
    intro W
    have h := reduce_v (wideS (numB ordV)) W (wideS_bytes (numB_bytes _)) (wideS_length _)
    rw [valB_wide _ (numB_length _), valB_numB ordV ordV_lt.1 ordV_lt.2, Int.emod_self, show numB 0 = List.replicate 32 0 by decide +kernel] at h
    exact h
  have HM : ∀ W, Calls Try.prog 16 #[aggI .u8 (unit32 2), aggI .u8 (unit32 3), aggI .u8 (unit32 4)] W fun e w' => e = .returned (aggI .u8 (unit32 10)) ∧ Below W.heap.size W w' := by
    intro W
    have h := muladd_v (unit32 2) (unit32 3) (unit32 4) W (by unfold Bytes; decide +kernel) (by unfold Bytes; decide +kernel) (by unfold Bytes; decide +kernel) rfl rfl rfl
    rw [show numB ((valB (unit32 4) 32 + valB (unit32 2) 32 * valB (unit32 3) 32) % ordV) = unit32 10 by decide +kernel] at h
    exact h
  have H1 : ∀ W, Calls Try.prog 10 #[aggI .u8 (numB ordV)] W fun e w' => e = .returned (.bool false) ∧ Below W.heap.size W w' := by
    intro W
    have h := right_any (numB ordV) W (numB_bytes _) (numB_length _)
    rw [show ltL (numB ordV) = false by decide +kernel] at h
    exact h
  have H2 : ∀ W, Calls Try.prog 10 #[aggI .u8 (unit32 5)] W fun e w' => e = .returned (.bool true) ∧ Below W.heap.size W w' := by
    intro W
    have h := right_any (unit32 5) W (by unfold Bytes; decide +kernel) rfl
    rw [show ltL (unit32 5) = true by decide +kernel] at h
    exact h
  go_enter Try.func7, Try.ntmps7
  go_wp2_with (first
    | (go_at_call 20; refine (ref_L_v _).mono ?_; rintro e w1 ⟨rfl, b1⟩)
    | (go_at_call 19; refine (ref_bytes_v ordV _).mono ?_; rintro e w2 ⟨rfl, b2⟩)
    | (with_reducible refine at_op (o := ⟨some 1, _, _, _, _, _⟩) ?_; refine wpList_allocI rfl 23 rfl .u8 32 zero_a32 ?_; intro w3 A3 s3 b3)
    | (with_reducible refine at_op (o := ⟨_, .store 23 _ _, _, _, _, _⟩) ?_; refine wpList_storeI rfl 23 _ _ rfl 32 info_a32 (w2.heap.size) rfl .u8 _ (numB ordV) rfl (A3) (rfl) (numB_length _) ?_; intro D; have hbel := Below.setRow (below_then (below_then b1 b2) b3) (g := w2.heap.size) (by have := b1.size; have := b2.size; omega) ((numB ordV).map (Value.int .u8)).toArray)
    | (with_reducible refine at_op (o := ⟨some 4, _, _, _, _, _⟩) ?_; refine wpList_val (fun R hR => Does.loadI rfl 23 _ rfl 32 5 und_a32 info_a32 (w2.heap.size) rfl .u8 (numB ordV) (D) (numB_length _) hR) ?_)
    | (go_at_call 18; refine (wide_any (numB ordV) _ (numB_length _)).mono ?_; rintro e w4 ⟨rfl, b4⟩; have D4 := D.below b4)
    | (go_at_call 8; refine (HR _).mono ?_; rintro e w5 ⟨rfl, b5⟩; have D5 := D4.below b5)
    | (with_reducible refine at_op (o := ⟨some 7, _, _, _, _, _⟩) ?_; go_loud (refine wpList_val (fun R hR => Does.buildI rfl 23 _ rfl .u8 (List.replicate 32 0) _ (built_zero) rfl hR) ?_))
    | (with_reducible refine at_op (o := ⟨some 8, _, _, _, _, _⟩) ?_; refine wpList_val (fun R hR => Does.eqlI rfl 23 _ 5 _ _ rfl 32 und_a32 .u8 .u8 Try.underlying5 (by kernel_rfl) (by kernel_rfl) (List.replicate 32 0) (List.replicate 32 0) rfl rfl (rfl) (rfl) true (by simp) hR) ?_)
    | (with_reducible refine at_op (o := ⟨some 10, _, _, _, _, _⟩) ?_; go_loud (refine wpList_val (fun R hR => Does.buildI rfl 23 _ rfl .u8 (unit32 2) _ (built_unit 2) rfl hR) ?_))
    | (with_reducible refine at_op (o := ⟨some 11, _, _, _, _, _⟩) ?_; go_loud (refine wpList_val (fun R hR => Does.buildI rfl 23 _ rfl .u8 (unit32 3) _ (built_unit 3) rfl hR) ?_))
    | (with_reducible refine at_op (o := ⟨some 12, _, _, _, _, _⟩) ?_; go_loud (refine wpList_val (fun R hR => Does.buildI rfl 23 _ rfl .u8 (unit32 4) _ (built_unit 4) rfl hR) ?_))
    | (go_at_call 16; refine (HM _).mono ?_; rintro e w6 ⟨rfl, b6⟩; have D6 := D5.below b6)
    | (with_reducible refine at_op (o := ⟨some 14, _, _, _, _, _⟩) ?_; go_loud (refine wpList_val (fun R hR => Does.buildI rfl 23 _ rfl .u8 (unit32 10) _ (built_unit 10) rfl hR) ?_))
    | (with_reducible refine at_op (o := ⟨some 15, _, _, _, _, _⟩) ?_; refine wpList_val (fun R hR => Does.eqlI rfl 23 _ 5 _ _ rfl 32 und_a32 .u8 .u8 Try.underlying5 (by kernel_rfl) (by kernel_rfl) (unit32 10) (unit32 10) rfl rfl (rfl) (rfl) true (by simp) hR) ?_)
    | (with_reducible refine at_op (o := ⟨some 18, _, _, _, _, _⟩) ?_; refine wpList_val (fun R hR => Does.loadI rfl 23 _ rfl 32 5 und_a32 info_a32 (w2.heap.size) rfl .u8 (numB ordV) (D6) (numB_length _) hR) ?_)
    | (go_at_call 10; first | ((with_reducible refine (H1 _).mono ?_); rintro e w7 ⟨rfl, b7⟩) | ((with_reducible refine (H2 _).mono ?_); rintro e w8 ⟨rfl, b8⟩))
    | (with_reducible refine at_op (o := ⟨some 23, _, _, _, _, _⟩) ?_; go_loud (refine wpList_val (fun R hR => Does.buildI rfl 23 _ rfl .u8 (unit32 5) _ (built_unit 5) rfl hR) ?_)))
  go_ret
  exact ⟨rfl, below_then (below_then (below_then (below_then (below_then hbel b4) b5) b6) b7) b8⟩
end Go.Proofs.Yteocdjgdljfpdaa
