/- The reference's product of bytes. -/
import Derived.Test.YtlhloldjlfcchaaDoorFS
namespace Go.Proofs.YtlhloldjlfcchaaDoor
open Go.RowKit Go.Shelf
set_option linter.unusedVariables false
set_option maxRecDepth 8000

theorem ref_prod_v (u v : Int) (w : World) (hu : 0 ≤ u ∧ u < 2 ^ 256) (hv : 0 ≤ v ∧ v < 2 ^ 256) : Calls Tryd.prog 39 #[aggI .u64 (numW 4 u), aggI .u64 (numW 4 v)] w fun e w' => e = .returned (aggI .u64 (numW 4 ((u * v) % pV))) ∧ Below w.heap.size w w' := by
  have h := ref_prod_any (numW 4 u) (numW 4 v) w (numW_words _ _) (numW_words _ _) (numW_length _ _) (numW_length _ _)
  rw [numW_val hu.1 hu.2, numW_val hv.1 hv.2] at h
  exact h
set_option maxHeartbeats 2000000 in
theorem ref_mul_v (xb yb : List Int) (w : World) (hxb : Bytes xb) (hyb : Bytes yb) (hxl : xb.length = 32) (hyl : yb.length = 32) :
    Calls Tryd.prog 20 #[aggI .u8 xb, aggI .u8 yb] w fun e w' => e = .returned (aggI .u8 (numB ((valB xb 32 * valB yb 32) % pV))) ∧ Below w.heap.size w w' := by
  have LX := fun W => ref_load_v xb W hxb hxl
  have LY := fun W => ref_load_v yb W hyb hyl
  have hx := valB_32 xb hxb
  have hy := valB_32 yb hyb
  generalize valB xb 32 = u at *
  generalize valB yb 32 = v at *
  have OP := fun W => ref_prod_v u v W hx hy
  generalize (u * v) % pV = z at *
  go_enter Tryd.func20, Tryd.ntmps20
  go_wp2_with (first
    | (with_reducible refine at_op (o := ⟨some 2, _, _, _, _, _⟩) ?_; refine wpList_boxI rfl 22 _ rfl .u8 xb rfl ?_; intro w1 A1 s1 b1)
    | (with_reducible refine at_op (o := ⟨some 3, _, _, _, _, _⟩) ?_; refine wpList_boxI rfl 22 _ rfl .u8 yb rfl ?_; intro w2 A2 s2 b2; have X2 := A1.below b2)
    | (with_reducible refine at_op (o := ⟨some 4, _, _, _, _, _⟩) ?_; refine wpList_allocI rfl 22 rfl .u8 32 zero_a32 ?_; intro w3 A3 s3 b3; have X3 := X2.below b3; have Y3 := A2.below b3))
  refine wp_region_ord [[], [0], [], [2, 1], [1, 3, 3], [4, 4], [5, 5, 0, 1, 2, 3, 4, 5]] [some 5, some 6, some 7, some 8, some 9, some 10, none] 6 (fun b w' => Arr .u8 w' w.heap.size xb ∧ Arr .u8 w' w1.heap.size yb ∧ Arr .u8 w' w2.heap.size (if b then numB (z) else List.replicate 32 0) ∧ Below w.heap.size w w') (fun opn f _ => match opn with | 0 => f 0 = aggI .u8 xb | 1 => f 1 = aggI .u64 (numW 4 u) | 2 => f 2 = aggI .u8 yb | 3 => f 3 = aggI .u64 (numW 4 v) | 4 => f 4 = aggI .u64 (numW 4 z) | 5 => f 5 = aggI .u8 (numB z) | 6 => f 6 = undef | _ => True) (fun _ v v' => ∃ cs, v' = v.setRow (w2.heap.size) cs) (by kernel_rfl) (by kernel_rfl) (by kernel_rfl) (by kernel_rfl) (fun b v v' hb h => ⟨h.1.below hb, h.2.1.below hb, h.2.2.1.below hb, below_then h.2.2.2 hb⟩) (fun _ _ _ _ _ h => h) (fun _ _ _ _ _ _ _ h => h) ⟨X3.drew, Y3.drew, A3.drew, (below_then (below_then b1 b2) b3).drew⟩ ?_ ?_
  ·
    refine StepL.other (k := 0) rfl (fun b f W hb hG hH => ?_) ?_
    · -- 0
      obtain rfl := hb rfl
      clear hH
      generalize hA : putL _ _ _ _ = A
      have q2 : A.eval (.tmp 2) = .pointer (some ⟨w.heap.size, 0, none⟩) := by rw [← hA]; exact putL_none rfl rfl rfl rfl
      have r2 : A.tmps[2]?.getD undef = .pointer (some ⟨w.heap.size, 0, none⟩) := slot_get q2
      clear hA
      exact Does.loadI rfl 22 _ rfl 32 5 und_a32 info_a32 (w.heap.size) q2 .u8 (xb) (hG.1) (hxl) ⟨Below.refl _ _, rfl⟩
    refine StepL.other (k := 1) rfl (fun b f W hb hG hH => ?_) ?_
    · -- 1
      obtain rfl := hb rfl
      obtain ⟨d0, -⟩ : (f 0 = aggI .u8 xb) ∧ True := hH
      generalize hA : putL _ _ _ _ = A
      have q5 : A.eval (.tmp 5) = aggI .u8 xb := by rw [← hA]; exact putL_look rfl rfl rfl d0
      have r5 : A.tmps[5]?.getD undef = aggI .u8 xb := slot_get q5
      clear hA
      refine Does.call rfl _ _ (by go_simp) ((LX W).mono ?_)
      rintro e w' ⟨rfl, hb'⟩
      exact ⟨_, rfl, hb', rfl⟩
    refine StepL.other (k := 2) rfl (fun b f W hb hG hH => ?_) ?_
    · -- 2
      obtain rfl := hb rfl
      clear hH
      generalize hA : putL _ _ _ _ = A
      have q3 : A.eval (.tmp 3) = .pointer (some ⟨w1.heap.size, 0, none⟩) := by rw [← hA]; exact putL_none rfl rfl rfl rfl
      have r3 : A.tmps[3]?.getD undef = .pointer (some ⟨w1.heap.size, 0, none⟩) := slot_get q3
      clear hA
      exact Does.loadI rfl 22 _ rfl 32 5 und_a32 info_a32 (w1.heap.size) q3 .u8 (yb) (hG.2.1) (hyl) ⟨Below.refl _ _, rfl⟩
    refine StepL.other (k := 3) rfl (fun b f W hb hG hH => ?_) ?_
    · -- 3
      obtain rfl := hb rfl
      obtain ⟨d2, d1, -⟩ : (f 2 = aggI .u8 yb) ∧ (f 1 = aggI .u64 (numW 4 u)) ∧ True := hH
      generalize hA : putL _ _ _ _ = A
      have q7 : A.eval (.tmp 7) = aggI .u8 yb := by rw [← hA]; exact putL_look rfl rfl rfl d2
      have r7 : A.tmps[7]?.getD undef = aggI .u8 yb := slot_get q7
      clear hA
      refine Does.call rfl _ _ (by go_simp) ((LY W).mono ?_)
      rintro e w' ⟨rfl, hb'⟩
      exact ⟨_, rfl, hb', rfl⟩
    refine StepL.other (k := 4) rfl (fun b f W hb hG hH => ?_) ?_
    · -- 4
      obtain rfl := hb rfl
      obtain ⟨d1, d3, -, -⟩ : (f 1 = aggI .u64 (numW 4 u)) ∧ (f 3 = aggI .u64 (numW 4 v)) ∧ (f 3 = aggI .u64 (numW 4 v)) ∧ True := hH
      generalize hA : putL _ _ _ _ = A
      have q6 : A.eval (.tmp 6) = aggI .u64 (numW 4 u) := by rw [← hA]; exact putL_look rfl rfl rfl d1
      have r6 : A.tmps[6]?.getD undef = aggI .u64 (numW 4 u) := slot_get q6
      have q8 : A.eval (.tmp 8) = aggI .u64 (numW 4 v) := by rw [← hA]; exact putL_look rfl rfl rfl d3
      have r8 : A.tmps[8]?.getD undef = aggI .u64 (numW 4 v) := slot_get q8
      clear hA
      refine Does.call rfl _ _ (by go_simp) ((OP W).mono ?_)
      rintro e w' ⟨rfl, hb'⟩
      exact ⟨_, rfl, hb', rfl⟩
    refine StepL.other (k := 5) rfl (fun b f W hb hG hH => ?_) ?_
    · -- 5
      obtain rfl := hb rfl
      obtain ⟨d4, -, -⟩ : (f 4 = aggI .u64 (numW 4 z)) ∧ (f 4 = aggI .u64 (numW 4 z)) ∧ True := hH
      generalize hA : putL _ _ _ _ = A
      have q9 : A.eval (.tmp 9) = aggI .u64 (numW 4 z) := by rw [← hA]; exact putL_look rfl rfl rfl d4
      have r9 : A.tmps[9]?.getD undef = aggI .u64 (numW 4 z) := slot_get q9
      clear hA
      refine Does.call rfl _ _ (by go_simp) ((ref_bytes_v z W).mono ?_)
      rintro e w' ⟨rfl, hb'⟩
      exact ⟨_, rfl, hb', rfl⟩
    refine StepL.self (k := 6) rfl (fun f W hG hH => ?_) ?_
    · -- 6
      obtain ⟨d5, -, d0, d1, d2, d3, d4, -, -⟩ : (f 5 = aggI .u8 (numB z)) ∧ (f 5 = aggI .u8 (numB z)) ∧ (f 0 = aggI .u8 xb) ∧ (f 1 = aggI .u64 (numW 4 u)) ∧ (f 2 = aggI .u8 yb) ∧ (f 3 = aggI .u64 (numW 4 v)) ∧ (f 4 = aggI .u64 (numW 4 z)) ∧ (f 5 = aggI .u8 (numB z)) ∧ True := hH
      generalize hA : putL _ _ _ _ = A
      have q4 : A.eval (.tmp 4) = .pointer (some ⟨w2.heap.size, 0, none⟩) := by rw [← hA]; exact putL_none rfl rfl rfl rfl
      have r4 : A.tmps[4]?.getD undef = .pointer (some ⟨w2.heap.size, 0, none⟩) := slot_get q4
      have q10 : A.eval (.tmp 10) = aggI .u8 (numB z) := by rw [← hA]; exact putL_look rfl rfl rfl d5
      have r10 : A.tmps[10]?.getD undef = aggI .u8 (numB z) := slot_get q10
      clear hA
      refine Does.storeI rfl 22 _ _ rfl 32 info_a32 (w2.heap.size) q4 .u8 _ _ q10 hG.2.2.1 rfl (numB_length _) ?_
      intro A9
      exact ⟨⟨_, rfl⟩, ⟨hG.1.rowOther (by omega) _, hG.2.1.rowOther (by omega) _, A9, Below.setRow hG.2.2.2 (by omega) _⟩, rfl⟩
    exact trivial
  ·
    intro f W hG hH
    obtain ⟨d0, d1, d2, d3, d4, d5, d6, -⟩ : (f 0 = aggI .u8 xb) ∧ (f 1 = aggI .u64 (numW 4 u)) ∧ (f 2 = aggI .u8 yb) ∧ (f 3 = aggI .u64 (numW 4 v)) ∧ (f 4 = aggI .u64 (numW 4 z)) ∧ (f 5 = aggI .u8 (numB z)) ∧ (f 6 = undef) ∧ True := hH
    rw [show List.range (List.length [[], [0], [], [2, 1], [1, 3, 3], [4, 4], [5, 5, 0, 1, 2, 3, 4, 5]]) = [0, 1, 2, 3, 4, 5, 6] from rfl]
    simp only [putL, List.getElem?_cons_zero, List.getElem?_cons_succ, Option.join, Option.bind_some, id_eq, Act.put, List.setIfInBounds_toArray, List.set_cons_zero, List.set_cons_succ, d0, d1, d2, d3, d4, d5]
    clear d0 d1 d2 d3 d4 d5 d6
    obtain ⟨-, -, A9, hbel⟩ := hG
    have A9 : Arr .u8 W (w2.heap.size) (numB (z)) := A9
    go_wp2
    refine bodyPost_ret (results_cellI rfl _ 32 5 und_a32 info_a32 (w2.heap.size) rfl .u8 _ A9 (numB_length _)) rfl ?_
    exact ⟨rfl, hbel⟩
end Go.Proofs.YtlhloldjlfcchaaDoor
