/- Package scalar's MulAdd. -/
import Derived.Test.YteocdjgdljfpdaaVal
namespace Go.Proofs.Yteocdjgdljfpdaa
open Go.RowKit Go.Shelf
set_option linter.unusedVariables false
set_option maxRecDepth 8000

set_option maxHeartbeats 4000000 in
theorem muladd_v (xb yb cb : List Int) (w : World) (hxb : Bytes xb) (hyb : Bytes yb) (hcb : Bytes cb) (hxl : xb.length = 32) (hyl : yb.length = 32) (hcl : cb.length = 32) :
    Calls Try.prog 16 #[aggI .u8 xb, aggI .u8 yb, aggI .u8 cb] w fun e w' => e = .returned (aggI .u8 (numB ((valB cb 32 + valB xb 32 * valB yb 32) % ordV))) ∧ Below w.heap.size w w' := by
  have LX := fun W => load_v xb W hxb hxl
  have LY := fun W => load_v yb W hyb hyl
  have LC := fun W => load_v cb W hcb hcl
  have hxv := valB_32 xb hxb
  have hyv := valB_32 yb hyb
  have hcv := valB_32 cb hcb
  generalize valB xb 32 = xv at *
  generalize valB yb 32 = yv at *
  generalize valB cb 32 = cv at *
  have hT : 0 ≤ cv + xv * yv ∧ cv + xv * yv < 2 ^ 256 * 2 ^ 256 := by
    have h1 : 0 ≤ xv * yv := Int.mul_nonneg hxv.1 hyv.1
    have h2 : xv * yv ≤ (2 ^ 256 - 1) * (2 ^ 256 - 1) := Int.mul_le_mul (by omega) (by omega) hyv.1 (by decide +kernel)
    simp only [Int.reducePow] at *
    generalize xv * yv = m at *
    omega
  go_enter Try.func16, Try.ntmps16
  go_wp2_with (first
    | (with_reducible refine at_op (o := ⟨some 3, _, _, _, _, _⟩) ?_; refine wpList_boxI rfl 23 _ rfl .u8 xb rfl ?_; intro w1 A1 s1 b1)
    | (with_reducible refine at_op (o := ⟨some 4, _, _, _, _, _⟩) ?_; refine wpList_boxI rfl 23 _ rfl .u8 yb rfl ?_; intro w2 A2 s2 b2; have X2 := A1.below b2)
    | (with_reducible refine at_op (o := ⟨some 5, _, _, _, _, _⟩) ?_; refine wpList_boxI rfl 23 _ rfl .u8 cb rfl ?_; intro w3 A3 s3 b3; have X3 := X2.below b3; have Y3 := A2.below b3)
    | (with_reducible refine at_op (o := ⟨some 6, _, _, _, _, _⟩) ?_; refine wpList_allocI rfl 23 rfl .u8 32 zero_a32 ?_; intro w4 A4 s4 b4; have X4 := X3.below b4; have Y4 := Y3.below b4; have C4 := A3.below b4))
  refine wp_region_ord [[], [0], [], [2, 1], [], [4, 3], [1, 3, 5, 5], [6, 6], [7, 7], [8, 8, 0, 1, 2, 3, 4, 5, 6, 7, 8]] [some 7, some 8, some 9, some 10, some 11, some 12, some 13, some 14, some 15, none] 9 (fun b w' => Arr .u8 w' w.heap.size xb ∧ Arr .u8 w' w1.heap.size yb ∧ Arr .u8 w' w2.heap.size cb ∧ Arr .u8 w' w3.heap.size (if b then numB ((cv + xv * yv) % ordV) else List.replicate 32 0) ∧ Below w.heap.size w w') (fun opn f _ => match opn with | 0 => f 0 = aggI .u8 xb | 1 => f 1 = aggI .u64 (numW 4 xv) | 2 => f 2 = aggI .u8 yb | 3 => f 3 = aggI .u64 (numW 4 yv) | 4 => f 4 = aggI .u8 cb | 5 => f 5 = aggI .u64 (numW 4 cv) | 6 => f 6 = aggI .u64 (numW 8 (cv + xv * yv)) | 7 => f 7 = aggI .u64 (numW 4 ((cv + xv * yv) % ordV)) | 8 => f 8 = aggI .u8 (numB ((cv + xv * yv) % ordV)) | 9 => f 9 = undef | _ => True) (fun _ v v' => ∃ cs, v' = v.setRow (w3.heap.size) cs) (by kernel_rfl) (by kernel_rfl) (by kernel_rfl) (by kernel_rfl) (fun b v v' hb h => ⟨h.1.below hb, h.2.1.below hb, h.2.2.1.below hb, h.2.2.2.1.below hb, below_then h.2.2.2.2 hb⟩) (fun _ _ _ _ _ h => h) (fun _ _ _ _ _ _ _ h => h) ⟨X4.drew, Y4.drew, C4.drew, A4.drew, (below_then (below_then (below_then b1 b2) b3) b4).drew⟩ ?_ ?_
  ·
    refine StepL.other (k := 0) rfl (fun b f W hb hG hH => ?_) ?_
    · -- 0
      obtain rfl := hb rfl
      clear hH
      generalize hA : putL _ _ _ _ = A
      have q3 : A.eval (.tmp 3) = .pointer (some ⟨w.heap.size, 0, none⟩) := by rw [← hA]; exact putL_none rfl rfl rfl rfl
      have r3 : A.tmps[3]?.getD undef = .pointer (some ⟨w.heap.size, 0, none⟩) := slot_get q3
      clear hA
      exact Does.loadI rfl 23 _ rfl 32 5 und_a32 info_a32 (w.heap.size) q3 .u8 (xb) (hG.1) (hxl) ⟨Below.refl _ _, rfl⟩
    refine StepL.other (k := 1) rfl (fun b f W hb hG hH => ?_) ?_
    · -- 1
      obtain rfl := hb rfl
      obtain ⟨d0, -⟩ : (f 0 = aggI .u8 xb) ∧ True := hH
      generalize hA : putL _ _ _ _ = A
      have q7 : A.eval (.tmp 7) = aggI .u8 xb := by rw [← hA]; exact putL_look rfl rfl rfl d0
      have r7 : A.tmps[7]?.getD undef = aggI .u8 xb := slot_get q7
      clear hA
      refine Does.call rfl _ _ (by go_simp) ((LX W).mono ?_)
      rintro e w' ⟨rfl, hb'⟩
      exact ⟨_, rfl, hb', rfl⟩
    refine StepL.other (k := 2) rfl (fun b f W hb hG hH => ?_) ?_
    · -- 2
      obtain rfl := hb rfl
      clear hH
      generalize hA : putL _ _ _ _ = A
      have q4 : A.eval (.tmp 4) = .pointer (some ⟨w1.heap.size, 0, none⟩) := by rw [← hA]; exact putL_none rfl rfl rfl rfl
      have r4 : A.tmps[4]?.getD undef = .pointer (some ⟨w1.heap.size, 0, none⟩) := slot_get q4
      clear hA
      exact Does.loadI rfl 23 _ rfl 32 5 und_a32 info_a32 (w1.heap.size) q4 .u8 (yb) (hG.2.1) (hyl) ⟨Below.refl _ _, rfl⟩
    refine StepL.other (k := 3) rfl (fun b f W hb hG hH => ?_) ?_
    · -- 3
      obtain rfl := hb rfl
      obtain ⟨d2, d1, -⟩ : (f 2 = aggI .u8 yb) ∧ (f 1 = aggI .u64 (numW 4 xv)) ∧ True := hH
      generalize hA : putL _ _ _ _ = A
      have q9 : A.eval (.tmp 9) = aggI .u8 yb := by rw [← hA]; exact putL_look rfl rfl rfl d2
      have r9 : A.tmps[9]?.getD undef = aggI .u8 yb := slot_get q9
      clear hA
      refine Does.call rfl _ _ (by go_simp) ((LY W).mono ?_)
      rintro e w' ⟨rfl, hb'⟩
      exact ⟨_, rfl, hb', rfl⟩
    refine StepL.other (k := 4) rfl (fun b f W hb hG hH => ?_) ?_
    · -- 4
      obtain rfl := hb rfl
      clear hH
      generalize hA : putL _ _ _ _ = A
      have q5 : A.eval (.tmp 5) = .pointer (some ⟨w2.heap.size, 0, none⟩) := by rw [← hA]; exact putL_none rfl rfl rfl rfl
      have r5 : A.tmps[5]?.getD undef = .pointer (some ⟨w2.heap.size, 0, none⟩) := slot_get q5
      clear hA
      exact Does.loadI rfl 23 _ rfl 32 5 und_a32 info_a32 (w2.heap.size) q5 .u8 (cb) (hG.2.2.1) (hcl) ⟨Below.refl _ _, rfl⟩
    refine StepL.other (k := 5) rfl (fun b f W hb hG hH => ?_) ?_
    · -- 5
      obtain rfl := hb rfl
      obtain ⟨d4, d3, -⟩ : (f 4 = aggI .u8 cb) ∧ (f 3 = aggI .u64 (numW 4 yv)) ∧ True := hH
      generalize hA : putL _ _ _ _ = A
      have q11 : A.eval (.tmp 11) = aggI .u8 cb := by rw [← hA]; exact putL_look rfl rfl rfl d4
      have r11 : A.tmps[11]?.getD undef = aggI .u8 cb := slot_get q11
      clear hA
      refine Does.call rfl _ _ (by go_simp) ((LC W).mono ?_)
      rintro e w' ⟨rfl, hb'⟩
      exact ⟨_, rfl, hb', rfl⟩
    refine StepL.other (k := 6) rfl (fun b f W hb hG hH => ?_) ?_
    · -- 6
      obtain rfl := hb rfl
      obtain ⟨d1, d3, d5, -, -⟩ : (f 1 = aggI .u64 (numW 4 xv)) ∧ (f 3 = aggI .u64 (numW 4 yv)) ∧ (f 5 = aggI .u64 (numW 4 cv)) ∧ (f 5 = aggI .u64 (numW 4 cv)) ∧ True := hH
      generalize hA : putL _ _ _ _ = A
      have q8 : A.eval (.tmp 8) = aggI .u64 (numW 4 xv) := by rw [← hA]; exact putL_look rfl rfl rfl d1
      have r8 : A.tmps[8]?.getD undef = aggI .u64 (numW 4 xv) := slot_get q8
      have q10 : A.eval (.tmp 10) = aggI .u64 (numW 4 yv) := by rw [← hA]; exact putL_look rfl rfl rfl d3
      have r10 : A.tmps[10]?.getD undef = aggI .u64 (numW 4 yv) := slot_get q10
      have q12 : A.eval (.tmp 12) = aggI .u64 (numW 4 cv) := by rw [← hA]; exact putL_look rfl rfl rfl d5
      have r12 : A.tmps[12]?.getD undef = aggI .u64 (numW 4 cv) := slot_get q12
      clear hA
      refine Does.call rfl _ _ (by go_simp) ((times_v xv yv cv W hxv hyv hcv).mono ?_)
      rintro e w' ⟨rfl, hb'⟩
      exact ⟨_, rfl, hb', rfl⟩
    refine StepL.other (k := 7) rfl (fun b f W hb hG hH => ?_) ?_
    · -- 7
      obtain rfl := hb rfl
      obtain ⟨d6, -, -⟩ : (f 6 = aggI .u64 (numW 8 (cv + xv * yv))) ∧ (f 6 = aggI .u64 (numW 8 (cv + xv * yv))) ∧ True := hH
      generalize hA : putL _ _ _ _ = A
      have q13 : A.eval (.tmp 13) = aggI .u64 (numW 8 (cv + xv * yv)) := by rw [← hA]; exact putL_look rfl rfl rfl d6
      have r13 : A.tmps[13]?.getD undef = aggI .u64 (numW 8 (cv + xv * yv)) := slot_get q13
      clear hA
      refine Does.call rfl _ _ (by go_simp) ((reduced_v (cv + xv * yv) W hT).mono ?_)
      rintro e w' ⟨rfl, hb'⟩
      exact ⟨_, rfl, hb', rfl⟩
    refine StepL.other (k := 8) rfl (fun b f W hb hG hH => ?_) ?_
    · -- 8
      obtain rfl := hb rfl
      obtain ⟨d7, -, -⟩ : (f 7 = aggI .u64 (numW 4 ((cv + xv * yv) % ordV))) ∧ (f 7 = aggI .u64 (numW 4 ((cv + xv * yv) % ordV))) ∧ True := hH
      generalize hA : putL _ _ _ _ = A
      have q14 : A.eval (.tmp 14) = aggI .u64 (numW 4 ((cv + xv * yv) % ordV)) := by rw [← hA]; exact putL_look rfl rfl rfl d7
      have r14 : A.tmps[14]?.getD undef = aggI .u64 (numW 4 ((cv + xv * yv) % ordV)) := slot_get q14
      clear hA
      refine Does.call rfl _ _ (by go_simp) ((bytes_v ((cv + xv * yv) % ordV) W).mono ?_)
      rintro e w' ⟨rfl, hb'⟩
      exact ⟨_, rfl, hb', rfl⟩
    refine StepL.self (k := 9) rfl (fun f W hG hH => ?_) ?_
    · -- 9
      obtain ⟨d8, -, d0, d1, d2, d3, d4, d5, d6, d7, -, -⟩ : (f 8 = aggI .u8 (numB ((cv + xv * yv) % ordV))) ∧ (f 8 = aggI .u8 (numB ((cv + xv * yv) % ordV))) ∧ (f 0 = aggI .u8 xb) ∧ (f 1 = aggI .u64 (numW 4 xv)) ∧ (f 2 = aggI .u8 yb) ∧ (f 3 = aggI .u64 (numW 4 yv)) ∧ (f 4 = aggI .u8 cb) ∧ (f 5 = aggI .u64 (numW 4 cv)) ∧ (f 6 = aggI .u64 (numW 8 (cv + xv * yv))) ∧ (f 7 = aggI .u64 (numW 4 ((cv + xv * yv) % ordV))) ∧ (f 8 = aggI .u8 (numB ((cv + xv * yv) % ordV))) ∧ True := hH
      generalize hA : putL _ _ _ _ = A
      have q6 : A.eval (.tmp 6) = .pointer (some ⟨w3.heap.size, 0, none⟩) := by rw [← hA]; exact putL_none rfl rfl rfl rfl
      have r6 : A.tmps[6]?.getD undef = .pointer (some ⟨w3.heap.size, 0, none⟩) := slot_get q6
      have q15 : A.eval (.tmp 15) = aggI .u8 (numB ((cv + xv * yv) % ordV)) := by rw [← hA]; exact putL_look rfl rfl rfl d8
      have r15 : A.tmps[15]?.getD undef = aggI .u8 (numB ((cv + xv * yv) % ordV)) := slot_get q15
      clear hA
      refine Does.storeI rfl 23 _ _ rfl 32 info_a32 (w3.heap.size) q6 .u8 _ _ q15 hG.2.2.2.1 rfl (numB_length _) ?_
      intro A9
      exact ⟨⟨_, rfl⟩, ⟨hG.1.rowOther (by omega) _, hG.2.1.rowOther (by omega) _, hG.2.2.1.rowOther (by omega) _, A9, Below.setRow hG.2.2.2.2 (by omega) _⟩, rfl⟩
    exact trivial
  ·
    intro f W hG hH
    obtain ⟨d0, d1, d2, d3, d4, d5, d6, d7, d8, d9, -⟩ : (f 0 = aggI .u8 xb) ∧ (f 1 = aggI .u64 (numW 4 xv)) ∧ (f 2 = aggI .u8 yb) ∧ (f 3 = aggI .u64 (numW 4 yv)) ∧ (f 4 = aggI .u8 cb) ∧ (f 5 = aggI .u64 (numW 4 cv)) ∧ (f 6 = aggI .u64 (numW 8 (cv + xv * yv))) ∧ (f 7 = aggI .u64 (numW 4 ((cv + xv * yv) % ordV))) ∧ (f 8 = aggI .u8 (numB ((cv + xv * yv) % ordV))) ∧ (f 9 = undef) ∧ True := hH
    rw [show List.range (List.length [[], [0], [], [2, 1], [], [4, 3], [1, 3, 5, 5], [6, 6], [7, 7], [8, 8, 0, 1, 2, 3, 4, 5, 6, 7, 8]]) = [0, 1, 2, 3, 4, 5, 6, 7, 8, 9] from rfl]
    simp only [putL, List.getElem?_cons_zero, List.getElem?_cons_succ, Option.join, Option.bind_some, id_eq, Act.put, List.setIfInBounds_toArray, List.set_cons_zero, List.set_cons_succ, d0, d1, d2, d3, d4, d5, d6, d7, d8]
    clear d0 d1 d2 d3 d4 d5 d6 d7 d8 d9
    obtain ⟨-, -, -, A9, hbel⟩ := hG
    have A9 : Arr .u8 W (w3.heap.size) (numB ((cv + xv * yv) % ordV)) := A9
    go_wp2
    refine bodyPost_ret (results_cellI rfl _ 32 5 und_a32 info_a32 (w3.heap.size) rfl .u8 _ A9 (numB_length _)) rfl ?_
    exact ⟨rfl, hbel⟩
end Go.Proofs.Yteocdjgdljfpdaa
