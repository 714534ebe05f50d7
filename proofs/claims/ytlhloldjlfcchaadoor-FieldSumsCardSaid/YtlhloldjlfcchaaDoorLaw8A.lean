/- The laws on sums, walked. -/
import Derived.Test.YtlhloldjlfcchaaDoorFO
namespace Go.Proofs.YtlhloldjlfcchaaDoor
open Go.RowKit Go.Shelf
set_option linter.unusedVariables false
set_option maxRecDepth 8000

set_option maxHeartbeats 4000000 in
theorem law_sums (xb yb : List Int) (w : World) (hT : Tab w) (hxb : Bytes xb) (hxl : xb.length = 32) (hyb : Bytes yb) (hyl : yb.length = 32) :
    Calls Tryd.prog 3 #[aggI .u8 xb, aggI .u8 yb] w fun e w' => e = .returned (.bool true) ∧ Below w.heap.size w w' := by
  go_enter Tryd.func3, Tryd.ntmps3
  go_wp2_with (first
    | (with_reducible refine at_op (o := ⟨some 2, _, _, _, _, _⟩) ?_; refine wpList_boxI rfl 22 _ rfl .u8 xb rfl ?_; intro w1 A1 s1 b1)
    | (with_reducible refine at_op (o := ⟨some 3, _, _, _, _, _⟩) ?_; refine wpList_boxI rfl 22 _ rfl .u8 yb rfl ?_; intro w2 A2 s2 b2; have X2 := A1.below b2))
  refine wp_region_ord [[], [0, 0], [1], [1], [2, 3, 1, 1], [1], [1], [5, 6, 4, 1], [4, 7, 1], [1, 8], [9, 7], [10], [10], [11, 12, 10, 10], [10], [10], [14, 15, 13, 10], [13, 16, 10], [10, 17], [18, 16], [19], [20, 19, 19], [19], [22, 21, 19], [21, 23, 19], [19, 24], [25, 23], [26], [27, 26, 26], [26], [29, 28, 26], [28, 30, 26], [26, 31], [32, 30, 0, 1, 2, 3, 4, 5, 6, 7, 8, 9, 10, 11, 12, 13, 14, 15, 16, 17, 18, 19, 20, 21, 22, 23, 24, 25, 26, 27, 28, 29, 30, 31, 32]] [some 5, some 6, some 7, some 8, some 9, some 10, some 11, some 12, some 13, some 14, some 15, some 16, some 17, some 18, some 19, some 20, some 21, some 22, some 23, some 24, some 25, some 26, some 27, some 28, some 29, some 30, some 31, some 32, some 33, some 34, some 35, some 36, some 37, some 4] 34 (fun b w' => Arr .u8 w' w.heap.size xb ∧ Arr .u8 w' w1.heap.size yb ∧ Below w.heap.size w w') (fun opn f _ => match opn with | 0 => f 0 = .bool true | 1 => f 1 = .bool true | 2 => f 2 = aggI .u8 xb | 3 => f 3 = aggI .u8 yb | 4 => f 4 = aggI .u8 (numB ((valB xb 32 + valB yb 32) % pV)) | 5 => f 5 = aggI .u8 xb | 6 => f 6 = aggI .u8 yb | 7 => f 7 = aggI .u8 (numB ((valB xb 32 + valB yb 32) % pV)) | 8 => f 8 = .bool true | 9 => f 9 = .bool true | 10 => f 10 = .bool true | 11 => f 11 = aggI .u8 xb | 12 => f 12 = aggI .u8 yb | 13 => f 13 = aggI .u8 (numB ((valB xb 32 - valB yb 32) % pV)) | 14 => f 14 = aggI .u8 xb | 15 => f 15 = aggI .u8 yb | 16 => f 16 = aggI .u8 (numB ((valB xb 32 - valB yb 32) % pV)) | 17 => f 17 = .bool true | 18 => f 18 = .bool true | 19 => f 19 = .bool true | 20 => f 20 = aggI .u8 xb | 21 => f 21 = aggI .u8 (numB (valB xb 32 % pV)) | 22 => f 22 = aggI .u8 xb | 23 => f 23 = aggI .u8 (numB (valB xb 32 % pV)) | 24 => f 24 = .bool true | 25 => f 25 = .bool true | 26 => f 26 = .bool true | 27 => f 27 = aggI .u8 xb | 28 => f 28 = .bool (decide (valB xb 32 < pV)) | 29 => f 29 = aggI .u8 xb | 30 => f 30 = .bool (decide (valB xb 32 < pV)) | 31 => f 31 = .bool true | 32 => f 32 = .bool true | 33 => f 33 = .bool true | _ => True) (fun _ _ _ => True) (by kernel_rfl) (by kernel_rfl) (by kernel_rfl) (by kernel_rfl) (fun b v v' hb h => ⟨h.1.below hb, h.2.1.below hb, below_then h.2.2 hb⟩) (fun _ _ _ _ _ h => h) (fun _ _ _ _ _ _ _ h => h) ⟨X2.drew, A2.drew, (below_then b1 b2).drew⟩ ?_ ?_
  ·
    refine StepL.other (k := 0) rfl (fun b f W hb hG hH => ?_) ?_
    · -- 0
      clear hH
      generalize hA : putL _ _ _ _ = A
      clear hA
      refine Does.call rfl _ _ (by go_simp) ((alive_v W (hT.below hG.2.2)).mono ?_)
      rintro e w' ⟨rfl, hb'⟩
      exact ⟨_, rfl, hb', rfl⟩
    refine StepL.other (k := 1) rfl (fun b f W hb hG hH => ?_) ?_
    · -- 1
      obtain ⟨d0, -, -⟩ : (f 0 = .bool true) ∧ (f 0 = .bool true) ∧ True := hH
      generalize hA : putL _ _ _ _ = A
      have q5 : A.eval (.tmp 5) = .bool true := by rw [← hA]; exact putL_look rfl rfl rfl d0
      have r5 : A.tmps[5]?.getD undef = .bool true := slot_get q5
      clear hA
      refine Does.pure rfl (.bool true) ?_ ⟨Below.refl _ _, rfl⟩
      go_simp
    refine StepL.other (k := 2) rfl (fun b f W hb hG hH => ?_) ?_
    · -- 2
      obtain ⟨d1, -⟩ : (f 1 = .bool true) ∧ True := hH
      generalize hA : putL _ _ _ _ = A
      have q2 : A.eval (.tmp 2) = .pointer (some ⟨w.heap.size, 0, none⟩) := by rw [← hA]; exact putL_none rfl rfl rfl rfl
      have r2 : A.tmps[2]?.getD undef = .pointer (some ⟨w.heap.size, 0, none⟩) := slot_get q2
      have q6 : A.eval (.tmp 6) = .bool true := by rw [← hA]; exact putL_look rfl rfl rfl d1
      have r6 : A.tmps[6]?.getD undef = .bool true := slot_get q6
      clear hA
      exact Does.loadI (wanted_of (b := true) rfl rfl q6) 22 _ rfl 32 5 und_a32 info_a32 (w.heap.size) q2 .u8 (xb) (hG.1) (hxl) ⟨Below.refl _ _, rfl⟩
    refine StepL.other (k := 3) rfl (fun b f W hb hG hH => ?_) ?_
    · -- 3
      obtain ⟨d1, -⟩ : (f 1 = .bool true) ∧ True := hH
      generalize hA : putL _ _ _ _ = A
      have q3 : A.eval (.tmp 3) = .pointer (some ⟨w1.heap.size, 0, none⟩) := by rw [← hA]; exact putL_none rfl rfl rfl rfl
      have r3 : A.tmps[3]?.getD undef = .pointer (some ⟨w1.heap.size, 0, none⟩) := slot_get q3
      have q6 : A.eval (.tmp 6) = .bool true := by rw [← hA]; exact putL_look rfl rfl rfl d1
      have r6 : A.tmps[6]?.getD undef = .bool true := slot_get q6
      clear hA
      exact Does.loadI (wanted_of (b := true) rfl rfl q6) 22 _ rfl 32 5 und_a32 info_a32 (w1.heap.size) q3 .u8 (yb) (hG.2.1) (hyl) ⟨Below.refl _ _, rfl⟩
    refine StepL.other (k := 4) rfl (fun b f W hb hG hH => ?_) ?_
    · -- 4
      obtain ⟨d2, d3, d1, -, -⟩ : (f 2 = aggI .u8 xb) ∧ (f 3 = aggI .u8 yb) ∧ (f 1 = .bool true) ∧ (f 1 = .bool true) ∧ True := hH
      generalize hA : putL _ _ _ _ = A
      have q7 : A.eval (.tmp 7) = aggI .u8 xb := by rw [← hA]; exact putL_look rfl rfl rfl d2
      have r7 : A.tmps[7]?.getD undef = aggI .u8 xb := slot_get q7
      have q8 : A.eval (.tmp 8) = aggI .u8 yb := by rw [← hA]; exact putL_look rfl rfl rfl d3
      have r8 : A.tmps[8]?.getD undef = aggI .u8 yb := slot_get q8
      have q6 : A.eval (.tmp 6) = .bool true := by rw [← hA]; exact putL_look rfl rfl rfl d1
      have r6 : A.tmps[6]?.getD undef = .bool true := slot_get q6
      clear hA
      refine Does.call (wanted_of (b := true) rfl rfl q6) _ _ (by go_simp) ((add_v xb yb W hxb hyb hxl hyl).mono ?_)
      rintro e w' ⟨rfl, hb'⟩
      exact ⟨_, rfl, hb', rfl⟩
    refine StepL.other (k := 5) rfl (fun b f W hb hG hH => ?_) ?_
    · -- 5
      obtain ⟨d1, -⟩ : (f 1 = .bool true) ∧ True := hH
      generalize hA : putL _ _ _ _ = A
      have q2 : A.eval (.tmp 2) = .pointer (some ⟨w.heap.size, 0, none⟩) := by rw [← hA]; exact putL_none rfl rfl rfl rfl
      have r2 : A.tmps[2]?.getD undef = .pointer (some ⟨w.heap.size, 0, none⟩) := slot_get q2
      have q6 : A.eval (.tmp 6) = .bool true := by rw [← hA]; exact putL_look rfl rfl rfl d1
      have r6 : A.tmps[6]?.getD undef = .bool true := slot_get q6
      clear hA
      exact Does.loadI (wanted_of (b := true) rfl rfl q6) 22 _ rfl 32 5 und_a32 info_a32 (w.heap.size) q2 .u8 (xb) (hG.1) (hxl) ⟨Below.refl _ _, rfl⟩
    refine StepL.other (k := 6) rfl (fun b f W hb hG hH => ?_) ?_
    · -- 6
      obtain ⟨d1, -⟩ : (f 1 = .bool true) ∧ True := hH
      generalize hA : putL _ _ _ _ = A
      have q3 : A.eval (.tmp 3) = .pointer (some ⟨w1.heap.size, 0, none⟩) := by rw [← hA]; exact putL_none rfl rfl rfl rfl
      have r3 : A.tmps[3]?.getD undef = .pointer (some ⟨w1.heap.size, 0, none⟩) := slot_get q3
      have q6 : A.eval (.tmp 6) = .bool true := by rw [← hA]; exact putL_look rfl rfl rfl d1
      have r6 : A.tmps[6]?.getD undef = .bool true := slot_get q6
      clear hA
      exact Does.loadI (wanted_of (b := true) rfl rfl q6) 22 _ rfl 32 5 und_a32 info_a32 (w1.heap.size) q3 .u8 (yb) (hG.2.1) (hyl) ⟨Below.refl _ _, rfl⟩
    refine StepL.other (k := 7) rfl (fun b f W hb hG hH => ?_) ?_
    · -- 7
      obtain ⟨d5, d6, d4, d1, -⟩ : (f 5 = aggI .u8 xb) ∧ (f 6 = aggI .u8 yb) ∧ (f 4 = aggI .u8 (numB ((valB xb 32 + valB yb 32) % pV))) ∧ (f 1 = .bool true) ∧ True := hH
      generalize hA : putL _ _ _ _ = A
      have q10 : A.eval (.tmp 10) = aggI .u8 xb := by rw [← hA]; exact putL_look rfl rfl rfl d5
      have r10 : A.tmps[10]?.getD undef = aggI .u8 xb := slot_get q10
      have q11 : A.eval (.tmp 11) = aggI .u8 yb := by rw [← hA]; exact putL_look rfl rfl rfl d6
      have r11 : A.tmps[11]?.getD undef = aggI .u8 yb := slot_get q11
      have q6 : A.eval (.tmp 6) = .bool true := by rw [← hA]; exact putL_look rfl rfl rfl d1
      have r6 : A.tmps[6]?.getD undef = .bool true := slot_get q6
      clear hA
      refine Does.call (wanted_of (b := true) rfl rfl q6) _ _ (by go_simp) ((ref_add_v xb yb W hxb hyb hxl hyl).mono ?_)
      rintro e w' ⟨rfl, hb'⟩
      exact ⟨_, rfl, hb', rfl⟩
    refine StepL.other (k := 8) rfl (fun b f W hb hG hH => ?_) ?_
    · -- 8
      obtain ⟨d4, d7, d1, -⟩ : (f 4 = aggI .u8 (numB ((valB xb 32 + valB yb 32) % pV))) ∧ (f 7 = aggI .u8 (numB ((valB xb 32 + valB yb 32) % pV))) ∧ (f 1 = .bool true) ∧ True := hH
      generalize hA : putL _ _ _ _ = A
      have q9 : A.eval (.tmp 9) = aggI .u8 (numB ((valB xb 32 + valB yb 32) % pV)) := by rw [← hA]; exact putL_look rfl rfl rfl d4
      have r9 : A.tmps[9]?.getD undef = aggI .u8 (numB ((valB xb 32 + valB yb 32) % pV)) := slot_get q9
      have q12 : A.eval (.tmp 12) = aggI .u8 (numB ((valB xb 32 + valB yb 32) % pV)) := by rw [← hA]; exact putL_look rfl rfl rfl d7
      have r12 : A.tmps[12]?.getD undef = aggI .u8 (numB ((valB xb 32 + valB yb 32) % pV)) := slot_get q12
      have q6 : A.eval (.tmp 6) = .bool true := by rw [← hA]; exact putL_look rfl rfl rfl d1
      have r6 : A.tmps[6]?.getD undef = .bool true := slot_get q6
      clear hA
      exact Does.eqlI (wanted_of (b := true) rfl rfl q6) 22 _ 5 _ _ rfl 32 und_a32 .u8 .u8 Tryd.underlying5 (by kernel_rfl) (by kernel_rfl) (numB ((valB xb 32 + valB yb 32) % pV)) (numB ((valB xb 32 + valB yb 32) % pV)) q9 q12 (numB_length _) (numB_length _) true (by simp) ⟨Below.refl _ _, rfl⟩
    refine StepL.other (k := 9) rfl (fun b f W hb hG hH => ?_) ?_
    · -- 9
      obtain ⟨d1, d8, -⟩ : (f 1 = .bool true) ∧ (f 8 = .bool true) ∧ True := hH
      generalize hA : putL _ _ _ _ = A
      have q6 : A.eval (.tmp 6) = .bool true := by rw [← hA]; exact putL_look rfl rfl rfl d1
      have r6 : A.tmps[6]?.getD undef = .bool true := slot_get q6
      have q13 : A.eval (.tmp 13) = .bool true := by rw [← hA]; exact putL_look rfl rfl rfl d8
      have r13 : A.tmps[13]?.getD undef = .bool true := slot_get q13
      clear hA
      refine Does.pure rfl (.bool true) ?_ ⟨Below.refl _ _, rfl⟩
      go_simp
    refine StepL.other (k := 10) rfl (fun b f W hb hG hH => ?_) ?_
    · -- 10
      obtain ⟨d9, d7, -⟩ : (f 9 = .bool true) ∧ (f 7 = aggI .u8 (numB ((valB xb 32 + valB yb 32) % pV))) ∧ True := hH
      generalize hA : putL _ _ _ _ = A
      have q14 : A.eval (.tmp 14) = .bool true := by rw [← hA]; exact putL_look rfl rfl rfl d9
      have r14 : A.tmps[14]?.getD undef = .bool true := slot_get q14
      clear hA
      refine Does.pure rfl (.bool true) ?_ ⟨Below.refl _ _, rfl⟩
      go_simp
    refine StepL.other (k := 11) rfl (fun b f W hb hG hH => ?_) ?_
    · -- 11
      obtain ⟨d10, -⟩ : (f 10 = .bool true) ∧ True := hH
      generalize hA : putL _ _ _ _ = A
      have q2 : A.eval (.tmp 2) = .pointer (some ⟨w.heap.size, 0, none⟩) := by rw [← hA]; exact putL_none rfl rfl rfl rfl
      have r2 : A.tmps[2]?.getD undef = .pointer (some ⟨w.heap.size, 0, none⟩) := slot_get q2
      have q15 : A.eval (.tmp 15) = .bool true := by rw [← hA]; exact putL_look rfl rfl rfl d10
      have r15 : A.tmps[15]?.getD undef = .bool true := slot_get q15
      clear hA
      exact Does.loadI (wanted_of (b := true) rfl rfl q15) 22 _ rfl 32 5 und_a32 info_a32 (w.heap.size) q2 .u8 (xb) (hG.1) (hxl) ⟨Below.refl _ _, rfl⟩
    refine StepL.other (k := 12) rfl (fun b f W hb hG hH => ?_) ?_
    · -- 12
      obtain ⟨d10, -⟩ : (f 10 = .bool true) ∧ True := hH
      generalize hA : putL _ _ _ _ = A
      have q3 : A.eval (.tmp 3) = .pointer (some ⟨w1.heap.size, 0, none⟩) := by rw [← hA]; exact putL_none rfl rfl rfl rfl
      have r3 : A.tmps[3]?.getD undef = .pointer (some ⟨w1.heap.size, 0, none⟩) := slot_get q3
      have q15 : A.eval (.tmp 15) = .bool true := by rw [← hA]; exact putL_look rfl rfl rfl d10
      have r15 : A.tmps[15]?.getD undef = .bool true := slot_get q15
      clear hA
      exact Does.loadI (wanted_of (b := true) rfl rfl q15) 22 _ rfl 32 5 und_a32 info_a32 (w1.heap.size) q3 .u8 (yb) (hG.2.1) (hyl) ⟨Below.refl _ _, rfl⟩
    refine StepL.other (k := 13) rfl (fun b f W hb hG hH => ?_) ?_
    · -- 13
      obtain ⟨d11, d12, d10, -, -⟩ : (f 11 = aggI .u8 xb) ∧ (f 12 = aggI .u8 yb) ∧ (f 10 = .bool true) ∧ (f 10 = .bool true) ∧ True := hH
      generalize hA : putL _ _ _ _ = A
      have q16 : A.eval (.tmp 16) = aggI .u8 xb := by rw [← hA]; exact putL_look rfl rfl rfl d11
      have r16 : A.tmps[16]?.getD undef = aggI .u8 xb := slot_get q16
      have q17 : A.eval (.tmp 17) = aggI .u8 yb := by rw [← hA]; exact putL_look rfl rfl rfl d12
      have r17 : A.tmps[17]?.getD undef = aggI .u8 yb := slot_get q17
      have q15 : A.eval (.tmp 15) = .bool true := by rw [← hA]; exact putL_look rfl rfl rfl d10
      have r15 : A.tmps[15]?.getD undef = .bool true := slot_get q15
      clear hA
      refine Does.call (wanted_of (b := true) rfl rfl q15) _ _ (by go_simp) ((sub_v xb yb W hxb hyb hxl hyl).mono ?_)
      rintro e w' ⟨rfl, hb'⟩
      exact ⟨_, rfl, hb', rfl⟩
    refine StepL.other (k := 14) rfl (fun b f W hb hG hH => ?_) ?_
    · -- 14
      obtain ⟨d10, -⟩ : (f 10 = .bool true) ∧ True := hH
      generalize hA : putL _ _ _ _ = A
      have q2 : A.eval (.tmp 2) = .pointer (some ⟨w.heap.size, 0, none⟩) := by rw [← hA]; exact putL_none rfl rfl rfl rfl
      have r2 : A.tmps[2]?.getD undef = .pointer (some ⟨w.heap.size, 0, none⟩) := slot_get q2
      have q15 : A.eval (.tmp 15) = .bool true := by rw [← hA]; exact putL_look rfl rfl rfl d10
      have r15 : A.tmps[15]?.getD undef = .bool true := slot_get q15
      clear hA
      exact Does.loadI (wanted_of (b := true) rfl rfl q15) 22 _ rfl 32 5 und_a32 info_a32 (w.heap.size) q2 .u8 (xb) (hG.1) (hxl) ⟨Below.refl _ _, rfl⟩
    refine StepL.other (k := 15) rfl (fun b f W hb hG hH => ?_) ?_
    · -- 15
      obtain ⟨d10, -⟩ : (f 10 = .bool true) ∧ True := hH
      generalize hA : putL _ _ _ _ = A
      have q3 : A.eval (.tmp 3) = .pointer (some ⟨w1.heap.size, 0, none⟩) := by rw [← hA]; exact putL_none rfl rfl rfl rfl
      have r3 : A.tmps[3]?.getD undef = .pointer (some ⟨w1.heap.size, 0, none⟩) := slot_get q3
      have q15 : A.eval (.tmp 15) = .bool true := by rw [← hA]; exact putL_look rfl rfl rfl d10
      have r15 : A.tmps[15]?.getD undef = .bool true := slot_get q15
      clear hA
      exact Does.loadI (wanted_of (b := true) rfl rfl q15) 22 _ rfl 32 5 und_a32 info_a32 (w1.heap.size) q3 .u8 (yb) (hG.2.1) (hyl) ⟨Below.refl _ _, rfl⟩
    refine StepL.other (k := 16) rfl (fun b f W hb hG hH => ?_) ?_
    · -- 16
      obtain ⟨d14, d15, d13, d10, -⟩ : (f 14 = aggI .u8 xb) ∧ (f 15 = aggI .u8 yb) ∧ (f 13 = aggI .u8 (numB ((valB xb 32 - valB yb 32) % pV))) ∧ (f 10 = .bool true) ∧ True := hH
      generalize hA : putL _ _ _ _ = A
      have q19 : A.eval (.tmp 19) = aggI .u8 xb := by rw [← hA]; exact putL_look rfl rfl rfl d14
      have r19 : A.tmps[19]?.getD undef = aggI .u8 xb := slot_get q19
      have q20 : A.eval (.tmp 20) = aggI .u8 yb := by rw [← hA]; exact putL_look rfl rfl rfl d15
      have r20 : A.tmps[20]?.getD undef = aggI .u8 yb := slot_get q20
      have q15 : A.eval (.tmp 15) = .bool true := by rw [← hA]; exact putL_look rfl rfl rfl d10
      have r15 : A.tmps[15]?.getD undef = .bool true := slot_get q15
      clear hA
      refine Does.call (wanted_of (b := true) rfl rfl q15) _ _ (by go_simp) ((ref_sub_v xb yb W hxb hyb hxl hyl).mono ?_)
      rintro e w' ⟨rfl, hb'⟩
      exact ⟨_, rfl, hb', rfl⟩
    refine StepL.other (k := 17) rfl (fun b f W hb hG hH => ?_) ?_
    · -- 17
      obtain ⟨d13, d16, d10, -⟩ : (f 13 = aggI .u8 (numB ((valB xb 32 - valB yb 32) % pV))) ∧ (f 16 = aggI .u8 (numB ((valB xb 32 - valB yb 32) % pV))) ∧ (f 10 = .bool true) ∧ True := hH
      generalize hA : putL _ _ _ _ = A
      have q18 : A.eval (.tmp 18) = aggI .u8 (numB ((valB xb 32 - valB yb 32) % pV)) := by rw [← hA]; exact putL_look rfl rfl rfl d13
      have r18 : A.tmps[18]?.getD undef = aggI .u8 (numB ((valB xb 32 - valB yb 32) % pV)) := slot_get q18
      have q21 : A.eval (.tmp 21) = aggI .u8 (numB ((valB xb 32 - valB yb 32) % pV)) := by rw [← hA]; exact putL_look rfl rfl rfl d16
      have r21 : A.tmps[21]?.getD undef = aggI .u8 (numB ((valB xb 32 - valB yb 32) % pV)) := slot_get q21
      have q15 : A.eval (.tmp 15) = .bool true := by rw [← hA]; exact putL_look rfl rfl rfl d10
      have r15 : A.tmps[15]?.getD undef = .bool true := slot_get q15
      clear hA
      exact Does.eqlI (wanted_of (b := true) rfl rfl q15) 22 _ 5 _ _ rfl 32 und_a32 .u8 .u8 Tryd.underlying5 (by kernel_rfl) (by kernel_rfl) (numB ((valB xb 32 - valB yb 32) % pV)) (numB ((valB xb 32 - valB yb 32) % pV)) q18 q21 (numB_length _) (numB_length _) true (by simp) ⟨Below.refl _ _, rfl⟩
    refine StepL.other (k := 18) rfl (fun b f W hb hG hH => ?_) ?_
    · -- 18
      obtain ⟨d10, d17, -⟩ : (f 10 = .bool true) ∧ (f 17 = .bool true) ∧ True := hH
      generalize hA : putL _ _ _ _ = A
      have q15 : A.eval (.tmp 15) = .bool true := by rw [← hA]; exact putL_look rfl rfl rfl d10
      have r15 : A.tmps[15]?.getD undef = .bool true := slot_get q15
      have q22 : A.eval (.tmp 22) = .bool true := by rw [← hA]; exact putL_look rfl rfl rfl d17
      have r22 : A.tmps[22]?.getD undef = .bool true := slot_get q22
      clear hA
      refine Does.pure rfl (.bool true) ?_ ⟨Below.refl _ _, rfl⟩
      go_simp
    refine StepL.other (k := 19) rfl (fun b f W hb hG hH => ?_) ?_
    · -- 19
      obtain ⟨d18, d16, -⟩ : (f 18 = .bool true) ∧ (f 16 = aggI .u8 (numB ((valB xb 32 - valB yb 32) % pV))) ∧ True := hH
      generalize hA : putL _ _ _ _ = A
      have q23 : A.eval (.tmp 23) = .bool true := by rw [← hA]; exact putL_look rfl rfl rfl d18
      have r23 : A.tmps[23]?.getD undef = .bool true := slot_get q23
      clear hA
      refine Does.pure rfl (.bool true) ?_ ⟨Below.refl _ _, rfl⟩
      go_simp
    refine StepL.other (k := 20) rfl (fun b f W hb hG hH => ?_) ?_
    · -- 20
      obtain ⟨d19, -⟩ : (f 19 = .bool true) ∧ True := hH
      generalize hA : putL _ _ _ _ = A
      have q2 : A.eval (.tmp 2) = .pointer (some ⟨w.heap.size, 0, none⟩) := by rw [← hA]; exact putL_none rfl rfl rfl rfl
      have r2 : A.tmps[2]?.getD undef = .pointer (some ⟨w.heap.size, 0, none⟩) := slot_get q2
      have q24 : A.eval (.tmp 24) = .bool true := by rw [← hA]; exact putL_look rfl rfl rfl d19
      have r24 : A.tmps[24]?.getD undef = .bool true := slot_get q24
      clear hA
      exact Does.loadI (wanted_of (b := true) rfl rfl q24) 22 _ rfl 32 5 und_a32 info_a32 (w.heap.size) q2 .u8 (xb) (hG.1) (hxl) ⟨Below.refl _ _, rfl⟩
    refine StepL.other (k := 21) rfl (fun b f W hb hG hH => ?_) ?_
    · -- 21
      obtain ⟨d20, d19, -, -⟩ : (f 20 = aggI .u8 xb) ∧ (f 19 = .bool true) ∧ (f 19 = .bool true) ∧ True := hH
      generalize hA : putL _ _ _ _ = A
      have q25 : A.eval (.tmp 25) = aggI .u8 xb := by rw [← hA]; exact putL_look rfl rfl rfl d20
      have r25 : A.tmps[25]?.getD undef = aggI .u8 xb := slot_get q25
      have q24 : A.eval (.tmp 24) = .bool true := by rw [← hA]; exact putL_look rfl rfl rfl d19
      have r24 : A.tmps[24]?.getD undef = .bool true := slot_get q24
      clear hA
      refine Does.call (wanted_of (b := true) rfl rfl q24) _ _ (by go_simp) ((reduce_v xb W hxb hxl).mono ?_)
      rintro e w' ⟨rfl, hb'⟩
      exact ⟨_, rfl, hb', rfl⟩
    refine StepL.other (k := 22) rfl (fun b f W hb hG hH => ?_) ?_
    · -- 22
      obtain ⟨d19, -⟩ : (f 19 = .bool true) ∧ True := hH
      generalize hA : putL _ _ _ _ = A
      have q2 : A.eval (.tmp 2) = .pointer (some ⟨w.heap.size, 0, none⟩) := by rw [← hA]; exact putL_none rfl rfl rfl rfl
      have r2 : A.tmps[2]?.getD undef = .pointer (some ⟨w.heap.size, 0, none⟩) := slot_get q2
      have q24 : A.eval (.tmp 24) = .bool true := by rw [← hA]; exact putL_look rfl rfl rfl d19
      have r24 : A.tmps[24]?.getD undef = .bool true := slot_get q24
      clear hA
      exact Does.loadI (wanted_of (b := true) rfl rfl q24) 22 _ rfl 32 5 und_a32 info_a32 (w.heap.size) q2 .u8 (xb) (hG.1) (hxl) ⟨Below.refl _ _, rfl⟩
    refine StepL.other (k := 23) rfl (fun b f W hb hG hH => ?_) ?_
    · -- 23
      obtain ⟨d22, d21, d19, -⟩ : (f 22 = aggI .u8 xb) ∧ (f 21 = aggI .u8 (numB (valB xb 32 % pV))) ∧ (f 19 = .bool true) ∧ True := hH
      generalize hA : putL _ _ _ _ = A
      have q27 : A.eval (.tmp 27) = aggI .u8 xb := by rw [← hA]; exact putL_look rfl rfl rfl d22
      have r27 : A.tmps[27]?.getD undef = aggI .u8 xb := slot_get q27
      have q24 : A.eval (.tmp 24) = .bool true := by rw [← hA]; exact putL_look rfl rfl rfl d19
      have r24 : A.tmps[24]?.getD undef = .bool true := slot_get q24
      clear hA
      refine Does.call (wanted_of (b := true) rfl rfl q24) _ _ (by go_simp) ((ref_reduce_v xb W hxb hxl).mono ?_)
      rintro e w' ⟨rfl, hb'⟩
      exact ⟨_, rfl, hb', rfl⟩
    refine StepL.other (k := 24) rfl (fun b f W hb hG hH => ?_) ?_
    · -- 24
      obtain ⟨d21, d23, d19, -⟩ : (f 21 = aggI .u8 (numB (valB xb 32 % pV))) ∧ (f 23 = aggI .u8 (numB (valB xb 32 % pV))) ∧ (f 19 = .bool true) ∧ True := hH
      generalize hA : putL _ _ _ _ = A
      have q26 : A.eval (.tmp 26) = aggI .u8 (numB (valB xb 32 % pV)) := by rw [← hA]; exact putL_look rfl rfl rfl d21
      have r26 : A.tmps[26]?.getD undef = aggI .u8 (numB (valB xb 32 % pV)) := slot_get q26
      have q28 : A.eval (.tmp 28) = aggI .u8 (numB (valB xb 32 % pV)) := by rw [← hA]; exact putL_look rfl rfl rfl d23
      have r28 : A.tmps[28]?.getD undef = aggI .u8 (numB (valB xb 32 % pV)) := slot_get q28
      have q24 : A.eval (.tmp 24) = .bool true := by rw [← hA]; exact putL_look rfl rfl rfl d19
      have r24 : A.tmps[24]?.getD undef = .bool true := slot_get q24
      clear hA
      exact Does.eqlI (wanted_of (b := true) rfl rfl q24) 22 _ 5 _ _ rfl 32 und_a32 .u8 .u8 Tryd.underlying5 (by kernel_rfl) (by kernel_rfl) (numB (valB xb 32 % pV)) (numB (valB xb 32 % pV)) q26 q28 (numB_length _) (numB_length _) true (by simp) ⟨Below.refl _ _, rfl⟩
    refine StepL.other (k := 25) rfl (fun b f W hb hG hH => ?_) ?_
    · -- 25
      obtain ⟨d19, d24, -⟩ : (f 19 = .bool true) ∧ (f 24 = .bool true) ∧ True := hH
      generalize hA : putL _ _ _ _ = A
      have q24 : A.eval (.tmp 24) = .bool true := by rw [← hA]; exact putL_look rfl rfl rfl d19
      have r24 : A.tmps[24]?.getD undef = .bool true := slot_get q24
      have q29 : A.eval (.tmp 29) = .bool true := by rw [← hA]; exact putL_look rfl rfl rfl d24
      have r29 : A.tmps[29]?.getD undef = .bool true := slot_get q29
      clear hA
      refine Does.pure rfl (.bool true) ?_ ⟨Below.refl _ _, rfl⟩
      go_simp
    refine StepL.other (k := 26) rfl (fun b f W hb hG hH => ?_) ?_
    · -- 26
      obtain ⟨d25, d23, -⟩ : (f 25 = .bool true) ∧ (f 23 = aggI .u8 (numB (valB xb 32 % pV))) ∧ True := hH
      generalize hA : putL _ _ _ _ = A
      have q30 : A.eval (.tmp 30) = .bool true := by rw [← hA]; exact putL_look rfl rfl rfl d25
      have r30 : A.tmps[30]?.getD undef = .bool true := slot_get q30
      clear hA
      refine Does.pure rfl (.bool true) ?_ ⟨Below.refl _ _, rfl⟩
      go_simp
    refine StepL.other (k := 27) rfl (fun b f W hb hG hH => ?_) ?_
    · -- 27
      obtain ⟨d26, -⟩ : (f 26 = .bool true) ∧ True := hH
      generalize hA : putL _ _ _ _ = A
      have q2 : A.eval (.tmp 2) = .pointer (some ⟨w.heap.size, 0, none⟩) := by rw [← hA]; exact putL_none rfl rfl rfl rfl
      have r2 : A.tmps[2]?.getD undef = .pointer (some ⟨w.heap.size, 0, none⟩) := slot_get q2
      have q31 : A.eval (.tmp 31) = .bool true := by rw [← hA]; exact putL_look rfl rfl rfl d26
      have r31 : A.tmps[31]?.getD undef = .bool true := slot_get q31
      clear hA
      exact Does.loadI (wanted_of (b := true) rfl rfl q31) 22 _ rfl 32 5 und_a32 info_a32 (w.heap.size) q2 .u8 (xb) (hG.1) (hxl) ⟨Below.refl _ _, rfl⟩
    refine StepL.other (k := 28) rfl (fun b f W hb hG hH => ?_) ?_
    · -- 28
      obtain ⟨d27, d26, -, -⟩ : (f 27 = aggI .u8 xb) ∧ (f 26 = .bool true) ∧ (f 26 = .bool true) ∧ True := hH
      generalize hA : putL _ _ _ _ = A
      have q32 : A.eval (.tmp 32) = aggI .u8 xb := by rw [← hA]; exact putL_look rfl rfl rfl d27
      have r32 : A.tmps[32]?.getD undef = aggI .u8 xb := slot_get q32
      have q31 : A.eval (.tmp 31) = .bool true := by rw [← hA]; exact putL_look rfl rfl rfl d26
      have r31 : A.tmps[31]?.getD undef = .bool true := slot_get q31
      clear hA
      refine Does.call (wanted_of (b := true) rfl rfl q31) _ _ (by go_simp) ((fright_v xb W hxb hxl).mono ?_)
      rintro e w' ⟨rfl, hb'⟩
      exact ⟨_, rfl, hb', rfl⟩
    refine StepL.other (k := 29) rfl (fun b f W hb hG hH => ?_) ?_
    · -- 29
      obtain ⟨d26, -⟩ : (f 26 = .bool true) ∧ True := hH
      generalize hA : putL _ _ _ _ = A
      have q2 : A.eval (.tmp 2) = .pointer (some ⟨w.heap.size, 0, none⟩) := by rw [← hA]; exact putL_none rfl rfl rfl rfl
      have r2 : A.tmps[2]?.getD undef = .pointer (some ⟨w.heap.size, 0, none⟩) := slot_get q2
      have q31 : A.eval (.tmp 31) = .bool true := by rw [← hA]; exact putL_look rfl rfl rfl d26
      have r31 : A.tmps[31]?.getD undef = .bool true := slot_get q31
      clear hA
      exact Does.loadI (wanted_of (b := true) rfl rfl q31) 22 _ rfl 32 5 und_a32 info_a32 (w.heap.size) q2 .u8 (xb) (hG.1) (hxl) ⟨Below.refl _ _, rfl⟩
    refine StepL.other (k := 30) rfl (fun b f W hb hG hH => ?_) ?_
    · -- 30
      obtain ⟨d29, d28, d26, -⟩ : (f 29 = aggI .u8 xb) ∧ (f 28 = .bool (decide (valB xb 32 < pV))) ∧ (f 26 = .bool true) ∧ True := hH
      generalize hA : putL _ _ _ _ = A
      have q34 : A.eval (.tmp 34) = aggI .u8 xb := by rw [← hA]; exact putL_look rfl rfl rfl d29
      have r34 : A.tmps[34]?.getD undef = aggI .u8 xb := slot_get q34
      have q31 : A.eval (.tmp 31) = .bool true := by rw [← hA]; exact putL_look rfl rfl rfl d26
      have r31 : A.tmps[31]?.getD undef = .bool true := slot_get q31
      clear hA
      refine Does.call (wanted_of (b := true) rfl rfl q31) _ _ (by go_simp) ((ref_right_v xb W hxb hxl).mono ?_)
      rintro e w' ⟨rfl, hb'⟩
      exact ⟨_, rfl, hb', rfl⟩
    refine StepL.other (k := 31) rfl (fun b f W hb hG hH => ?_) ?_
    · -- 31
      obtain ⟨d28, d30, d26, -⟩ : (f 28 = .bool (decide (valB xb 32 < pV))) ∧ (f 30 = .bool (decide (valB xb 32 < pV))) ∧ (f 26 = .bool true) ∧ True := hH
      generalize hA : putL _ _ _ _ = A
      have q33 : A.eval (.tmp 33) = .bool (decide (valB xb 32 < pV)) := by rw [← hA]; exact putL_look rfl rfl rfl d28
      have r33 : A.tmps[33]?.getD undef = .bool (decide (valB xb 32 < pV)) := slot_get q33
      have q35 : A.eval (.tmp 35) = .bool (decide (valB xb 32 < pV)) := by rw [← hA]; exact putL_look rfl rfl rfl d30
      have r35 : A.tmps[35]?.getD undef = .bool (decide (valB xb 32 < pV)) := slot_get q35
      have q31 : A.eval (.tmp 31) = .bool true := by rw [← hA]; exact putL_look rfl rfl rfl d26
      have r31 : A.tmps[31]?.getD undef = .bool true := slot_get q31
      clear hA
      refine Does.pure (wanted_of (b := true) rfl rfl q31) (.bool true) ?_ ⟨Below.refl _ _, rfl⟩
      go_simp
    refine StepL.other (k := 32) rfl (fun b f W hb hG hH => ?_) ?_
    · -- 32
      obtain ⟨d26, d31, -⟩ : (f 26 = .bool true) ∧ (f 31 = .bool true) ∧ True := hH
      generalize hA : putL _ _ _ _ = A
      have q31 : A.eval (.tmp 31) = .bool true := by rw [← hA]; exact putL_look rfl rfl rfl d26
      have r31 : A.tmps[31]?.getD undef = .bool true := slot_get q31
      have q36 : A.eval (.tmp 36) = .bool true := by rw [← hA]; exact putL_look rfl rfl rfl d31
      have r36 : A.tmps[36]?.getD undef = .bool true := slot_get q36
      clear hA
      refine Does.pure rfl (.bool true) ?_ ⟨Below.refl _ _, rfl⟩
      go_simp
    refine StepL.other (k := 33) rfl (fun b f W hb hG hH => ?_) ?_
    · -- 33
      obtain ⟨d32, d30, d0, d1, d2, d3, d4, d5, d6, d7, d8, d9, d10, d11, d12, d13, d14, d15, d16, d17, d18, d19, d20, d21, d22, d23, d24, d25, d26, d27, d28, d29, -, d31, -, -⟩ : (f 32 = .bool true) ∧ (f 30 = .bool (decide (valB xb 32 < pV))) ∧ (f 0 = .bool true) ∧ (f 1 = .bool true) ∧ (f 2 = aggI .u8 xb) ∧ (f 3 = aggI .u8 yb) ∧ (f 4 = aggI .u8 (numB ((valB xb 32 + valB yb 32) % pV))) ∧ (f 5 = aggI .u8 xb) ∧ (f 6 = aggI .u8 yb) ∧ (f 7 = aggI .u8 (numB ((valB xb 32 + valB yb 32) % pV))) ∧ (f 8 = .bool true) ∧ (f 9 = .bool true) ∧ (f 10 = .bool true) ∧ (f 11 = aggI .u8 xb) ∧ (f 12 = aggI .u8 yb) ∧ (f 13 = aggI .u8 (numB ((valB xb 32 - valB yb 32) % pV))) ∧ (f 14 = aggI .u8 xb) ∧ (f 15 = aggI .u8 yb) ∧ (f 16 = aggI .u8 (numB ((valB xb 32 - valB yb 32) % pV))) ∧ (f 17 = .bool true) ∧ (f 18 = .bool true) ∧ (f 19 = .bool true) ∧ (f 20 = aggI .u8 xb) ∧ (f 21 = aggI .u8 (numB (valB xb 32 % pV))) ∧ (f 22 = aggI .u8 xb) ∧ (f 23 = aggI .u8 (numB (valB xb 32 % pV))) ∧ (f 24 = .bool true) ∧ (f 25 = .bool true) ∧ (f 26 = .bool true) ∧ (f 27 = aggI .u8 xb) ∧ (f 28 = .bool (decide (valB xb 32 < pV))) ∧ (f 29 = aggI .u8 xb) ∧ (f 30 = .bool (decide (valB xb 32 < pV))) ∧ (f 31 = .bool true) ∧ (f 32 = .bool true) ∧ True := hH
      generalize hA : putL _ _ _ _ = A
      have q37 : A.eval (.tmp 37) = .bool true := by rw [← hA]; exact putL_look rfl rfl rfl d32
      have r37 : A.tmps[37]?.getD undef = .bool true := slot_get q37
      clear hA
      refine Does.pure rfl (.bool true) ?_ ⟨Below.refl _ _, rfl⟩
      go_simp
    exact trivial
  ·
    intro f W hG hH
    obtain ⟨d0, d1, d2, d3, d4, d5, d6, d7, d8, d9, d10, d11, d12, d13, d14, d15, d16, d17, d18, d19, d20, d21, d22, d23, d24, d25, d26, d27, d28, d29, d30, d31, d32, d33, -⟩ : (f 0 = .bool true) ∧ (f 1 = .bool true) ∧ (f 2 = aggI .u8 xb) ∧ (f 3 = aggI .u8 yb) ∧ (f 4 = aggI .u8 (numB ((valB xb 32 + valB yb 32) % pV))) ∧ (f 5 = aggI .u8 xb) ∧ (f 6 = aggI .u8 yb) ∧ (f 7 = aggI .u8 (numB ((valB xb 32 + valB yb 32) % pV))) ∧ (f 8 = .bool true) ∧ (f 9 = .bool true) ∧ (f 10 = .bool true) ∧ (f 11 = aggI .u8 xb) ∧ (f 12 = aggI .u8 yb) ∧ (f 13 = aggI .u8 (numB ((valB xb 32 - valB yb 32) % pV))) ∧ (f 14 = aggI .u8 xb) ∧ (f 15 = aggI .u8 yb) ∧ (f 16 = aggI .u8 (numB ((valB xb 32 - valB yb 32) % pV))) ∧ (f 17 = .bool true) ∧ (f 18 = .bool true) ∧ (f 19 = .bool true) ∧ (f 20 = aggI .u8 xb) ∧ (f 21 = aggI .u8 (numB (valB xb 32 % pV))) ∧ (f 22 = aggI .u8 xb) ∧ (f 23 = aggI .u8 (numB (valB xb 32 % pV))) ∧ (f 24 = .bool true) ∧ (f 25 = .bool true) ∧ (f 26 = .bool true) ∧ (f 27 = aggI .u8 xb) ∧ (f 28 = .bool (decide (valB xb 32 < pV))) ∧ (f 29 = aggI .u8 xb) ∧ (f 30 = .bool (decide (valB xb 32 < pV))) ∧ (f 31 = .bool true) ∧ (f 32 = .bool true) ∧ (f 33 = .bool true) ∧ True := hH
    rw [show List.range (List.length [[], [0, 0], [1], [1], [2, 3, 1, 1], [1], [1], [5, 6, 4, 1], [4, 7, 1], [1, 8], [9, 7], [10], [10], [11, 12, 10, 10], [10], [10], [14, 15, 13, 10], [13, 16, 10], [10, 17], [18, 16], [19], [20, 19, 19], [19], [22, 21, 19], [21, 23, 19], [19, 24], [25, 23], [26], [27, 26, 26], [26], [29, 28, 26], [28, 30, 26], [26, 31], [32, 30, 0, 1, 2, 3, 4, 5, 6, 7, 8, 9, 10, 11, 12, 13, 14, 15, 16, 17, 18, 19, 20, 21, 22, 23, 24, 25, 26, 27, 28, 29, 30, 31, 32]]) = [0, 1, 2, 3, 4, 5, 6, 7, 8, 9, 10, 11, 12, 13, 14, 15, 16, 17, 18, 19, 20, 21, 22, 23, 24, 25, 26, 27, 28, 29, 30, 31, 32, 33] from rfl]
    simp only [putL, List.getElem?_cons_zero, List.getElem?_cons_succ, Option.join, Option.bind_some, id_eq, Act.put, List.setIfInBounds_toArray, List.set_cons_zero, List.set_cons_succ, d0, d1, d2, d3, d4, d5, d6, d7, d8, d9, d10, d11, d12, d13, d14, d15, d16, d17, d18, d19, d20, d21, d22, d23, d24, d25, d26, d27, d28, d29, d30, d31, d32, d33]
    clear d0 d1 d2 d3 d4 d5 d6 d7 d8 d9 d10 d11 d12 d13 d14 d15 d16 d17 d18 d19 d20 d21 d22 d23 d24 d25 d26 d27 d28 d29 d30 d31 d32 d33
    go_wp2
    go_ret
    exact ⟨rfl, hG.2.2⟩
end Go.Proofs.YtlhloldjlfcchaaDoor
