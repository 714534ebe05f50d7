/- The laws on products and on what is left, walked. -/
import Derived.Test.YteocdjgdljfpdaaAlive9
namespace Go.Proofs.Yteocdjgdljfpdaa
open Go.RowKit Go.Shelf
set_option linter.unusedVariables false
set_option maxRecDepth 8000

set_option maxHeartbeats 4000000 in
theorem law_muladds (xb yb cb : List Int) (w : World) (hxb : Bytes xb) (hxl : xb.length = 32) (hyb : Bytes yb) (hyl : yb.length = 32) (hcb : Bytes cb) (hcl : cb.length = 32) :
    Calls Try.prog 4 #[aggI .u8 xb, aggI .u8 yb, aggI .u8 cb] w fun e w' => e = .returned (.bool true) ∧ Below w.heap.size w w' := by
  go_enter Try.func4, Try.ntmps4
  go_wp2_with (first
    | (with_reducible refine at_op (o := ⟨some 3, _, _, _, _, _⟩) ?_; refine wpList_boxI rfl 23 _ rfl .u8 xb rfl ?_; intro w1 A1 s1 b1)
    | (with_reducible refine at_op (o := ⟨some 4, _, _, _, _, _⟩) ?_; refine wpList_boxI rfl 23 _ rfl .u8 yb rfl ?_; intro w2 A2 s2 b2; have X2 := A1.below b2)
    | (with_reducible refine at_op (o := ⟨some 5, _, _, _, _, _⟩) ?_; refine wpList_boxI rfl 23 _ rfl .u8 cb rfl ?_; intro w3 A3 s3 b3; have X3 := X2.below b3; have Y3 := A2.below b3))
  refine wp_region_ord [[], [0, 0], [1], [1], [1], [2, 3, 4, 1, 1], [1], [1], [1], [6, 7, 8, 5, 1], [5, 9, 1], [1, 10], [11, 9, 0, 1, 2, 3, 4, 5, 6, 7, 8, 9, 10, 11]] [some 7, some 8, some 9, some 10, some 11, some 12, some 13, some 14, some 15, some 16, some 17, some 18, some 6] 13 (fun b w' => Arr .u8 w' w.heap.size xb ∧ Arr .u8 w' w1.heap.size yb ∧ Arr .u8 w' w2.heap.size cb ∧ Below w.heap.size w w') (fun opn f _ => match opn with | 0 => f 0 = .bool true | 1 => f 1 = .bool true | 2 => f 2 = aggI .u8 xb | 3 => f 3 = aggI .u8 yb | 4 => f 4 = aggI .u8 cb | 5 => f 5 = aggI .u8 (numB ((valB cb 32 + valB xb 32 * valB yb 32) % ordV)) | 6 => f 6 = aggI .u8 xb | 7 => f 7 = aggI .u8 yb | 8 => f 8 = aggI .u8 cb | 9 => f 9 = aggI .u8 (numB ((valB cb 32 + valB xb 32 * valB yb 32) % ordV)) | 10 => f 10 = .bool true | 11 => f 11 = .bool true | 12 => f 12 = .bool true | _ => True) (fun _ _ _ => True) (by kernel_rfl) (by kernel_rfl) (by kernel_rfl) (by kernel_rfl) (fun b v v' hb h => ⟨h.1.below hb, h.2.1.below hb, h.2.2.1.below hb, below_then h.2.2.2 hb⟩) (fun _ _ _ _ _ h => h) (fun _ _ _ _ _ _ _ h => h) ⟨X3.drew, Y3.drew, A3.drew, (below_then (below_then b1 b2) b3).drew⟩ ?_ ?_
  ·
    refine StepL.other (k := 0) rfl (fun b f W hb hG hH => ?_) ?_
    · -- 0
      clear hH
      generalize hA : putL _ _ _ _ = A
      clear hA
      refine Does.call rfl _ _ (by go_simp) ((alive_v W).mono ?_)
      rintro e w' ⟨rfl, hb'⟩
      exact ⟨_, rfl, hb', rfl⟩
    refine StepL.other (k := 1) rfl (fun b f W hb hG hH => ?_) ?_
    · -- 1
      obtain ⟨d0, -, -⟩ : (f 0 = .bool true) ∧ (f 0 = .bool true) ∧ True := hH
      generalize hA : putL _ _ _ _ = A
      have q7 : A.eval (.tmp 7) = .bool true := by rw [← hA]; exact putL_look rfl rfl rfl d0
      have r7 : A.tmps[7]?.getD undef = .bool true := slot_get q7
      clear hA
      refine Does.pure rfl (.bool true) ?_ ⟨Below.refl _ _, rfl⟩
      go_simp
    refine StepL.other (k := 2) rfl (fun b f W hb hG hH => ?_) ?_
    · -- 2
      obtain ⟨d1, -⟩ : (f 1 = .bool true) ∧ True := hH
      generalize hA : putL _ _ _ _ = A
      have q3 : A.eval (.tmp 3) = .pointer (some ⟨w.heap.size, 0, none⟩) := by rw [← hA]; exact putL_none rfl rfl rfl rfl
      have r3 : A.tmps[3]?.getD undef = .pointer (some ⟨w.heap.size, 0, none⟩) := slot_get q3
      have q8 : A.eval (.tmp 8) = .bool true := by rw [← hA]; exact putL_look rfl rfl rfl d1
      have r8 : A.tmps[8]?.getD undef = .bool true := slot_get q8
      clear hA
      exact Does.loadI (wanted_of (b := true) rfl rfl q8) 23 _ rfl 32 5 und_a32 info_a32 (w.heap.size) q3 .u8 (xb) (hG.1) (hxl) ⟨Below.refl _ _, rfl⟩
    refine StepL.other (k := 3) rfl (fun b f W hb hG hH => ?_) ?_
    · -- 3
      obtain ⟨d1, -⟩ : (f 1 = .bool true) ∧ True := hH
      generalize hA : putL _ _ _ _ = A
      have q4 : A.eval (.tmp 4) = .pointer (some ⟨w1.heap.size, 0, none⟩) := by rw [← hA]; exact putL_none rfl rfl rfl rfl
      have r4 : A.tmps[4]?.getD undef = .pointer (some ⟨w1.heap.size, 0, none⟩) := slot_get q4
      have q8 : A.eval (.tmp 8) = .bool true := by rw [← hA]; exact putL_look rfl rfl rfl d1
      have r8 : A.tmps[8]?.getD undef = .bool true := slot_get q8
      clear hA
      exact Does.loadI (wanted_of (b := true) rfl rfl q8) 23 _ rfl 32 5 und_a32 info_a32 (w1.heap.size) q4 .u8 (yb) (hG.2.1) (hyl) ⟨Below.refl _ _, rfl⟩
    refine StepL.other (k := 4) rfl (fun b f W hb hG hH => ?_) ?_
    · -- 4
      obtain ⟨d1, -⟩ : (f 1 = .bool true) ∧ True := hH
      generalize hA : putL _ _ _ _ = A
      have q5 : A.eval (.tmp 5) = .pointer (some ⟨w2.heap.size, 0, none⟩) := by rw [← hA]; exact putL_none rfl rfl rfl rfl
      have r5 : A.tmps[5]?.getD undef = .pointer (some ⟨w2.heap.size, 0, none⟩) := slot_get q5
      have q8 : A.eval (.tmp 8) = .bool true := by rw [← hA]; exact putL_look rfl rfl rfl d1
      have r8 : A.tmps[8]?.getD undef = .bool true := slot_get q8
      clear hA
      exact Does.loadI (wanted_of (b := true) rfl rfl q8) 23 _ rfl 32 5 und_a32 info_a32 (w2.heap.size) q5 .u8 (cb) (hG.2.2.1) (hcl) ⟨Below.refl _ _, rfl⟩
    refine StepL.other (k := 5) rfl (fun b f W hb hG hH => ?_) ?_
    · -- 5
      obtain ⟨d2, d3, d4, d1, -, -⟩ : (f 2 = aggI .u8 xb) ∧ (f 3 = aggI .u8 yb) ∧ (f 4 = aggI .u8 cb) ∧ (f 1 = .bool true) ∧ (f 1 = .bool true) ∧ True := hH
      generalize hA : putL _ _ _ _ = A
      have q9 : A.eval (.tmp 9) = aggI .u8 xb := by rw [← hA]; exact putL_look rfl rfl rfl d2
      have r9 : A.tmps[9]?.getD undef = aggI .u8 xb := slot_get q9
      have q10 : A.eval (.tmp 10) = aggI .u8 yb := by rw [← hA]; exact putL_look rfl rfl rfl d3
      have r10 : A.tmps[10]?.getD undef = aggI .u8 yb := slot_get q10
      have q11 : A.eval (.tmp 11) = aggI .u8 cb := by rw [← hA]; exact putL_look rfl rfl rfl d4
      have r11 : A.tmps[11]?.getD undef = aggI .u8 cb := slot_get q11
      have q8 : A.eval (.tmp 8) = .bool true := by rw [← hA]; exact putL_look rfl rfl rfl d1
      have r8 : A.tmps[8]?.getD undef = .bool true := slot_get q8
      clear hA
      refine Does.call (wanted_of (b := true) rfl rfl q8) _ _ (by go_simp) ((muladd_v xb yb cb W hxb hyb hcb hxl hyl hcl).mono ?_)
      rintro e w' ⟨rfl, hb'⟩
      exact ⟨_, rfl, hb', rfl⟩
    refine StepL.other (k := 6) rfl (fun b f W hb hG hH => ?_) ?_
    · -- 6
      obtain ⟨d1, -⟩ : (f 1 = .bool true) ∧ True := hH
      generalize hA : putL _ _ _ _ = A
      have q3 : A.eval (.tmp 3) = .pointer (some ⟨w.heap.size, 0, none⟩) := by rw [← hA]; exact putL_none rfl rfl rfl rfl
      have r3 : A.tmps[3]?.getD undef = .pointer (some ⟨w.heap.size, 0, none⟩) := slot_get q3
      have q8 : A.eval (.tmp 8) = .bool true := by rw [← hA]; exact putL_look rfl rfl rfl d1
      have r8 : A.tmps[8]?.getD undef = .bool true := slot_get q8
      clear hA
      exact Does.loadI (wanted_of (b := true) rfl rfl q8) 23 _ rfl 32 5 und_a32 info_a32 (w.heap.size) q3 .u8 (xb) (hG.1) (hxl) ⟨Below.refl _ _, rfl⟩
    refine StepL.other (k := 7) rfl (fun b f W hb hG hH => ?_) ?_
    · -- 7
      obtain ⟨d1, -⟩ : (f 1 = .bool true) ∧ True := hH
      generalize hA : putL _ _ _ _ = A
      have q4 : A.eval (.tmp 4) = .pointer (some ⟨w1.heap.size, 0, none⟩) := by rw [← hA]; exact putL_none rfl rfl rfl rfl
      have r4 : A.tmps[4]?.getD undef = .pointer (some ⟨w1.heap.size, 0, none⟩) := slot_get q4
      have q8 : A.eval (.tmp 8) = .bool true := by rw [← hA]; exact putL_look rfl rfl rfl d1
      have r8 : A.tmps[8]?.getD undef = .bool true := slot_get q8
      clear hA
      exact Does.loadI (wanted_of (b := true) rfl rfl q8) 23 _ rfl 32 5 und_a32 info_a32 (w1.heap.size) q4 .u8 (yb) (hG.2.1) (hyl) ⟨Below.refl _ _, rfl⟩
    refine StepL.other (k := 8) rfl (fun b f W hb hG hH => ?_) ?_
    · -- 8
      obtain ⟨d1, -⟩ : (f 1 = .bool true) ∧ True := hH
      generalize hA : putL _ _ _ _ = A
      have q5 : A.eval (.tmp 5) = .pointer (some ⟨w2.heap.size, 0, none⟩) := by rw [← hA]; exact putL_none rfl rfl rfl rfl
      have r5 : A.tmps[5]?.getD undef = .pointer (some ⟨w2.heap.size, 0, none⟩) := slot_get q5
      have q8 : A.eval (.tmp 8) = .bool true := by rw [← hA]; exact putL_look rfl rfl rfl d1
      have r8 : A.tmps[8]?.getD undef = .bool true := slot_get q8
      clear hA
      exact Does.loadI (wanted_of (b := true) rfl rfl q8) 23 _ rfl 32 5 und_a32 info_a32 (w2.heap.size) q5 .u8 (cb) (hG.2.2.1) (hcl) ⟨Below.refl _ _, rfl⟩
    refine StepL.other (k := 9) rfl (fun b f W hb hG hH => ?_) ?_
    · -- 9
      obtain ⟨d6, d7, d8, d5, d1, -⟩ : (f 6 = aggI .u8 xb) ∧ (f 7 = aggI .u8 yb) ∧ (f 8 = aggI .u8 cb) ∧ (f 5 = aggI .u8 (numB ((valB cb 32 + valB xb 32 * valB yb 32) % ordV))) ∧ (f 1 = .bool true) ∧ True := hH
      generalize hA : putL _ _ _ _ = A
      have q13 : A.eval (.tmp 13) = aggI .u8 xb := by rw [← hA]; exact putL_look rfl rfl rfl d6
      have r13 : A.tmps[13]?.getD undef = aggI .u8 xb := slot_get q13
      have q14 : A.eval (.tmp 14) = aggI .u8 yb := by rw [← hA]; exact putL_look rfl rfl rfl d7
      have r14 : A.tmps[14]?.getD undef = aggI .u8 yb := slot_get q14
      have q15 : A.eval (.tmp 15) = aggI .u8 cb := by rw [← hA]; exact putL_look rfl rfl rfl d8
      have r15 : A.tmps[15]?.getD undef = aggI .u8 cb := slot_get q15
      have q8 : A.eval (.tmp 8) = .bool true := by rw [← hA]; exact putL_look rfl rfl rfl d1
      have r8 : A.tmps[8]?.getD undef = .bool true := slot_get q8
      clear hA
      refine Does.call (wanted_of (b := true) rfl rfl q8) _ _ (by go_simp) ((ref_muladd_v xb yb cb W hxb hyb hcb hxl hyl hcl).mono ?_)
      rintro e w' ⟨rfl, hb'⟩
      exact ⟨_, rfl, hb', rfl⟩
    refine StepL.other (k := 10) rfl (fun b f W hb hG hH => ?_) ?_
    · -- 10
      obtain ⟨d5, d9, d1, -⟩ : (f 5 = aggI .u8 (numB ((valB cb 32 + valB xb 32 * valB yb 32) % ordV))) ∧ (f 9 = aggI .u8 (numB ((valB cb 32 + valB xb 32 * valB yb 32) % ordV))) ∧ (f 1 = .bool true) ∧ True := hH
      generalize hA : putL _ _ _ _ = A
      have q12 : A.eval (.tmp 12) = aggI .u8 (numB ((valB cb 32 + valB xb 32 * valB yb 32) % ordV)) := by rw [← hA]; exact putL_look rfl rfl rfl d5
      have r12 : A.tmps[12]?.getD undef = aggI .u8 (numB ((valB cb 32 + valB xb 32 * valB yb 32) % ordV)) := slot_get q12
      have q16 : A.eval (.tmp 16) = aggI .u8 (numB ((valB cb 32 + valB xb 32 * valB yb 32) % ordV)) := by rw [← hA]; exact putL_look rfl rfl rfl d9
      have r16 : A.tmps[16]?.getD undef = aggI .u8 (numB ((valB cb 32 + valB xb 32 * valB yb 32) % ordV)) := slot_get q16
      have q8 : A.eval (.tmp 8) = .bool true := by rw [← hA]; exact putL_look rfl rfl rfl d1
      have r8 : A.tmps[8]?.getD undef = .bool true := slot_get q8
      clear hA
      exact Does.eqlI (wanted_of (b := true) rfl rfl q8) 23 _ 5 _ _ rfl 32 und_a32 .u8 .u8 Try.underlying5 (by kernel_rfl) (by kernel_rfl) (numB ((valB cb 32 + valB xb 32 * valB yb 32) % ordV)) (numB ((valB cb 32 + valB xb 32 * valB yb 32) % ordV)) q12 q16 (numB_length _) (numB_length _) true (by simp) ⟨Below.refl _ _, rfl⟩
    refine StepL.other (k := 11) rfl (fun b f W hb hG hH => ?_) ?_
    · -- 11
      obtain ⟨d1, d10, -⟩ : (f 1 = .bool true) ∧ (f 10 = .bool true) ∧ True := hH
      generalize hA : putL _ _ _ _ = A
      have q8 : A.eval (.tmp 8) = .bool true := by rw [← hA]; exact putL_look rfl rfl rfl d1
      have r8 : A.tmps[8]?.getD undef = .bool true := slot_get q8
      have q17 : A.eval (.tmp 17) = .bool true := by rw [← hA]; exact putL_look rfl rfl rfl d10
      have r17 : A.tmps[17]?.getD undef = .bool true := slot_get q17
      clear hA
      refine Does.pure rfl (.bool true) ?_ ⟨Below.refl _ _, rfl⟩
      go_simp
    refine StepL.other (k := 12) rfl (fun b f W hb hG hH => ?_) ?_
    · -- 12
      obtain ⟨d11, d9, d0, d1, d2, d3, d4, d5, d6, d7, d8, -, d10, -, -⟩ : (f 11 = .bool true) ∧ (f 9 = aggI .u8 (numB ((valB cb 32 + valB xb 32 * valB yb 32) % ordV))) ∧ (f 0 = .bool true) ∧ (f 1 = .bool true) ∧ (f 2 = aggI .u8 xb) ∧ (f 3 = aggI .u8 yb) ∧ (f 4 = aggI .u8 cb) ∧ (f 5 = aggI .u8 (numB ((valB cb 32 + valB xb 32 * valB yb 32) % ordV))) ∧ (f 6 = aggI .u8 xb) ∧ (f 7 = aggI .u8 yb) ∧ (f 8 = aggI .u8 cb) ∧ (f 9 = aggI .u8 (numB ((valB cb 32 + valB xb 32 * valB yb 32) % ordV))) ∧ (f 10 = .bool true) ∧ (f 11 = .bool true) ∧ True := hH
      generalize hA : putL _ _ _ _ = A
      have q18 : A.eval (.tmp 18) = .bool true := by rw [← hA]; exact putL_look rfl rfl rfl d11
      have r18 : A.tmps[18]?.getD undef = .bool true := slot_get q18
      clear hA
      refine Does.pure rfl (.bool true) ?_ ⟨Below.refl _ _, rfl⟩
      go_simp
    exact trivial
  ·
    intro f W hG hH
    obtain ⟨d0, d1, d2, d3, d4, d5, d6, d7, d8, d9, d10, d11, d12, -⟩ : (f 0 = .bool true) ∧ (f 1 = .bool true) ∧ (f 2 = aggI .u8 xb) ∧ (f 3 = aggI .u8 yb) ∧ (f 4 = aggI .u8 cb) ∧ (f 5 = aggI .u8 (numB ((valB cb 32 + valB xb 32 * valB yb 32) % ordV))) ∧ (f 6 = aggI .u8 xb) ∧ (f 7 = aggI .u8 yb) ∧ (f 8 = aggI .u8 cb) ∧ (f 9 = aggI .u8 (numB ((valB cb 32 + valB xb 32 * valB yb 32) % ordV))) ∧ (f 10 = .bool true) ∧ (f 11 = .bool true) ∧ (f 12 = .bool true) ∧ True := hH
    rw [show List.range (List.length [[], [0, 0], [1], [1], [1], [2, 3, 4, 1, 1], [1], [1], [1], [6, 7, 8, 5, 1], [5, 9, 1], [1, 10], [11, 9, 0, 1, 2, 3, 4, 5, 6, 7, 8, 9, 10, 11]]) = [0, 1, 2, 3, 4, 5, 6, 7, 8, 9, 10, 11, 12] from rfl]
    simp only [putL, List.getElem?_cons_zero, List.getElem?_cons_succ, Option.join, Option.bind_some, id_eq, Act.put, List.setIfInBounds_toArray, List.set_cons_zero, List.set_cons_succ, d0, d1, d2, d3, d4, d5, d6, d7, d8, d9, d10, d11, d12]
    clear d0 d1 d2 d3 d4 d5 d6 d7 d8 d9 d10 d11 d12
    go_wp2
    go_ret
    exact ⟨rfl, hG.2.2.2⟩
set_option maxHeartbeats 4000000 in
theorem law_reduces (xa yb : List Int) (w : World) (hxb : Bytes xa) (hxl : xa.length = 64) (hyb : Bytes yb) (hyl : yb.length = 32) :
    Calls Try.prog 3 #[aggI .u8 xa, aggI .u8 yb] w fun e w' => e = .returned (.bool true) ∧ Below w.heap.size w w' := by
  go_enter Try.func3, Try.ntmps3
  go_wp2_with (first
    | (with_reducible refine at_op (o := ⟨some 2, _, _, _, _, _⟩) ?_; refine wpList_boxI rfl 22 _ rfl .u8 xa rfl ?_; intro w1 A1 s1 b1)
    | (with_reducible refine at_op (o := ⟨some 3, _, _, _, _, _⟩) ?_; refine wpList_boxI rfl 23 _ rfl .u8 yb rfl ?_; intro w2 A2 s2 b2; have X2 := A1.below b2))
  refine wp_region_ord [[], [0, 0], [1], [2, 1, 1], [1], [4, 3, 1], [3, 5, 1], [1, 6], [7, 5], [8], [9, 8, 8], [8], [11, 10, 8], [10, 12, 8], [8, 13], [14, 12], [15], [16, 15, 15], [15], [18, 17, 15], [17, 19, 15], [15, 20], [21, 19], [22], [23, 22, 22], [22], [25, 24, 22], [24, 26, 22], [22, 27], [28, 26, 0, 1, 2, 3, 4, 5, 6, 7, 8, 9, 10, 11, 12, 13, 14, 15, 16, 17, 18, 19, 20, 21, 22, 23, 24, 25, 26, 27, 28]] [some 5, some 6, some 7, some 8, some 9, some 10, some 11, some 12, some 13, some 14, some 15, some 16, some 17, some 18, some 19, some 20, some 21, some 22, some 23, some 24, some 25, some 26, some 27, some 28, some 29, some 30, some 31, some 32, some 33, some 4] 30 (fun b w' => Arr .u8 w' w.heap.size xa ∧ Arr .u8 w' w1.heap.size yb ∧ Below w.heap.size w w') (fun opn f _ => match opn with | 0 => f 0 = .bool true | 1 => f 1 = .bool true | 2 => f 2 = aggI .u8 xa | 3 => f 3 = aggI .u8 (numB (valB xa 64 % ordV)) | 4 => f 4 = aggI .u8 xa | 5 => f 5 = aggI .u8 (numB (valB xa 64 % ordV)) | 6 => f 6 = .bool true | 7 => f 7 = .bool true | 8 => f 8 = .bool true | 9 => f 9 = aggI .u8 yb | 10 => f 10 = .bool (ltL yb) | 11 => f 11 = aggI .u8 yb | 12 => f 12 = .bool (ltL yb) | 13 => f 13 = .bool true | 14 => f 14 = .bool true | 15 => f 15 = .bool true | 16 => f 16 = aggI .u8 yb | 17 => f 17 = aggI .u8 (numB ((-valB yb 32) % ordV)) | 18 => f 18 = aggI .u8 yb | 19 => f 19 = aggI .u8 (numB ((-valB yb 32) % ordV)) | 20 => f 20 = .bool true | 21 => f 21 = .bool true | 22 => f 22 = .bool true | 23 => f 23 = aggI .u8 yb | 24 => f 24 = aggI .u8 (clampS yb) | 25 => f 25 = aggI .u8 yb | 26 => f 26 = aggI .u8 (clampS yb) | 27 => f 27 = .bool true | 28 => f 28 = .bool true | 29 => f 29 = .bool true | _ => True) (fun _ _ _ => True) (by kernel_rfl) (by kernel_rfl) (by kernel_rfl) (by kernel_rfl) (fun b v v' hb h => ⟨h.1.below hb, h.2.1.below hb, below_then h.2.2 hb⟩) (fun _ _ _ _ _ h => h) (fun _ _ _ _ _ _ _ h => h) ⟨X2.drew, A2.drew, (below_then b1 b2).drew⟩ ?_ ?_
  ·
    refine StepL.other (k := 0) rfl (fun b f W hb hG hH => ?_) ?_
    · -- 0
      clear hH
      generalize hA : putL _ _ _ _ = A
      clear hA
      refine Does.call rfl _ _ (by go_simp) ((alive_v W).mono ?_)
      rintro e w' ⟨rfl, hb'⟩
      exact ⟨_, rfl, hb', rfl⟩
    refine StepL.other (k := 1) rfl (fun b f W hb hG hH => ?_) ?_
    · -- 1
      obtain ⟨d0, -, -⟩ : (f 0 = .bool true) ∧ (f 0 = .bool true) ∧ True := hH
      generalize hA : putL _ _ _ _ = A
      have q5 : A.eval (.tmp 5) = .bool true := by rw [← hA]; exact putL_look rfl rfl rfl d0
      have r5 : A.tmps[5]?.getD undef = .bool true := slot_get q5
      clear hA
      refine Does.pure rfl (.bool true) ?_ ⟨Below.refl _ _, rfl⟩
      go_simp
    refine StepL.other (k := 2) rfl (fun b f W hb hG hH => ?_) ?_
    · -- 2
      obtain ⟨d1, -⟩ : (f 1 = .bool true) ∧ True := hH
      generalize hA : putL _ _ _ _ = A
      have q2 : A.eval (.tmp 2) = .pointer (some ⟨w.heap.size, 0, none⟩) := by rw [← hA]; exact putL_none rfl rfl rfl rfl
      have r2 : A.tmps[2]?.getD undef = .pointer (some ⟨w.heap.size, 0, none⟩) := slot_get q2
      have q6 : A.eval (.tmp 6) = .bool true := by rw [← hA]; exact putL_look rfl rfl rfl d1
      have r6 : A.tmps[6]?.getD undef = .bool true := slot_get q6
      clear hA
      exact Does.loadI (wanted_of (b := true) rfl rfl q6) 22 _ rfl 64 5 und_a64 info_a64 (w.heap.size) q2 .u8 (xa) (hG.1) (hxl) ⟨Below.refl _ _, rfl⟩
    refine StepL.other (k := 3) rfl (fun b f W hb hG hH => ?_) ?_
    · -- 3
      obtain ⟨d2, d1, -, -⟩ : (f 2 = aggI .u8 xa) ∧ (f 1 = .bool true) ∧ (f 1 = .bool true) ∧ True := hH
      generalize hA : putL _ _ _ _ = A
      have q7 : A.eval (.tmp 7) = aggI .u8 xa := by rw [← hA]; exact putL_look rfl rfl rfl d2
      have r7 : A.tmps[7]?.getD undef = aggI .u8 xa := slot_get q7
      have q6 : A.eval (.tmp 6) = .bool true := by rw [← hA]; exact putL_look rfl rfl rfl d1
      have r6 : A.tmps[6]?.getD undef = .bool true := slot_get q6
      clear hA
      refine Does.call (wanted_of (b := true) rfl rfl q6) _ _ (by go_simp) ((reduce_v xa W hxb hxl).mono ?_)
      rintro e w' ⟨rfl, hb'⟩
      exact ⟨_, rfl, hb', rfl⟩
    refine StepL.other (k := 4) rfl (fun b f W hb hG hH => ?_) ?_
    · -- 4
      obtain ⟨d1, -⟩ : (f 1 = .bool true) ∧ True := hH
      generalize hA : putL _ _ _ _ = A
      have q2 : A.eval (.tmp 2) = .pointer (some ⟨w.heap.size, 0, none⟩) := by rw [← hA]; exact putL_none rfl rfl rfl rfl
      have r2 : A.tmps[2]?.getD undef = .pointer (some ⟨w.heap.size, 0, none⟩) := slot_get q2
      have q6 : A.eval (.tmp 6) = .bool true := by rw [← hA]; exact putL_look rfl rfl rfl d1
      have r6 : A.tmps[6]?.getD undef = .bool true := slot_get q6
      clear hA
      exact Does.loadI (wanted_of (b := true) rfl rfl q6) 22 _ rfl 64 5 und_a64 info_a64 (w.heap.size) q2 .u8 (xa) (hG.1) (hxl) ⟨Below.refl _ _, rfl⟩
    refine StepL.other (k := 5) rfl (fun b f W hb hG hH => ?_) ?_
    · -- 5
      obtain ⟨d4, d3, d1, -⟩ : (f 4 = aggI .u8 xa) ∧ (f 3 = aggI .u8 (numB (valB xa 64 % ordV))) ∧ (f 1 = .bool true) ∧ True := hH
      generalize hA : putL _ _ _ _ = A
      have q9 : A.eval (.tmp 9) = aggI .u8 xa := by rw [← hA]; exact putL_look rfl rfl rfl d4
      have r9 : A.tmps[9]?.getD undef = aggI .u8 xa := slot_get q9
      have q6 : A.eval (.tmp 6) = .bool true := by rw [← hA]; exact putL_look rfl rfl rfl d1
      have r6 : A.tmps[6]?.getD undef = .bool true := slot_get q6
      clear hA
      refine Does.call (wanted_of (b := true) rfl rfl q6) _ _ (by go_simp) ((ref_reduce_v xa W hxb hxl).mono ?_)
      rintro e w' ⟨rfl, hb'⟩
      exact ⟨_, rfl, hb', rfl⟩
    refine StepL.other (k := 6) rfl (fun b f W hb hG hH => ?_) ?_
    · -- 6
      obtain ⟨d3, d5, d1, -⟩ : (f 3 = aggI .u8 (numB (valB xa 64 % ordV))) ∧ (f 5 = aggI .u8 (numB (valB xa 64 % ordV))) ∧ (f 1 = .bool true) ∧ True := hH
      generalize hA : putL _ _ _ _ = A
      have q8 : A.eval (.tmp 8) = aggI .u8 (numB (valB xa 64 % ordV)) := by rw [← hA]; exact putL_look rfl rfl rfl d3
      have r8 : A.tmps[8]?.getD undef = aggI .u8 (numB (valB xa 64 % ordV)) := slot_get q8
      have q10 : A.eval (.tmp 10) = aggI .u8 (numB (valB xa 64 % ordV)) := by rw [← hA]; exact putL_look rfl rfl rfl d5
      have r10 : A.tmps[10]?.getD undef = aggI .u8 (numB (valB xa 64 % ordV)) := slot_get q10
      have q6 : A.eval (.tmp 6) = .bool true := by rw [← hA]; exact putL_look rfl rfl rfl d1
      have r6 : A.tmps[6]?.getD undef = .bool true := slot_get q6
      clear hA
      exact Does.eqlI (wanted_of (b := true) rfl rfl q6) 23 _ 5 _ _ rfl 32 und_a32 .u8 .u8 Try.underlying5 (by kernel_rfl) (by kernel_rfl) (numB (valB xa 64 % ordV)) (numB (valB xa 64 % ordV)) q8 q10 (numB_length _) (numB_length _) true (by simp) ⟨Below.refl _ _, rfl⟩
    refine StepL.other (k := 7) rfl (fun b f W hb hG hH => ?_) ?_
    · -- 7
      obtain ⟨d1, d6, -⟩ : (f 1 = .bool true) ∧ (f 6 = .bool true) ∧ True := hH
      generalize hA : putL _ _ _ _ = A
      have q6 : A.eval (.tmp 6) = .bool true := by rw [← hA]; exact putL_look rfl rfl rfl d1
      have r6 : A.tmps[6]?.getD undef = .bool true := slot_get q6
      have q11 : A.eval (.tmp 11) = .bool true := by rw [← hA]; exact putL_look rfl rfl rfl d6
      have r11 : A.tmps[11]?.getD undef = .bool true := slot_get q11
      clear hA
      refine Does.pure rfl (.bool true) ?_ ⟨Below.refl _ _, rfl⟩
      go_simp
    refine StepL.other (k := 8) rfl (fun b f W hb hG hH => ?_) ?_
    · -- 8
      obtain ⟨d7, d5, -⟩ : (f 7 = .bool true) ∧ (f 5 = aggI .u8 (numB (valB xa 64 % ordV))) ∧ True := hH
      generalize hA : putL _ _ _ _ = A
      have q12 : A.eval (.tmp 12) = .bool true := by rw [← hA]; exact putL_look rfl rfl rfl d7
      have r12 : A.tmps[12]?.getD undef = .bool true := slot_get q12
      clear hA
      refine Does.pure rfl (.bool true) ?_ ⟨Below.refl _ _, rfl⟩
      go_simp
    refine StepL.other (k := 9) rfl (fun b f W hb hG hH => ?_) ?_
    · -- 9
      obtain ⟨d8, -⟩ : (f 8 = .bool true) ∧ True := hH
      generalize hA : putL _ _ _ _ = A
      have q3 : A.eval (.tmp 3) = .pointer (some ⟨w1.heap.size, 0, none⟩) := by rw [← hA]; exact putL_none rfl rfl rfl rfl
      have r3 : A.tmps[3]?.getD undef = .pointer (some ⟨w1.heap.size, 0, none⟩) := slot_get q3
      have q13 : A.eval (.tmp 13) = .bool true := by rw [← hA]; exact putL_look rfl rfl rfl d8
      have r13 : A.tmps[13]?.getD undef = .bool true := slot_get q13
      clear hA
      exact Does.loadI (wanted_of (b := true) rfl rfl q13) 23 _ rfl 32 5 und_a32 info_a32 (w1.heap.size) q3 .u8 (yb) (hG.2.1) (hyl) ⟨Below.refl _ _, rfl⟩
    refine StepL.other (k := 10) rfl (fun b f W hb hG hH => ?_) ?_
    · -- 10
      obtain ⟨d9, d8, -, -⟩ : (f 9 = aggI .u8 yb) ∧ (f 8 = .bool true) ∧ (f 8 = .bool true) ∧ True := hH
      generalize hA : putL _ _ _ _ = A
      have q14 : A.eval (.tmp 14) = aggI .u8 yb := by rw [← hA]; exact putL_look rfl rfl rfl d9
      have r14 : A.tmps[14]?.getD undef = aggI .u8 yb := slot_get q14
      have q13 : A.eval (.tmp 13) = .bool true := by rw [← hA]; exact putL_look rfl rfl rfl d8
      have r13 : A.tmps[13]?.getD undef = .bool true := slot_get q13
      clear hA
      refine Does.call (wanted_of (b := true) rfl rfl q13) _ _ (by go_simp) ((right_any yb W hyb hyl).mono ?_)
      rintro e w' ⟨rfl, hb'⟩
      exact ⟨_, rfl, hb', rfl⟩
    refine StepL.other (k := 11) rfl (fun b f W hb hG hH => ?_) ?_
    · -- 11
      obtain ⟨d8, -⟩ : (f 8 = .bool true) ∧ True := hH
      generalize hA : putL _ _ _ _ = A
      have q3 : A.eval (.tmp 3) = .pointer (some ⟨w1.heap.size, 0, none⟩) := by rw [← hA]; exact putL_none rfl rfl rfl rfl
      have r3 : A.tmps[3]?.getD undef = .pointer (some ⟨w1.heap.size, 0, none⟩) := slot_get q3
      have q13 : A.eval (.tmp 13) = .bool true := by rw [← hA]; exact putL_look rfl rfl rfl d8
      have r13 : A.tmps[13]?.getD undef = .bool true := slot_get q13
      clear hA
      exact Does.loadI (wanted_of (b := true) rfl rfl q13) 23 _ rfl 32 5 und_a32 info_a32 (w1.heap.size) q3 .u8 (yb) (hG.2.1) (hyl) ⟨Below.refl _ _, rfl⟩
    refine StepL.other (k := 12) rfl (fun b f W hb hG hH => ?_) ?_
    · -- 12
      obtain ⟨d11, d10, d8, -⟩ : (f 11 = aggI .u8 yb) ∧ (f 10 = .bool (ltL yb)) ∧ (f 8 = .bool true) ∧ True := hH
      generalize hA : putL _ _ _ _ = A
      have q16 : A.eval (.tmp 16) = aggI .u8 yb := by rw [← hA]; exact putL_look rfl rfl rfl d11
      have r16 : A.tmps[16]?.getD undef = aggI .u8 yb := slot_get q16
      have q13 : A.eval (.tmp 13) = .bool true := by rw [← hA]; exact putL_look rfl rfl rfl d8
      have r13 : A.tmps[13]?.getD undef = .bool true := slot_get q13
      clear hA
      refine Does.call (wanted_of (b := true) rfl rfl q13) _ _ (by go_simp) ((ref_right_any yb W hyb hyl).mono ?_)
      rintro e w' ⟨rfl, hb'⟩
      exact ⟨_, rfl, hb', rfl⟩
    refine StepL.other (k := 13) rfl (fun b f W hb hG hH => ?_) ?_
    · -- 13
      obtain ⟨d10, d12, d8, -⟩ : (f 10 = .bool (ltL yb)) ∧ (f 12 = .bool (ltL yb)) ∧ (f 8 = .bool true) ∧ True := hH
      generalize hA : putL _ _ _ _ = A
      have q15 : A.eval (.tmp 15) = .bool (ltL yb) := by rw [← hA]; exact putL_look rfl rfl rfl d10
      have r15 : A.tmps[15]?.getD undef = .bool (ltL yb) := slot_get q15
      have q17 : A.eval (.tmp 17) = .bool (ltL yb) := by rw [← hA]; exact putL_look rfl rfl rfl d12
      have r17 : A.tmps[17]?.getD undef = .bool (ltL yb) := slot_get q17
      have q13 : A.eval (.tmp 13) = .bool true := by rw [← hA]; exact putL_look rfl rfl rfl d8
      have r13 : A.tmps[13]?.getD undef = .bool true := slot_get q13
      clear hA
      refine Does.pure (wanted_of (b := true) rfl rfl q13) (.bool true) ?_ ⟨Below.refl _ _, rfl⟩
      go_simp
    refine StepL.other (k := 14) rfl (fun b f W hb hG hH => ?_) ?_
    · -- 14
      obtain ⟨d8, d13, -⟩ : (f 8 = .bool true) ∧ (f 13 = .bool true) ∧ True := hH
      generalize hA : putL _ _ _ _ = A
      have q13 : A.eval (.tmp 13) = .bool true := by rw [← hA]; exact putL_look rfl rfl rfl d8
      have r13 : A.tmps[13]?.getD undef = .bool true := slot_get q13
      have q18 : A.eval (.tmp 18) = .bool true := by rw [← hA]; exact putL_look rfl rfl rfl d13
      have r18 : A.tmps[18]?.getD undef = .bool true := slot_get q18
      clear hA
      refine Does.pure rfl (.bool true) ?_ ⟨Below.refl _ _, rfl⟩
      go_simp
    refine StepL.other (k := 15) rfl (fun b f W hb hG hH => ?_) ?_
    · -- 15
      obtain ⟨d14, d12, -⟩ : (f 14 = .bool true) ∧ (f 12 = .bool (ltL yb)) ∧ True := hH
      generalize hA : putL _ _ _ _ = A
      have q19 : A.eval (.tmp 19) = .bool true := by rw [← hA]; exact putL_look rfl rfl rfl d14
      have r19 : A.tmps[19]?.getD undef = .bool true := slot_get q19
      clear hA
      refine Does.pure rfl (.bool true) ?_ ⟨Below.refl _ _, rfl⟩
      go_simp
    refine StepL.other (k := 16) rfl (fun b f W hb hG hH => ?_) ?_
    · -- 16
      obtain ⟨d15, -⟩ : (f 15 = .bool true) ∧ True := hH
      generalize hA : putL _ _ _ _ = A
      have q3 : A.eval (.tmp 3) = .pointer (some ⟨w1.heap.size, 0, none⟩) := by rw [← hA]; exact putL_none rfl rfl rfl rfl
      have r3 : A.tmps[3]?.getD undef = .pointer (some ⟨w1.heap.size, 0, none⟩) := slot_get q3
      have q20 : A.eval (.tmp 20) = .bool true := by rw [← hA]; exact putL_look rfl rfl rfl d15
      have r20 : A.tmps[20]?.getD undef = .bool true := slot_get q20
      clear hA
      exact Does.loadI (wanted_of (b := true) rfl rfl q20) 23 _ rfl 32 5 und_a32 info_a32 (w1.heap.size) q3 .u8 (yb) (hG.2.1) (hyl) ⟨Below.refl _ _, rfl⟩
    refine StepL.other (k := 17) rfl (fun b f W hb hG hH => ?_) ?_
    · -- 17
      obtain ⟨d16, d15, -, -⟩ : (f 16 = aggI .u8 yb) ∧ (f 15 = .bool true) ∧ (f 15 = .bool true) ∧ True := hH
      generalize hA : putL _ _ _ _ = A
      have q21 : A.eval (.tmp 21) = aggI .u8 yb := by rw [← hA]; exact putL_look rfl rfl rfl d16
      have r21 : A.tmps[21]?.getD undef = aggI .u8 yb := slot_get q21
      have q20 : A.eval (.tmp 20) = .bool true := by rw [← hA]; exact putL_look rfl rfl rfl d15
      have r20 : A.tmps[20]?.getD undef = .bool true := slot_get q20
      clear hA
      refine Does.call (wanted_of (b := true) rfl rfl q20) _ _ (by go_simp) ((neg_v yb W hyb hyl).mono ?_)
      rintro e w' ⟨rfl, hb'⟩
      exact ⟨_, rfl, hb', rfl⟩
    refine StepL.other (k := 18) rfl (fun b f W hb hG hH => ?_) ?_
    · -- 18
      obtain ⟨d15, -⟩ : (f 15 = .bool true) ∧ True := hH
      generalize hA : putL _ _ _ _ = A
      have q3 : A.eval (.tmp 3) = .pointer (some ⟨w1.heap.size, 0, none⟩) := by rw [← hA]; exact putL_none rfl rfl rfl rfl
      have r3 : A.tmps[3]?.getD undef = .pointer (some ⟨w1.heap.size, 0, none⟩) := slot_get q3
      have q20 : A.eval (.tmp 20) = .bool true := by rw [← hA]; exact putL_look rfl rfl rfl d15
      have r20 : A.tmps[20]?.getD undef = .bool true := slot_get q20
      clear hA
      exact Does.loadI (wanted_of (b := true) rfl rfl q20) 23 _ rfl 32 5 und_a32 info_a32 (w1.heap.size) q3 .u8 (yb) (hG.2.1) (hyl) ⟨Below.refl _ _, rfl⟩
    refine StepL.other (k := 19) rfl (fun b f W hb hG hH => ?_) ?_
    · -- 19
      obtain ⟨d18, d17, d15, -⟩ : (f 18 = aggI .u8 yb) ∧ (f 17 = aggI .u8 (numB ((-valB yb 32) % ordV))) ∧ (f 15 = .bool true) ∧ True := hH
      generalize hA : putL _ _ _ _ = A
      have q23 : A.eval (.tmp 23) = aggI .u8 yb := by rw [← hA]; exact putL_look rfl rfl rfl d18
      have r23 : A.tmps[23]?.getD undef = aggI .u8 yb := slot_get q23
      have q20 : A.eval (.tmp 20) = .bool true := by rw [← hA]; exact putL_look rfl rfl rfl d15
      have r20 : A.tmps[20]?.getD undef = .bool true := slot_get q20
      clear hA
      refine Does.call (wanted_of (b := true) rfl rfl q20) _ _ (by go_simp) ((ref_neg_v yb W hyb hyl).mono ?_)
      rintro e w' ⟨rfl, hb'⟩
      exact ⟨_, rfl, hb', rfl⟩
    refine StepL.other (k := 20) rfl (fun b f W hb hG hH => ?_) ?_
    · -- 20
      obtain ⟨d17, d19, d15, -⟩ : (f 17 = aggI .u8 (numB ((-valB yb 32) % ordV))) ∧ (f 19 = aggI .u8 (numB ((-valB yb 32) % ordV))) ∧ (f 15 = .bool true) ∧ True := hH
      generalize hA : putL _ _ _ _ = A
      have q22 : A.eval (.tmp 22) = aggI .u8 (numB ((-valB yb 32) % ordV)) := by rw [← hA]; exact putL_look rfl rfl rfl d17
      have r22 : A.tmps[22]?.getD undef = aggI .u8 (numB ((-valB yb 32) % ordV)) := slot_get q22
      have q24 : A.eval (.tmp 24) = aggI .u8 (numB ((-valB yb 32) % ordV)) := by rw [← hA]; exact putL_look rfl rfl rfl d19
      have r24 : A.tmps[24]?.getD undef = aggI .u8 (numB ((-valB yb 32) % ordV)) := slot_get q24
      have q20 : A.eval (.tmp 20) = .bool true := by rw [← hA]; exact putL_look rfl rfl rfl d15
      have r20 : A.tmps[20]?.getD undef = .bool true := slot_get q20
      clear hA
      exact Does.eqlI (wanted_of (b := true) rfl rfl q20) 23 _ 5 _ _ rfl 32 und_a32 .u8 .u8 Try.underlying5 (by kernel_rfl) (by kernel_rfl) (numB ((-valB yb 32) % ordV)) (numB ((-valB yb 32) % ordV)) q22 q24 (numB_length _) (numB_length _) true (by simp) ⟨Below.refl _ _, rfl⟩
    refine StepL.other (k := 21) rfl (fun b f W hb hG hH => ?_) ?_
    · -- 21
      obtain ⟨d15, d20, -⟩ : (f 15 = .bool true) ∧ (f 20 = .bool true) ∧ True := hH
      generalize hA : putL _ _ _ _ = A
      have q20 : A.eval (.tmp 20) = .bool true := by rw [← hA]; exact putL_look rfl rfl rfl d15
      have r20 : A.tmps[20]?.getD undef = .bool true := slot_get q20
      have q25 : A.eval (.tmp 25) = .bool true := by rw [← hA]; exact putL_look rfl rfl rfl d20
      have r25 : A.tmps[25]?.getD undef = .bool true := slot_get q25
      clear hA
      refine Does.pure rfl (.bool true) ?_ ⟨Below.refl _ _, rfl⟩
      go_simp
    refine StepL.other (k := 22) rfl (fun b f W hb hG hH => ?_) ?_
    · -- 22
      obtain ⟨d21, d19, -⟩ : (f 21 = .bool true) ∧ (f 19 = aggI .u8 (numB ((-valB yb 32) % ordV))) ∧ True := hH
      generalize hA : putL _ _ _ _ = A
      have q26 : A.eval (.tmp 26) = .bool true := by rw [← hA]; exact putL_look rfl rfl rfl d21
      have r26 : A.tmps[26]?.getD undef = .bool true := slot_get q26
      clear hA
      refine Does.pure rfl (.bool true) ?_ ⟨Below.refl _ _, rfl⟩
      go_simp
    refine StepL.other (k := 23) rfl (fun b f W hb hG hH => ?_) ?_
    · -- 23
      obtain ⟨d22, -⟩ : (f 22 = .bool true) ∧ True := hH
      generalize hA : putL _ _ _ _ = A
      have q3 : A.eval (.tmp 3) = .pointer (some ⟨w1.heap.size, 0, none⟩) := by rw [← hA]; exact putL_none rfl rfl rfl rfl
      have r3 : A.tmps[3]?.getD undef = .pointer (some ⟨w1.heap.size, 0, none⟩) := slot_get q3
      have q27 : A.eval (.tmp 27) = .bool true := by rw [← hA]; exact putL_look rfl rfl rfl d22
      have r27 : A.tmps[27]?.getD undef = .bool true := slot_get q27
      clear hA
      exact Does.loadI (wanted_of (b := true) rfl rfl q27) 23 _ rfl 32 5 und_a32 info_a32 (w1.heap.size) q3 .u8 (yb) (hG.2.1) (hyl) ⟨Below.refl _ _, rfl⟩
    refine StepL.other (k := 24) rfl (fun b f W hb hG hH => ?_) ?_
    · -- 24
      obtain ⟨d23, d22, -, -⟩ : (f 23 = aggI .u8 yb) ∧ (f 22 = .bool true) ∧ (f 22 = .bool true) ∧ True := hH
      generalize hA : putL _ _ _ _ = A
      have q28 : A.eval (.tmp 28) = aggI .u8 yb := by rw [← hA]; exact putL_look rfl rfl rfl d23
      have r28 : A.tmps[28]?.getD undef = aggI .u8 yb := slot_get q28
      have q27 : A.eval (.tmp 27) = .bool true := by rw [← hA]; exact putL_look rfl rfl rfl d22
      have r27 : A.tmps[27]?.getD undef = .bool true := slot_get q27
      clear hA
      refine Does.call (wanted_of (b := true) rfl rfl q27) _ _ (by go_simp) ((clamp_any yb W hyb hyl).mono ?_)
      rintro e w' ⟨rfl, hb'⟩
      exact ⟨_, rfl, hb', rfl⟩
    refine StepL.other (k := 25) rfl (fun b f W hb hG hH => ?_) ?_
    · -- 25
      obtain ⟨d22, -⟩ : (f 22 = .bool true) ∧ True := hH
      generalize hA : putL _ _ _ _ = A
      have q3 : A.eval (.tmp 3) = .pointer (some ⟨w1.heap.size, 0, none⟩) := by rw [← hA]; exact putL_none rfl rfl rfl rfl
      have r3 : A.tmps[3]?.getD undef = .pointer (some ⟨w1.heap.size, 0, none⟩) := slot_get q3
      have q27 : A.eval (.tmp 27) = .bool true := by rw [← hA]; exact putL_look rfl rfl rfl d22
      have r27 : A.tmps[27]?.getD undef = .bool true := slot_get q27
      clear hA
      exact Does.loadI (wanted_of (b := true) rfl rfl q27) 23 _ rfl 32 5 und_a32 info_a32 (w1.heap.size) q3 .u8 (yb) (hG.2.1) (hyl) ⟨Below.refl _ _, rfl⟩
    refine StepL.other (k := 26) rfl (fun b f W hb hG hH => ?_) ?_
    · -- 26
      obtain ⟨d25, d24, d22, -⟩ : (f 25 = aggI .u8 yb) ∧ (f 24 = aggI .u8 (clampS yb)) ∧ (f 22 = .bool true) ∧ True := hH
      generalize hA : putL _ _ _ _ = A
      have q30 : A.eval (.tmp 30) = aggI .u8 yb := by rw [← hA]; exact putL_look rfl rfl rfl d25
      have r30 : A.tmps[30]?.getD undef = aggI .u8 yb := slot_get q30
      have q27 : A.eval (.tmp 27) = .bool true := by rw [← hA]; exact putL_look rfl rfl rfl d22
      have r27 : A.tmps[27]?.getD undef = .bool true := slot_get q27
      clear hA
      refine Does.call (wanted_of (b := true) rfl rfl q27) _ _ (by go_simp) ((ref_clamp_any yb W hyb hyl).mono ?_)
      rintro e w' ⟨rfl, hb'⟩
      exact ⟨_, rfl, hb', rfl⟩
    refine StepL.other (k := 27) rfl (fun b f W hb hG hH => ?_) ?_
    · -- 27
      obtain ⟨d24, d26, d22, -⟩ : (f 24 = aggI .u8 (clampS yb)) ∧ (f 26 = aggI .u8 (clampS yb)) ∧ (f 22 = .bool true) ∧ True := hH
      generalize hA : putL _ _ _ _ = A
      have q29 : A.eval (.tmp 29) = aggI .u8 (clampS yb) := by rw [← hA]; exact putL_look rfl rfl rfl d24
      have r29 : A.tmps[29]?.getD undef = aggI .u8 (clampS yb) := slot_get q29
      have q31 : A.eval (.tmp 31) = aggI .u8 (clampS yb) := by rw [← hA]; exact putL_look rfl rfl rfl d26
      have r31 : A.tmps[31]?.getD undef = aggI .u8 (clampS yb) := slot_get q31
      have q27 : A.eval (.tmp 27) = .bool true := by rw [← hA]; exact putL_look rfl rfl rfl d22
      have r27 : A.tmps[27]?.getD undef = .bool true := slot_get q27
      clear hA
      exact Does.eqlI (wanted_of (b := true) rfl rfl q27) 23 _ 5 _ _ rfl 32 und_a32 .u8 .u8 Try.underlying5 (by kernel_rfl) (by kernel_rfl) (clampS yb) (clampS yb) q29 q31 (by simp [clampS, hyl]) (by simp [clampS, hyl]) true (by simp) ⟨Below.refl _ _, rfl⟩
    refine StepL.other (k := 28) rfl (fun b f W hb hG hH => ?_) ?_
    · -- 28
      obtain ⟨d22, d27, -⟩ : (f 22 = .bool true) ∧ (f 27 = .bool true) ∧ True := hH
      generalize hA : putL _ _ _ _ = A
      have q27 : A.eval (.tmp 27) = .bool true := by rw [← hA]; exact putL_look rfl rfl rfl d22
      have r27 : A.tmps[27]?.getD undef = .bool true := slot_get q27
      have q32 : A.eval (.tmp 32) = .bool true := by rw [← hA]; exact putL_look rfl rfl rfl d27
      have r32 : A.tmps[32]?.getD undef = .bool true := slot_get q32
      clear hA
      refine Does.pure rfl (.bool true) ?_ ⟨Below.refl _ _, rfl⟩
      go_simp
    refine StepL.other (k := 29) rfl (fun b f W hb hG hH => ?_) ?_
    · -- 29
      obtain ⟨d28, d26, d0, d1, d2, d3, d4, d5, d6, d7, d8, d9, d10, d11, d12, d13, d14, d15, d16, d17, d18, d19, d20, d21, d22, d23, d24, d25, -, d27, -, -⟩ : (f 28 = .bool true) ∧ (f 26 = aggI .u8 (clampS yb)) ∧ (f 0 = .bool true) ∧ (f 1 = .bool true) ∧ (f 2 = aggI .u8 xa) ∧ (f 3 = aggI .u8 (numB (valB xa 64 % ordV))) ∧ (f 4 = aggI .u8 xa) ∧ (f 5 = aggI .u8 (numB (valB xa 64 % ordV))) ∧ (f 6 = .bool true) ∧ (f 7 = .bool true) ∧ (f 8 = .bool true) ∧ (f 9 = aggI .u8 yb) ∧ (f 10 = .bool (ltL yb)) ∧ (f 11 = aggI .u8 yb) ∧ (f 12 = .bool (ltL yb)) ∧ (f 13 = .bool true) ∧ (f 14 = .bool true) ∧ (f 15 = .bool true) ∧ (f 16 = aggI .u8 yb) ∧ (f 17 = aggI .u8 (numB ((-valB yb 32) % ordV))) ∧ (f 18 = aggI .u8 yb) ∧ (f 19 = aggI .u8 (numB ((-valB yb 32) % ordV))) ∧ (f 20 = .bool true) ∧ (f 21 = .bool true) ∧ (f 22 = .bool true) ∧ (f 23 = aggI .u8 yb) ∧ (f 24 = aggI .u8 (clampS yb)) ∧ (f 25 = aggI .u8 yb) ∧ (f 26 = aggI .u8 (clampS yb)) ∧ (f 27 = .bool true) ∧ (f 28 = .bool true) ∧ True := hH
      generalize hA : putL _ _ _ _ = A
      have q33 : A.eval (.tmp 33) = .bool true := by rw [← hA]; exact putL_look rfl rfl rfl d28
      have r33 : A.tmps[33]?.getD undef = .bool true := slot_get q33
      clear hA
      refine Does.pure rfl (.bool true) ?_ ⟨Below.refl _ _, rfl⟩
      go_simp
    exact trivial
  ·
    intro f W hG hH
    obtain ⟨d0, d1, d2, d3, d4, d5, d6, d7, d8, d9, d10, d11, d12, d13, d14, d15, d16, d17, d18, d19, d20, d21, d22, d23, d24, d25, d26, d27, d28, d29, -⟩ : (f 0 = .bool true) ∧ (f 1 = .bool true) ∧ (f 2 = aggI .u8 xa) ∧ (f 3 = aggI .u8 (numB (valB xa 64 % ordV))) ∧ (f 4 = aggI .u8 xa) ∧ (f 5 = aggI .u8 (numB (valB xa 64 % ordV))) ∧ (f 6 = .bool true) ∧ (f 7 = .bool true) ∧ (f 8 = .bool true) ∧ (f 9 = aggI .u8 yb) ∧ (f 10 = .bool (ltL yb)) ∧ (f 11 = aggI .u8 yb) ∧ (f 12 = .bool (ltL yb)) ∧ (f 13 = .bool true) ∧ (f 14 = .bool true) ∧ (f 15 = .bool true) ∧ (f 16 = aggI .u8 yb) ∧ (f 17 = aggI .u8 (numB ((-valB yb 32) % ordV))) ∧ (f 18 = aggI .u8 yb) ∧ (f 19 = aggI .u8 (numB ((-valB yb 32) % ordV))) ∧ (f 20 = .bool true) ∧ (f 21 = .bool true) ∧ (f 22 = .bool true) ∧ (f 23 = aggI .u8 yb) ∧ (f 24 = aggI .u8 (clampS yb)) ∧ (f 25 = aggI .u8 yb) ∧ (f 26 = aggI .u8 (clampS yb)) ∧ (f 27 = .bool true) ∧ (f 28 = .bool true) ∧ (f 29 = .bool true) ∧ True := hH
    rw [show List.range (List.length [[], [0, 0], [1], [2, 1, 1], [1], [4, 3, 1], [3, 5, 1], [1, 6], [7, 5], [8], [9, 8, 8], [8], [11, 10, 8], [10, 12, 8], [8, 13], [14, 12], [15], [16, 15, 15], [15], [18, 17, 15], [17, 19, 15], [15, 20], [21, 19], [22], [23, 22, 22], [22], [25, 24, 22], [24, 26, 22], [22, 27], [28, 26, 0, 1, 2, 3, 4, 5, 6, 7, 8, 9, 10, 11, 12, 13, 14, 15, 16, 17, 18, 19, 20, 21, 22, 23, 24, 25, 26, 27, 28]]) = [0, 1, 2, 3, 4, 5, 6, 7, 8, 9, 10, 11, 12, 13, 14, 15, 16, 17, 18, 19, 20, 21, 22, 23, 24, 25, 26, 27, 28, 29] from rfl]
    simp only [putL, List.getElem?_cons_zero, List.getElem?_cons_succ, Option.join, Option.bind_some, id_eq, Act.put, List.setIfInBounds_toArray, List.set_cons_zero, List.set_cons_succ, d0, d1, d2, d3, d4, d5, d6, d7, d8, d9, d10, d11, d12, d13, d14, d15, d16, d17, d18, d19, d20, d21, d22, d23, d24, d25, d26, d27, d28, d29]
    clear d0 d1 d2 d3 d4 d5 d6 d7 d8 d9 d10 d11 d12 d13 d14 d15 d16 d17 d18 d19 d20 d21 d22 d23 d24 d25 d26 d27 d28 d29
    go_wp2
    go_ret
    exact ⟨rfl, hG.2.2⟩
end Go.Proofs.Yteocdjgdljfpdaa
