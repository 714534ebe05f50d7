/- The law on products, walked. -/
import Derived.Test.YtlhloldjlfcchaaDoorFO
import Derived.Test.YtlhloldjlfcchaaDoorFT
namespace Go.Proofs.YtlhloldjlfcchaaDoor
open Go.RowKit Go.Shelf
set_option linter.unusedVariables false
set_option maxRecDepth 8000

set_option maxHeartbeats 4000000 in
theorem law_products (xb yb : List Int) (w : World) (hT : Tab w) (hxb : Bytes xb) (hxl : xb.length = 32) (hyb : Bytes yb) (hyl : yb.length = 32) :
    Calls Tryd.prog 4 #[aggI .u8 xb, aggI .u8 yb] w fun e w' => e = .returned (.bool true) ∧ Below w.heap.size w w' := by
  go_enter Tryd.func4, Tryd.ntmps4
  go_wp2_with (first
    | (with_reducible refine at_op (o := ⟨some 2, _, _, _, _, _⟩) ?_; refine wpList_boxI rfl 22 _ rfl .u8 xb rfl ?_; intro w1 A1 s1 b1)
    | (with_reducible refine at_op (o := ⟨some 3, _, _, _, _, _⟩) ?_; refine wpList_boxI rfl 22 _ rfl .u8 yb rfl ?_; intro w2 A2 s2 b2; have X2 := A1.below b2))
  refine wp_region_ord [[], [0, 0], [1], [1], [2, 3, 1, 1], [1], [1], [5, 6, 4, 1], [4, 7, 1], [1, 8], [9, 7, 0, 1, 2, 3, 4, 5, 6, 7, 8, 9]] [some 5, some 6, some 7, some 8, some 9, some 10, some 11, some 12, some 13, some 14, some 4] 11 (fun b w' => Arr .u8 w' w.heap.size xb ∧ Arr .u8 w' w1.heap.size yb ∧ Below w.heap.size w w') (fun opn f _ => match opn with | 0 => f 0 = .bool true | 1 => f 1 = .bool true | 2 => f 2 = aggI .u8 xb | 3 => f 3 = aggI .u8 yb | 4 => f 4 = aggI .u8 (numB ((valB xb 32 * valB yb 32) % pV)) | 5 => f 5 = aggI .u8 xb | 6 => f 6 = aggI .u8 yb | 7 => f 7 = aggI .u8 (numB ((valB xb 32 * valB yb 32) % pV)) | 8 => f 8 = .bool true | 9 => f 9 = .bool true | 10 => f 10 = .bool true | _ => True) (fun _ _ _ => True) (by kernel_rfl) (by kernel_rfl) (by kernel_rfl) (by kernel_rfl) (fun b v v' hb h => ⟨h.1.below hb, h.2.1.below hb, below_then h.2.2 hb⟩) (fun _ _ _ _ _ h => h) (fun _ _ _ _ _ _ _ h => h) ⟨X2.drew, A2.drew, (below_then b1 b2).drew⟩ ?_ ?_
  ·
    refine StepL.other (k := 0) rfl (fun b f W hb hG hH => ?_) ?_
    · -- 0
      clear hH
      generalize hA : putL _ _ _ _ = A
      clear hA
      refine Does.call rfl _ _ (by go_simp) ((alive_v W (hT.below hG.2.2)).mono ?_)
      rintro e w' ⟨rfl, hb'⟩
      exact ⟨_, rfl, hb', rfl⟩
    refine StepL.other (k := 1) rfl (fun b f W hb hG hH => ?_) ?_
    · -- 1
      obtain ⟨d0, -, -⟩ : (f 0 = .bool true) ∧ (f 0 = .bool true) ∧ True := hH
      generalize hA : putL _ _ _ _ = A
      have q5 : A.eval (.tmp 5) = .bool true := by rw [← hA]; exact putL_look rfl rfl rfl d0
      have r5 : A.tmps[5]?.getD undef = .bool true := slot_get q5
      clear hA
      refine Does.pure rfl (.bool true) ?_ ⟨Below.refl _ _, rfl⟩
      go_simp
    refine StepL.other (k := 2) rfl (fun b f W hb hG hH => ?_) ?_
    · -- 2
      obtain ⟨d1, -⟩ : (f 1 = .bool true) ∧ True := hH
      generalize hA : putL _ _ _ _ = A
      have q2 : A.eval (.tmp 2) = .pointer (some ⟨w.heap.size, 0, none⟩) := by rw [← hA]; exact putL_none rfl rfl rfl rfl
      have r2 : A.tmps[2]?.getD undef = .pointer (some ⟨w.heap.size, 0, none⟩) := slot_get q2
      have q6 : A.eval (.tmp 6) = .bool true := by rw [← hA]; exact putL_look rfl rfl rfl d1
      have r6 : A.tmps[6]?.getD undef = .bool true := slot_get q6
      clear hA
      exact Does.loadI (wanted_of (b := true) rfl rfl q6) 22 _ rfl 32 5 und_a32 info_a32 (w.heap.size) q2 .u8 (xb) (hG.1) (hxl) ⟨Below.refl _ _, rfl⟩
    refine StepL.other (k := 3) rfl (fun b f W hb hG hH => ?_) ?_
    · -- 3
      obtain ⟨d1, -⟩ : (f 1 = .bool true) ∧ True := hH
      generalize hA : putL _ _ _ _ = A
      have q3 : A.eval (.tmp 3) = .pointer (some ⟨w1.heap.size, 0, none⟩) := by rw [← hA]; exact putL_none rfl rfl rfl rfl
      have r3 : A.tmps[3]?.getD undef = .pointer (some ⟨w1.heap.size, 0, none⟩) := slot_get q3
      have q6 : A.eval (.tmp 6) = .bool true := by rw [← hA]; exact putL_look rfl rfl rfl d1
      have r6 : A.tmps[6]?.getD undef = .bool true := slot_get q6
      clear hA
      exact Does.loadI (wanted_of (b := true) rfl rfl q6) 22 _ rfl 32 5 und_a32 info_a32 (w1.heap.size) q3 .u8 (yb) (hG.2.1) (hyl) ⟨Below.refl _ _, rfl⟩
    refine StepL.other (k := 4) rfl (fun b f W hb hG hH => ?_) ?_
    · -- 4
      obtain ⟨d2, d3, d1, -, -⟩ : (f 2 = aggI .u8 xb) ∧ (f 3 = aggI .u8 yb) ∧ (f 1 = .bool true) ∧ (f 1 = .bool true) ∧ True := hH
      generalize hA : putL _ _ _ _ = A
      have q7 : A.eval (.tmp 7) = aggI .u8 xb := by rw [← hA]; exact putL_look rfl rfl rfl d2
      have r7 : A.tmps[7]?.getD undef = aggI .u8 xb := slot_get q7
      have q8 : A.eval (.tmp 8) = aggI .u8 yb := by rw [← hA]; exact putL_look rfl rfl rfl d3
      have r8 : A.tmps[8]?.getD undef = aggI .u8 yb := slot_get q8
      have q6 : A.eval (.tmp 6) = .bool true := by rw [← hA]; exact putL_look rfl rfl rfl d1
      have r6 : A.tmps[6]?.getD undef = .bool true := slot_get q6
      clear hA
      refine Does.call (wanted_of (b := true) rfl rfl q6) _ _ (by go_simp) ((mul_v xb yb W hxb hyb hxl hyl).mono ?_)
      rintro e w' ⟨rfl, hb'⟩
      exact ⟨_, rfl, hb', rfl⟩
    refine StepL.other (k := 5) rfl (fun b f W hb hG hH => ?_) ?_
    · -- 5
      obtain ⟨d1, -⟩ : (f 1 = .bool true) ∧ True := hH
      generalize hA : putL _ _ _ _ = A
      have q2 : A.eval (.tmp 2) = .pointer (some ⟨w.heap.size, 0, none⟩) := by rw [← hA]; exact putL_none rfl rfl rfl rfl
      have r2 : A.tmps[2]?.getD undef = .pointer (some ⟨w.heap.size, 0, none⟩) := slot_get q2
      have q6 : A.eval (.tmp 6) = .bool true := by rw [← hA]; exact putL_look rfl rfl rfl d1
      have r6 : A.tmps[6]?.getD undef = .bool true := slot_get q6
      clear hA
      exact Does.loadI (wanted_of (b := true) rfl rfl q6) 22 _ rfl 32 5 und_a32 info_a32 (w.heap.size) q2 .u8 (xb) (hG.1) (hxl) ⟨Below.refl _ _, rfl⟩
    refine StepL.other (k := 6) rfl (fun b f W hb hG hH => ?_) ?_
    · -- 6
      obtain ⟨d1, -⟩ : (f 1 = .bool true) ∧ True := hH
      generalize hA : putL _ _ _ _ = A
      have q3 : A.eval (.tmp 3) = .pointer (some ⟨w1.heap.size, 0, none⟩) := by rw [← hA]; exact putL_none rfl rfl rfl rfl
      have r3 : A.tmps[3]?.getD undef = .pointer (some ⟨w1.heap.size, 0, none⟩) := slot_get q3
      have q6 : A.eval (.tmp 6) = .bool true := by rw [← hA]; exact putL_look rfl rfl rfl d1
      have r6 : A.tmps[6]?.getD undef = .bool true := slot_get q6
      clear hA
      exact Does.loadI (wanted_of (b := true) rfl rfl q6) 22 _ rfl 32 5 und_a32 info_a32 (w1.heap.size) q3 .u8 (yb) (hG.2.1) (hyl) ⟨Below.refl _ _, rfl⟩
    refine StepL.other (k := 7) rfl (fun b f W hb hG hH => ?_) ?_
    · -- 7
      obtain ⟨d5, d6, d4, d1, -⟩ : (f 5 = aggI .u8 xb) ∧ (f 6 = aggI .u8 yb) ∧ (f 4 = aggI .u8 (numB ((valB xb 32 * valB yb 32) % pV))) ∧ (f 1 = .bool true) ∧ True := hH
      generalize hA : putL _ _ _ _ = A
      have q10 : A.eval (.tmp 10) = aggI .u8 xb := by rw [← hA]; exact putL_look rfl rfl rfl d5
      have r10 : A.tmps[10]?.getD undef = aggI .u8 xb := slot_get q10
      have q11 : A.eval (.tmp 11) = aggI .u8 yb := by rw [← hA]; exact putL_look rfl rfl rfl d6
      have r11 : A.tmps[11]?.getD undef = aggI .u8 yb := slot_get q11
      have q6 : A.eval (.tmp 6) = .bool true := by rw [← hA]; exact putL_look rfl rfl rfl d1
      have r6 : A.tmps[6]?.getD undef = .bool true := slot_get q6
      clear hA
      refine Does.call (wanted_of (b := true) rfl rfl q6) _ _ (by go_simp) ((ref_mul_v xb yb W hxb hyb hxl hyl).mono ?_)
      rintro e w' ⟨rfl, hb'⟩
      exact ⟨_, rfl, hb', rfl⟩
    refine StepL.other (k := 8) rfl (fun b f W hb hG hH => ?_) ?_
    · -- 8
      obtain ⟨d4, d7, d1, -⟩ : (f 4 = aggI .u8 (numB ((valB xb 32 * valB yb 32) % pV))) ∧ (f 7 = aggI .u8 (numB ((valB xb 32 * valB yb 32) % pV))) ∧ (f 1 = .bool true) ∧ True := hH
      generalize hA : putL _ _ _ _ = A
      have q9 : A.eval (.tmp 9) = aggI .u8 (numB ((valB xb 32 * valB yb 32) % pV)) := by rw [← hA]; exact putL_look rfl rfl rfl d4
      have r9 : A.tmps[9]?.getD undef = aggI .u8 (numB ((valB xb 32 * valB yb 32) % pV)) := slot_get q9
      have q12 : A.eval (.tmp 12) = aggI .u8 (numB ((valB xb 32 * valB yb 32) % pV)) := by rw [← hA]; exact putL_look rfl rfl rfl d7
      have r12 : A.tmps[12]?.getD undef = aggI .u8 (numB ((valB xb 32 * valB yb 32) % pV)) := slot_get q12
      have q6 : A.eval (.tmp 6) = .bool true := by rw [← hA]; exact putL_look rfl rfl rfl d1
      have r6 : A.tmps[6]?.getD undef = .bool true := slot_get q6
      clear hA
      exact Does.eqlI (wanted_of (b := true) rfl rfl q6) 22 _ 5 _ _ rfl 32 und_a32 .u8 .u8 Tryd.underlying5 (by kernel_rfl) (by kernel_rfl) (numB ((valB xb 32 * valB yb 32) % pV)) (numB ((valB xb 32 * valB yb 32) % pV)) q9 q12 (numB_length _) (numB_length _) true (by simp) ⟨Below.refl _ _, rfl⟩
    refine StepL.other (k := 9) rfl (fun b f W hb hG hH => ?_) ?_
    · -- 9
      obtain ⟨d1, d8, -⟩ : (f 1 = .bool true) ∧ (f 8 = .bool true) ∧ True := hH
      generalize hA : putL _ _ _ _ = A
      have q6 : A.eval (.tmp 6) = .bool true := by rw [← hA]; exact putL_look rfl rfl rfl d1
      have r6 : A.tmps[6]?.getD undef = .bool true := slot_get q6
      have q13 : A.eval (.tmp 13) = .bool true := by rw [← hA]; exact putL_look rfl rfl rfl d8
      have r13 : A.tmps[13]?.getD undef = .bool true := slot_get q13
      clear hA
      refine Does.pure rfl (.bool true) ?_ ⟨Below.refl _ _, rfl⟩
      go_simp
    refine StepL.other (k := 10) rfl (fun b f W hb hG hH => ?_) ?_
    · -- 10
      obtain ⟨d9, d7, d0, d1, d2, d3, d4, d5, d6, -, d8, -, -⟩ : (f 9 = .bool true) ∧ (f 7 = aggI .u8 (numB ((valB xb 32 * valB yb 32) % pV))) ∧ (f 0 = .bool true) ∧ (f 1 = .bool true) ∧ (f 2 = aggI .u8 xb) ∧ (f 3 = aggI .u8 yb) ∧ (f 4 = aggI .u8 (numB ((valB xb 32 * valB yb 32) % pV))) ∧ (f 5 = aggI .u8 xb) ∧ (f 6 = aggI .u8 yb) ∧ (f 7 = aggI .u8 (numB ((valB xb 32 * valB yb 32) % pV))) ∧ (f 8 = .bool true) ∧ (f 9 = .bool true) ∧ True := hH
      generalize hA : putL _ _ _ _ = A
      have q14 : A.eval (.tmp 14) = .bool true := by rw [← hA]; exact putL_look rfl rfl rfl d9
      have r14 : A.tmps[14]?.getD undef = .bool true := slot_get q14
      clear hA
      refine Does.pure rfl (.bool true) ?_ ⟨Below.refl _ _, rfl⟩
      go_simp
    exact trivial
  ·
    intro f W hG hH
    obtain ⟨d0, d1, d2, d3, d4, d5, d6, d7, d8, d9, d10, -⟩ : (f 0 = .bool true) ∧ (f 1 = .bool true) ∧ (f 2 = aggI .u8 xb) ∧ (f 3 = aggI .u8 yb) ∧ (f 4 = aggI .u8 (numB ((valB xb 32 * valB yb 32) % pV))) ∧ (f 5 = aggI .u8 xb) ∧ (f 6 = aggI .u8 yb) ∧ (f 7 = aggI .u8 (numB ((valB xb 32 * valB yb 32) % pV))) ∧ (f 8 = .bool true) ∧ (f 9 = .bool true) ∧ (f 10 = .bool true) ∧ True := hH
    rw [show List.range (List.length [[], [0, 0], [1], [1], [2, 3, 1, 1], [1], [1], [5, 6, 4, 1], [4, 7, 1], [1, 8], [9, 7, 0, 1, 2, 3, 4, 5, 6, 7, 8, 9]]) = [0, 1, 2, 3, 4, 5, 6, 7, 8, 9, 10] from rfl]
    simp only [putL, List.getElem?_cons_zero, List.getElem?_cons_succ, Option.join, Option.bind_some, id_eq, Act.put, List.setIfInBounds_toArray, List.set_cons_zero, List.set_cons_succ, d0, d1, d2, d3, d4, d5, d6, d7, d8, d9, d10]
    clear d0 d1 d2 d3 d4 d5 d6 d7 d8 d9 d10
    go_wp2
    go_ret
    exact ⟨rfl, hG.2.2⟩
end Go.Proofs.YtlhloldjlfcchaaDoor
