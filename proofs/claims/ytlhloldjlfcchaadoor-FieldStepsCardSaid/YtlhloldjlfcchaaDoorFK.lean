/- The reference's calls on bytes. -/
import Derived.Test.YtlhloldjlfcchaaDoorFJ
namespace Go.Proofs.YtlhloldjlfcchaaDoor
open Go.RowKit Go.Shelf
set_option linter.unusedVariables false
set_option maxRecDepth 8000

theorem pV_sum (u v : Int) : u % pV + v % pV < 2 ^ 256 := by
  have h1 := pV_mod u
  have h2 := pV_mod v
  have h3 : 2 * pV < 2 ^ 256 := by decide +kernel
  omega
set_option maxHeartbeats 2000000 in
theorem ref_add_v (xb yb : List Int) (w : World) (hxb : Bytes xb) (hyb : Bytes yb) (hxl : xb.length = 32) (hyl : yb.length = 32) :
    Calls Tryd.prog 12 #[aggI .u8 xb, aggI .u8 yb] w fun e w' => e = .returned (aggI .u8 (numB ((valB xb 32 + valB yb 32) % pV))) ∧ Below w.heap.size w w' := by
  have LX := fun W => ref_load_v xb W hxb hxl
  have LY := fun W => ref_load_v yb W hyb hyl
  have hx := valB_32 xb hxb
  have hy := valB_32 yb hyb
  generalize valB xb 32 = u at *
  generalize valB yb 32 = v at *
  have CX := fun W => ref_cut_v u W hx
  have CY := fun W => ref_cut_v v W hy
  have OP := fun W => ref_sum_v (u % pV) (v % pV) W (pV_mod u).1 (pV_mod v).1 (pV_sum u v)
  rw [← Int.add_emod] at OP
  generalize (u + v) % pV = z at *
  go_enter Tryd.func12, Tryd.ntmps12
  go_wp2_with (first
    | (with_reducible refine at_op (o := ⟨some 2, _, _, _, _, _⟩) ?_; refine wpList_boxI rfl 22 _ rfl .u8 xb rfl ?_; intro w1 A1 s1 b1)
    | (with_reducible refine at_op (o := ⟨some 3, _, _, _, _, _⟩) ?_; refine wpList_boxI rfl 22 _ rfl .u8 yb rfl ?_; intro w2 A2 s2 b2; have X2 := A1.below b2)
    | (with_reducible refine at_op (o := ⟨some 4, _, _, _, _, _⟩) ?_; refine wpList_allocI rfl 22 rfl .u8 32 zero_a32 ?_; intro w3 A3 s3 b3; have X3 := X2.below b3; have Y3 := A2.below b3))
  refine wp_region_ord [[], [0], [1, 1], [], [3, 2], [4, 4], [2, 5, 5], [6, 6], [7, 7, 0, 1, 2, 3, 4, 5, 6, 7]] [some 5, some 6, some 7, some 8, some 9, some 10, some 11, some 12, none] 8 (fun b w' => Arr .u8 w' w.heap.size xb ∧ Arr .u8 w' w1.heap.size yb ∧ Arr .u8 w' w2.heap.size (if b then numB (z) else List.replicate 32 0) ∧ Below w.heap.size w w') (fun opn f _ => match opn with | 0 => f 0 = aggI .u8 xb | 1 => f 1 = aggI .u64 (numW 4 u) | 2 => f 2 = aggI .u64 (numW 4 (u % pV)) | 3 => f 3 = aggI .u8 yb | 4 => f 4 = aggI .u64 (numW 4 v) | 5 => f 5 = aggI .u64 (numW 4 (v % pV)) | 6 => f 6 = aggI .u64 (numW 4 z) | 7 => f 7 = aggI .u8 (numB z) | 8 => f 8 = undef | _ => True) (fun _ v v' => ∃ cs, v' = v.setRow (w2.heap.size) cs) (by kernel_rfl) (by kernel_rfl) (by kernel_rfl) (by kernel_rfl) (fun b v v' hb h => ⟨h.1.below hb, h.2.1.below hb, h.2.2.1.below hb, below_then h.2.2.2 hb⟩) (fun _ _ _ _ _ h => h) (fun _ _ _ _ _ _ _ h => h) ⟨X3.drew, Y3.drew, A3.drew, (below_then (below_then b1 b2) b3).drew⟩ ?_ ?_
  ·
    refine StepL.other (k := 0) rfl (fun b f W hb hG hH => ?_) ?_
    · -- 0
      obtain rfl := hb rfl
      clear hH
      generalize hA : putL _ _ _ _ = A
      have q2 : A.eval (.tmp 2) = .pointer (some ⟨w.heap.size, 0, none⟩) := by rw [← hA]; exact putL_none rfl rfl rfl rfl
      have r2 : A.tmps[2]?.getD undef = .pointer (some ⟨w.heap.size, 0, none⟩) := slot_get q2
      clear hA
      exact Does.loadI rfl 22 _ rfl 32 5 und_a32 info_a32 (w.heap.size) q2 .u8 (xb) (hG.1) (hxl) ⟨Below.refl _ _, rfl⟩
    refine StepL.other (k := 1) rfl (fun b f W hb hG hH => ?_) ?_
    · -- 1
      obtain rfl := hb rfl
      obtain ⟨d0, -⟩ : (f 0 = aggI .u8 xb) ∧ True := hH
      generalize hA : putL _ _ _ _ = A
      have q5 : A.eval (.tmp 5) = aggI .u8 xb := by rw [← hA]; exact putL_look rfl rfl rfl d0
      have r5 : A.tmps[5]?.getD undef = aggI .u8 xb := slot_get q5
      clear hA
      refine Does.call rfl _ _ (by go_simp) ((LX W).mono ?_)
      rintro e w' ⟨rfl, hb'⟩
      exact ⟨_, rfl, hb', rfl⟩
    refine StepL.other (k := 2) rfl (fun b f W hb hG hH => ?_) ?_
    · -- 2
      obtain rfl := hb rfl
      obtain ⟨d1, -, -⟩ : (f 1 = aggI .u64 (numW 4 u)) ∧ (f 1 = aggI .u64 (numW 4 u)) ∧ True := hH
      generalize hA : putL _ _ _ _ = A
      have q6 : A.eval (.tmp 6) = aggI .u64 (numW 4 u) := by rw [← hA]; exact putL_look rfl rfl rfl d1
      have r6 : A.tmps[6]?.getD undef = aggI .u64 (numW 4 u) := slot_get q6
      clear hA
      refine Does.call rfl _ _ (by go_simp) ((CX W).mono ?_)
      rintro e w' ⟨rfl, hb'⟩
      exact ⟨_, rfl, hb', rfl⟩
    refine StepL.other (k := 3) rfl (fun b f W hb hG hH => ?_) ?_
    · -- 3
      obtain rfl := hb rfl
      clear hH
      generalize hA : putL _ _ _ _ = A
      have q3 : A.eval (.tmp 3) = .pointer (some ⟨w1.heap.size, 0, none⟩) := by rw [← hA]; exact putL_none rfl rfl rfl rfl
      have r3 : A.tmps[3]?.getD undef = .pointer (some ⟨w1.heap.size, 0, none⟩) := slot_get q3
      clear hA
      exact Does.loadI rfl 22 _ rfl 32 5 und_a32 info_a32 (w1.heap.size) q3 .u8 (yb) (hG.2.1) (hyl) ⟨Below.refl _ _, rfl⟩
    refine StepL.other (k := 4) rfl (fun b f W hb hG hH => ?_) ?_
    · -- 4
      obtain rfl := hb rfl
      obtain ⟨d3, d2, -⟩ : (f 3 = aggI .u8 yb) ∧ (f 2 = aggI .u64 (numW 4 (u % pV))) ∧ True := hH
      generalize hA : putL _ _ _ _ = A
      have q8 : A.eval (.tmp 8) = aggI .u8 yb := by rw [← hA]; exact putL_look rfl rfl rfl d3
      have r8 : A.tmps[8]?.getD undef = aggI .u8 yb := slot_get q8
      clear hA
      refine Does.call rfl _ _ (by go_simp) ((LY W).mono ?_)
      rintro e w' ⟨rfl, hb'⟩
      exact ⟨_, rfl, hb', rfl⟩
    refine StepL.other (k := 5) rfl (fun b f W hb hG hH => ?_) ?_
    · -- 5
      obtain rfl := hb rfl
      obtain ⟨d4, -, -⟩ : (f 4 = aggI .u64 (numW 4 v)) ∧ (f 4 = aggI .u64 (numW 4 v)) ∧ True := hH
      generalize hA : putL _ _ _ _ = A
      have q9 : A.eval (.tmp 9) = aggI .u64 (numW 4 v) := by rw [← hA]; exact putL_look rfl rfl rfl d4
      have r9 : A.tmps[9]?.getD undef = aggI .u64 (numW 4 v) := slot_get q9
      clear hA
      refine Does.call rfl _ _ (by go_simp) ((CY W).mono ?_)
      rintro e w' ⟨rfl, hb'⟩
      exact ⟨_, rfl, hb', rfl⟩
    refine StepL.other (k := 6) rfl (fun b f W hb hG hH => ?_) ?_
    · -- 6
      obtain rfl := hb rfl
      obtain ⟨d2, d5, -, -⟩ : (f 2 = aggI .u64 (numW 4 (u % pV))) ∧ (f 5 = aggI .u64 (numW 4 (v % pV))) ∧ (f 5 = aggI .u64 (numW 4 (v % pV))) ∧ True := hH
      generalize hA : putL _ _ _ _ = A
      have q7 : A.eval (.tmp 7) = aggI .u64 (numW 4 (u % pV)) := by rw [← hA]; exact putL_look rfl rfl rfl d2
      have r7 : A.tmps[7]?.getD undef = aggI .u64 (numW 4 (u % pV)) := slot_get q7
      have q10 : A.eval (.tmp 10) = aggI .u64 (numW 4 (v % pV)) := by rw [← hA]; exact putL_look rfl rfl rfl d5
      have r10 : A.tmps[10]?.getD undef = aggI .u64 (numW 4 (v % pV)) := slot_get q10
      clear hA
      refine Does.call rfl _ _ (by go_simp) ((OP W).mono ?_)
      rintro e w' ⟨rfl, hb'⟩
      exact ⟨_, rfl, hb', rfl⟩
    refine StepL.other (k := 7) rfl (fun b f W hb hG hH => ?_) ?_
    · -- 7
      obtain rfl := hb rfl
      obtain ⟨d6, -, -⟩ : (f 6 = aggI .u64 (numW 4 z)) ∧ (f 6 = aggI .u64 (numW 4 z)) ∧ True := hH
      generalize hA : putL _ _ _ _ = A
      have q11 : A.eval (.tmp 11) = aggI .u64 (numW 4 z) := by rw [← hA]; exact putL_look rfl rfl rfl d6
      have r11 : A.tmps[11]?.getD undef = aggI .u64 (numW 4 z) := slot_get q11
      clear hA
      refine Does.call rfl _ _ (by go_simp) ((ref_bytes_v z W).mono ?_)
      rintro e w' ⟨rfl, hb'⟩
      exact ⟨_, rfl, hb', rfl⟩
    refine StepL.self (k := 8) rfl (fun f W hG hH => ?_) ?_
    · -- 8
      obtain ⟨d7, -, d0, d1, d2, d3, d4, d5, d6, -, -⟩ : (f 7 = aggI .u8 (numB z)) ∧ (f 7 = aggI .u8 (numB z)) ∧ (f 0 = aggI .u8 xb) ∧ (f 1 = aggI .u64 (numW 4 u)) ∧ (f 2 = aggI .u64 (numW 4 (u % pV))) ∧ (f 3 = aggI .u8 yb) ∧ (f 4 = aggI .u64 (numW 4 v)) ∧ (f 5 = aggI .u64 (numW 4 (v % pV))) ∧ (f 6 = aggI .u64 (numW 4 z)) ∧ (f 7 = aggI .u8 (numB z)) ∧ True := hH
      generalize hA : putL _ _ _ _ = A
      have q4 : A.eval (.tmp 4) = .pointer (some ⟨w2.heap.size, 0, none⟩) := by rw [← hA]; exact putL_none rfl rfl rfl rfl
      have r4 : A.tmps[4]?.getD undef = .pointer (some ⟨w2.heap.size, 0, none⟩) := slot_get q4
      have q12 : A.eval (.tmp 12) = aggI .u8 (numB z) := by rw [← hA]; exact putL_look rfl rfl rfl d7
      have r12 : A.tmps[12]?.getD undef = aggI .u8 (numB z) := slot_get q12
      clear hA
      refine Does.storeI rfl 22 _ _ rfl 32 info_a32 (w2.heap.size) q4 .u8 _ _ q12 hG.2.2.1 rfl (numB_length _) ?_
      intro A9
      exact ⟨⟨_, rfl⟩, ⟨hG.1.rowOther (by omega) _, hG.2.1.rowOther (by omega) _, A9, Below.setRow hG.2.2.2 (by omega) _⟩, rfl⟩
    exact trivial
  ·
    intro f W hG hH
    obtain ⟨d0, d1, d2, d3, d4, d5, d6, d7, d8, -⟩ : (f 0 = aggI .u8 xb) ∧ (f 1 = aggI .u64 (numW 4 u)) ∧ (f 2 = aggI .u64 (numW 4 (u % pV))) ∧ (f 3 = aggI .u8 yb) ∧ (f 4 = aggI .u64 (numW 4 v)) ∧ (f 5 = aggI .u64 (numW 4 (v % pV))) ∧ (f 6 = aggI .u64 (numW 4 z)) ∧ (f 7 = aggI .u8 (numB z)) ∧ (f 8 = undef) ∧ True := hH
    rw [show List.range (List.length [[], [0], [1, 1], [], [3, 2], [4, 4], [2, 5, 5], [6, 6], [7, 7, 0, 1, 2, 3, 4, 5, 6, 7]]) = [0, 1, 2, 3, 4, 5, 6, 7, 8] from rfl]
    simp only [putL, List.getElem?_cons_zero, List.getElem?_cons_succ, Option.join, Option.bind_some, id_eq, Act.put, List.setIfInBounds_toArray, List.set_cons_zero, List.set_cons_succ, d0, d1, d2, d3, d4, d5, d6, d7]
    clear d0 d1 d2 d3 d4 d5 d6 d7 d8
    obtain ⟨-, -, A9, hbel⟩ := hG
    have A9 : Arr .u8 W (w2.heap.size) (numB (z)) := A9
    go_wp2
    refine bodyPost_ret (results_cellI rfl _ 32 5 und_a32 info_a32 (w2.heap.size) rfl .u8 _ A9 (numB_length _)) rfl ?_
    exact ⟨rfl, hbel⟩
set_option maxHeartbeats 2000000 in
theorem ref_sub_v (xb yb : List Int) (w : World) (hxb : Bytes xb) (hyb : Bytes yb) (hxl : xb.length = 32) (hyl : yb.length = 32) :
    Calls Tryd.prog 14 #[aggI .u8 xb, aggI .u8 yb] w fun e w' => e = .returned (aggI .u8 (numB ((valB xb 32 - valB yb 32) % pV))) ∧ Below w.heap.size w w' := by
  have LX := fun W => ref_load_v xb W hxb hxl
  have LY := fun W => ref_load_v yb W hyb hyl
  have hx := valB_32 xb hxb
  have hy := valB_32 yb hyb
  generalize valB xb 32 = u at *
  generalize valB yb 32 = v at *
  have CX := fun W => ref_cut_v u W hx
  have CY := fun W => ref_cut_v v W hy
  have OP := fun W => ref_diff_v (u % pV) (v % pV) W (pV_mod u) (pV_mod v)
  rw [← Int.sub_emod] at OP
  generalize (u - v) % pV = z at *
  go_enter Tryd.func14, Tryd.ntmps14
  go_wp2_with (first
    | (with_reducible refine at_op (o := ⟨some 2, _, _, _, _, _⟩) ?_; refine wpList_boxI rfl 22 _ rfl .u8 xb rfl ?_; intro w1 A1 s1 b1)
    | (with_reducible refine at_op (o := ⟨some 3, _, _, _, _, _⟩) ?_; refine wpList_boxI rfl 22 _ rfl .u8 yb rfl ?_; intro w2 A2 s2 b2; have X2 := A1.below b2)
    | (with_reducible refine at_op (o := ⟨some 4, _, _, _, _, _⟩) ?_; refine wpList_allocI rfl 22 rfl .u8 32 zero_a32 ?_; intro w3 A3 s3 b3; have X3 := X2.below b3; have Y3 := A2.below b3))
  refine wp_region_ord [[], [0], [1, 1], [], [3, 2], [4, 4], [2, 5, 5], [6, 6], [7, 7, 0, 1, 2, 3, 4, 5, 6, 7]] [some 5, some 6, some 7, some 8, some 9, some 10, some 11, some 12, none] 8 (fun b w' => Arr .u8 w' w.heap.size xb ∧ Arr .u8 w' w1.heap.size yb ∧ Arr .u8 w' w2.heap.size (if b then numB (z) else List.replicate 32 0) ∧ Below w.heap.size w w') (fun opn f _ => match opn with | 0 => f 0 = aggI .u8 xb | 1 => f 1 = aggI .u64 (numW 4 u) | 2 => f 2 = aggI .u64 (numW 4 (u % pV)) | 3 => f 3 = aggI .u8 yb | 4 => f 4 = aggI .u64 (numW 4 v) | 5 => f 5 = aggI .u64 (numW 4 (v % pV)) | 6 => f 6 = aggI .u64 (numW 4 z) | 7 => f 7 = aggI .u8 (numB z) | 8 => f 8 = undef | _ => True) (fun _ v v' => ∃ cs, v' = v.setRow (w2.heap.size) cs) (by kernel_rfl) (by kernel_rfl) (by kernel_rfl) (by kernel_rfl) (fun b v v' hb h => ⟨h.1.below hb, h.2.1.below hb, h.2.2.1.below hb, below_then h.2.2.2 hb⟩) (fun _ _ _ _ _ h => h) (fun _ _ _ _ _ _ _ h => h) ⟨X3.drew, Y3.drew, A3.drew, (below_then (below_then b1 b2) b3).drew⟩ ?_ ?_
  ·
    refine StepL.other (k := 0) rfl (fun b f W hb hG hH => ?_) ?_
    · -- 0
      obtain rfl := hb rfl
      clear hH
      generalize hA : putL _ _ _ _ = A
      have q2 : A.eval (.tmp 2) = .pointer (some ⟨w.heap.size, 0, none⟩) := by rw [← hA]; exact putL_none rfl rfl rfl rfl
      have r2 : A.tmps[2]?.getD undef = .pointer (some ⟨w.heap.size, 0, none⟩) := slot_get q2
      clear hA
      exact Does.loadI rfl 22 _ rfl 32 5 und_a32 info_a32 (w.heap.size) q2 .u8 (xb) (hG.1) (hxl) ⟨Below.refl _ _, rfl⟩
    refine StepL.other (k := 1) rfl (fun b f W hb hG hH => ?_) ?_
    · -- 1
      obtain rfl := hb rfl
      obtain ⟨d0, -⟩ : (f 0 = aggI .u8 xb) ∧ True := hH
      generalize hA : putL _ _ _ _ = A
      have q5 : A.eval (.tmp 5) = aggI .u8 xb := by rw [← hA]; exact putL_look rfl rfl rfl d0
      have r5 : A.tmps[5]?.getD undef = aggI .u8 xb := slot_get q5
      clear hA
      refine Does.call rfl _ _ (by go_simp) ((LX W).mono ?_)
      rintro e w' ⟨rfl, hb'⟩
      exact ⟨_, rfl, hb', rfl⟩
    refine StepL.other (k := 2) rfl (fun b f W hb hG hH => ?_) ?_
    · -- 2
      obtain rfl := hb rfl
      obtain ⟨d1, -, -⟩ : (f 1 = aggI .u64 (numW 4 u)) ∧ (f 1 = aggI .u64 (numW 4 u)) ∧ True := hH
      generalize hA : putL _ _ _ _ = A
      have q6 : A.eval (.tmp 6) = aggI .u64 (numW 4 u) := by rw [← hA]; exact putL_look rfl rfl rfl d1
      have r6 : A.tmps[6]?.getD undef = aggI .u64 (numW 4 u) := slot_get q6
      clear hA
      refine Does.call rfl _ _ (by go_simp) ((CX W).mono ?_)
      rintro e w' ⟨rfl, hb'⟩
      exact ⟨_, rfl, hb', rfl⟩
    refine StepL.other (k := 3) rfl (fun b f W hb hG hH => ?_) ?_
    · -- 3
      obtain rfl := hb rfl
      clear hH
      generalize hA : putL _ _ _ _ = A
      have q3 : A.eval (.tmp 3) = .pointer (some ⟨w1.heap.size, 0, none⟩) := by rw [← hA]; exact putL_none rfl rfl rfl rfl
      have r3 : A.tmps[3]?.getD undef = .pointer (some ⟨w1.heap.size, 0, none⟩) := slot_get q3
      clear hA
      exact Does.loadI rfl 22 _ rfl 32 5 und_a32 info_a32 (w1.heap.size) q3 .u8 (yb) (hG.2.1) (hyl) ⟨Below.refl _ _, rfl⟩
    refine StepL.other (k := 4) rfl (fun b f W hb hG hH => ?_) ?_
    · -- 4
      obtain rfl := hb rfl
      obtain ⟨d3, d2, -⟩ : (f 3 = aggI .u8 yb) ∧ (f 2 = aggI .u64 (numW 4 (u % pV))) ∧ True := hH
      generalize hA : putL _ _ _ _ = A
      have q8 : A.eval (.tmp 8) = aggI .u8 yb := by rw [← hA]; exact putL_look rfl rfl rfl d3
      have r8 : A.tmps[8]?.getD undef = aggI .u8 yb := slot_get q8
      clear hA
      refine Does.call rfl _ _ (by go_simp) ((LY W).mono ?_)
      rintro e w' ⟨rfl, hb'⟩
      exact ⟨_, rfl, hb', rfl⟩
    refine StepL.other (k := 5) rfl (fun b f W hb hG hH => ?_) ?_
    · -- 5
      obtain rfl := hb rfl
      obtain ⟨d4, -, -⟩ : (f 4 = aggI .u64 (numW 4 v)) ∧ (f 4 = aggI .u64 (numW 4 v)) ∧ True := hH
      generalize hA : putL _ _ _ _ = A
      have q9 : A.eval (.tmp 9) = aggI .u64 (numW 4 v) := by rw [← hA]; exact putL_look rfl rfl rfl d4
      have r9 : A.tmps[9]?.getD undef = aggI .u64 (numW 4 v) := slot_get q9
      clear hA
      refine Does.call rfl _ _ (by go_simp) ((CY W).mono ?_)
      rintro e w' ⟨rfl, hb'⟩
      exact ⟨_, rfl, hb', rfl⟩
    refine StepL.other (k := 6) rfl (fun b f W hb hG hH => ?_) ?_
    · -- 6
      obtain rfl := hb rfl
      obtain ⟨d2, d5, -, -⟩ : (f 2 = aggI .u64 (numW 4 (u % pV))) ∧ (f 5 = aggI .u64 (numW 4 (v % pV))) ∧ (f 5 = aggI .u64 (numW 4 (v % pV))) ∧ True := hH
      generalize hA : putL _ _ _ _ = A
      have q7 : A.eval (.tmp 7) = aggI .u64 (numW 4 (u % pV)) := by rw [← hA]; exact putL_look rfl rfl rfl d2
      have r7 : A.tmps[7]?.getD undef = aggI .u64 (numW 4 (u % pV)) := slot_get q7
      have q10 : A.eval (.tmp 10) = aggI .u64 (numW 4 (v % pV)) := by rw [← hA]; exact putL_look rfl rfl rfl d5
      have r10 : A.tmps[10]?.getD undef = aggI .u64 (numW 4 (v % pV)) := slot_get q10
      clear hA
      refine Does.call rfl _ _ (by go_simp) ((OP W).mono ?_)
      rintro e w' ⟨rfl, hb'⟩
      exact ⟨_, rfl, hb', rfl⟩
    refine StepL.other (k := 7) rfl (fun b f W hb hG hH => ?_) ?_
    · -- 7
      obtain rfl := hb rfl
      obtain ⟨d6, -, -⟩ : (f 6 = aggI .u64 (numW 4 z)) ∧ (f 6 = aggI .u64 (numW 4 z)) ∧ True := hH
      generalize hA : putL _ _ _ _ = A
      have q11 : A.eval (.tmp 11) = aggI .u64 (numW 4 z) := by rw [← hA]; exact putL_look rfl rfl rfl d6
      have r11 : A.tmps[11]?.getD undef = aggI .u64 (numW 4 z) := slot_get q11
      clear hA
      refine Does.call rfl _ _ (by go_simp) ((ref_bytes_v z W).mono ?_)
      rintro e w' ⟨rfl, hb'⟩
      exact ⟨_, rfl, hb', rfl⟩
    refine StepL.self (k := 8) rfl (fun f W hG hH => ?_) ?_
    · -- 8
      obtain ⟨d7, -, d0, d1, d2, d3, d4, d5, d6, -, -⟩ : (f 7 = aggI .u8 (numB z)) ∧ (f 7 = aggI .u8 (numB z)) ∧ (f 0 = aggI .u8 xb) ∧ (f 1 = aggI .u64 (numW 4 u)) ∧ (f 2 = aggI .u64 (numW 4 (u % pV))) ∧ (f 3 = aggI .u8 yb) ∧ (f 4 = aggI .u64 (numW 4 v)) ∧ (f 5 = aggI .u64 (numW 4 (v % pV))) ∧ (f 6 = aggI .u64 (numW 4 z)) ∧ (f 7 = aggI .u8 (numB z)) ∧ True := hH
      generalize hA : putL _ _ _ _ = A
      have q4 : A.eval (.tmp 4) = .pointer (some ⟨w2.heap.size, 0, none⟩) := by rw [← hA]; exact putL_none rfl rfl rfl rfl
      have r4 : A.tmps[4]?.getD undef = .pointer (some ⟨w2.heap.size, 0, none⟩) := slot_get q4
      have q12 : A.eval (.tmp 12) = aggI .u8 (numB z) := by rw [← hA]; exact putL_look rfl rfl rfl d7
      have r12 : A.tmps[12]?.getD undef = aggI .u8 (numB z) := slot_get q12
      clear hA
      refine Does.storeI rfl 22 _ _ rfl 32 info_a32 (w2.heap.size) q4 .u8 _ _ q12 hG.2.2.1 rfl (numB_length _) ?_
      intro A9
      exact ⟨⟨_, rfl⟩, ⟨hG.1.rowOther (by omega) _, hG.2.1.rowOther (by omega) _, A9, Below.setRow hG.2.2.2 (by omega) _⟩, rfl⟩
    exact trivial
  ·
    intro f W hG hH
    obtain ⟨d0, d1, d2, d3, d4, d5, d6, d7, d8, -⟩ : (f 0 = aggI .u8 xb) ∧ (f 1 = aggI .u64 (numW 4 u)) ∧ (f 2 = aggI .u64 (numW 4 (u % pV))) ∧ (f 3 = aggI .u8 yb) ∧ (f 4 = aggI .u64 (numW 4 v)) ∧ (f 5 = aggI .u64 (numW 4 (v % pV))) ∧ (f 6 = aggI .u64 (numW 4 z)) ∧ (f 7 = aggI .u8 (numB z)) ∧ (f 8 = undef) ∧ True := hH
    rw [show List.range (List.length [[], [0], [1, 1], [], [3, 2], [4, 4], [2, 5, 5], [6, 6], [7, 7, 0, 1, 2, 3, 4, 5, 6, 7]]) = [0, 1, 2, 3, 4, 5, 6, 7, 8] from rfl]
    simp only [putL, List.getElem?_cons_zero, List.getElem?_cons_succ, Option.join, Option.bind_some, id_eq, Act.put, List.setIfInBounds_toArray, List.set_cons_zero, List.set_cons_succ, d0, d1, d2, d3, d4, d5, d6, d7]
    clear d0 d1 d2 d3 d4 d5 d6 d7 d8
    obtain ⟨-, -, A9, hbel⟩ := hG
    have A9 : Arr .u8 W (w2.heap.size) (numB (z)) := A9
    go_wp2
    refine bodyPost_ret (results_cellI rfl _ 32 5 und_a32 info_a32 (w2.heap.size) rfl .u8 _ A9 (numB_length _)) rfl ?_
    exact ⟨rfl, hbel⟩
set_option maxHeartbeats 2000000 in
theorem ref_reduce_v (xb : List Int) (w : World) (hxb : Bytes xb) (hxl : xb.length = 32) :
    Calls Tryd.prog 16 #[aggI .u8 xb] w fun e w' => e = .returned (aggI .u8 (numB (valB xb 32 % pV))) ∧ Below w.heap.size w w' := by
  have LX := fun W => ref_load_v xb W hxb hxl
  have hx := valB_32 xb hxb
  generalize valB xb 32 = u at *
  go_enter Tryd.func16, Tryd.ntmps16
  go_wp2_with (first
    | (with_reducible refine at_op (o := ⟨some 1, _, _, _, _, _⟩) ?_; refine wpList_boxI rfl 22 _ rfl .u8 xb rfl ?_; intro w1 A1 s1 b1)
    | (with_reducible refine at_op (o := ⟨some 2, _, _, _, _, _⟩) ?_; refine wpList_allocI rfl 22 rfl .u8 32 zero_a32 ?_; intro w2 A2 s2 b2; have X2 := A1.below b2)
    | (with_reducible refine at_op (o := ⟨some 3, _, _, _, _, _⟩) ?_; refine wpList_loadI rfl 22 _ rfl 32 5 und_a32 info_a32 (w.heap.size) rfl .u8 (xb) (X2) (hxl) ?_)
    | (go_at_call 34; refine (LX _).mono ?_; rintro e w3 ⟨rfl, b3⟩; have R3 := A2.below b3)
    | (go_at_call 33; refine (ref_cut_v u _ hx).mono ?_; rintro e w4 ⟨rfl, b4⟩; have R4 := R3.below b4)
    | (go_at_call 27; refine (ref_bytes_v _ _).mono ?_; rintro e w5 ⟨rfl, b5⟩; have R5 := R4.below b5)
    | (with_reducible refine at_op (o := ⟨_, .store 22 _ _, _, _, _, _⟩) ?_; refine wpList_storeI rfl 22 _ _ rfl 32 info_a32 (w1.heap.size) rfl .u8 _ (numB (u % pV)) rfl (R5) (rfl) (numB_length _) ?_; intro A9))
  refine bodyPost_ret (results_cellI rfl _ 32 5 und_a32 info_a32 (w1.heap.size) rfl .u8 _ A9 (numB_length _)) rfl ?_
  exact ⟨rfl, Below.setRow (below_then (below_then (below_then (below_then b1 b2) b3) b4) b5) (by omega) _⟩
set_option maxHeartbeats 2000000 in
theorem ref_right_v (xb : List Int) (w : World) (hxb : Bytes xb) (hxl : xb.length = 32) :
    Calls Tryd.prog 18 #[aggI .u8 xb] w fun e w' => e = .returned (.bool (decide (valB xb 32 < pV))) ∧ Below w.heap.size w w' := by
  have LX := fun W => ref_load_v xb W hxb hxl
  have hx := valB_32 xb hxb
  generalize valB xb 32 = u at *
  go_enter Tryd.func18, Tryd.ntmps18
  go_wp2_with (first
    | (with_reducible refine at_op (o := ⟨some 1, _, _, _, _, _⟩) ?_; refine wpList_boxI rfl 22 _ rfl .u8 xb rfl ?_; intro w1 A1 s1 b1)
    | (with_reducible refine at_op (o := ⟨some 3, _, _, _, _, _⟩) ?_; refine wpList_loadI rfl 22 _ rfl 32 5 und_a32 info_a32 (w.heap.size) rfl .u8 (xb) (A1) (hxl) ?_)
    | (go_at_call 34; refine (LX _).mono ?_; rintro e w3 ⟨rfl, b3⟩)
    | (go_at_call 28; refine (ref_P_v _).mono ?_; rintro e w4 ⟨rfl, b4⟩)
    | (go_at_call 37; refine (ref_less_v u pV _ hx pV_lt).mono ?_; rintro e w5 ⟨rfl, b5⟩))
  go_ret
  exact ⟨rfl, below_then (below_then (below_then b1 b3) b4) b5⟩
end Go.Proofs.YtlhloldjlfcchaaDoor
