/- Package field's calls on bytes. -/
import Derived.Test.YtlhloldjlfcchaaDoorFF
namespace Go.Proofs.YtlhloldjlfcchaaDoor
open Go.RowKit Go.Shelf
set_option linter.unusedVariables false
set_option maxRecDepth 8000

set_option maxHeartbeats 2000000 in
theorem add_v (xb yb : List Int) (w : World) (hxb : Bytes xb) (hyb : Bytes yb) (hxl : xb.length = 32) (hyl : yb.length = 32) :
    Calls Tryd.prog 11 #[aggI .u8 xb, aggI .u8 yb] w fun e w' => e = .returned (aggI .u8 (numB ((valB xb 32 + valB yb 32) % pV))) ∧ Below w.heap.size w w' := by
  have LX := fun W => load_any xb W hxb hxl
  have LY := fun W => load_any yb W hyb hyl
  have hx := loadL_fel xb hxb
  have hy := loadL_fel yb hyb
  have hz := plus_fel hx hy
  have OP := fun W => plus_any _ _ W hx.small hy.small hx.len hy.len
  rw [← Int.add_emod] at hz
  generalize carriedS (loadL xb) = xs at *
  generalize carriedS (loadL yb) = ys at *
  have BZ := fun W => bytes_v _ _ W hz
  generalize carriedS (plusL xs ys) = zs at *
  clear hx hy hz
  go_enter Tryd.func11, Tryd.ntmps11
  go_wp2_with (first
    | (with_reducible refine at_op (o := ⟨some 2, _, _, _, _, _⟩) ?_; refine wpList_boxI rfl 22 _ rfl .u8 xb rfl ?_; intro w1 A1 s1 b1)
    | (with_reducible refine at_op (o := ⟨some 3, _, _, _, _, _⟩) ?_; refine wpList_boxI rfl 22 _ rfl .u8 yb rfl ?_; intro w2 A2 s2 b2; have X2 := A1.below b2)
    | (with_reducible refine at_op (o := ⟨some 4, _, _, _, _, _⟩) ?_; refine wpList_allocI rfl 22 rfl .u8 32 zero_a32 ?_; intro w3 A3 s3 b3; have X3 := X2.below b3; have Y3 := A2.below b3))
  refine wp_region_ord [[], [0], [], [2, 1], [1, 3, 3], [4, 4], [5, 5, 0, 1, 2, 3, 4, 5]] [some 5, some 6, some 7, some 8, some 9, some 10, none] 6 (fun b w' => Arr .u8 w' w.heap.size xb ∧ Arr .u8 w' w1.heap.size yb ∧ Arr .u8 w' w2.heap.size (if b then numB ((valB xb 32 + valB yb 32) % pV) else List.replicate 32 0) ∧ Below w.heap.size w w') (fun opn f _ => match opn with | 0 => f 0 = aggI .u8 xb | 1 => f 1 = aggI .u64 xs | 2 => f 2 = aggI .u8 yb | 3 => f 3 = aggI .u64 ys | 4 => f 4 = aggI .u64 zs | 5 => f 5 = aggI .u8 (numB ((valB xb 32 + valB yb 32) % pV)) | 6 => f 6 = undef | _ => True) (fun _ v v' => ∃ cs, v' = v.setRow (w2.heap.size) cs) (by kernel_rfl) (by kernel_rfl) (by kernel_rfl) (by kernel_rfl) (fun b v v' hb h => ⟨h.1.below hb, h.2.1.below hb, h.2.2.1.below hb, below_then h.2.2.2 hb⟩) (fun _ _ _ _ _ h => h) (fun _ _ _ _ _ _ _ h => h) ⟨X3.drew, Y3.drew, A3.drew, (below_then (below_then b1 b2) b3).drew⟩ ?_ ?_
  ·
    refine StepL.other (k := 0) rfl (fun b f W hb hG hH => ?_) ?_
    · -- 0
      obtain rfl := hb rfl
      clear hH
      generalize hA : putL _ _ _ _ = A
      have q2 : A.eval (.tmp 2) = .pointer (some ⟨w.heap.size, 0, none⟩) := by rw [← hA]; exact putL_none rfl rfl rfl rfl
      have r2 : A.tmps[2]?.getD undef = .pointer (some ⟨w.heap.size, 0, none⟩) := slot_get q2
      clear hA
      exact Does.loadI rfl 22 _ rfl 32 5 und_a32 info_a32 (w.heap.size) q2 .u8 (xb) (hG.1) (hxl) ⟨Below.refl _ _, rfl⟩
    refine StepL.other (k := 1) rfl (fun b f W hb hG hH => ?_) ?_
    · -- 1
      obtain rfl := hb rfl
      obtain ⟨d0, -⟩ : (f 0 = aggI .u8 xb) ∧ True := hH
      generalize hA : putL _ _ _ _ = A
      have q5 : A.eval (.tmp 5) = aggI .u8 xb := by rw [← hA]; exact putL_look rfl rfl rfl d0
      have r5 : A.tmps[5]?.getD undef = aggI .u8 xb := slot_get q5
      clear hA
      refine Does.call rfl _ _ (by go_simp) ((LX W).mono ?_)
      rintro e w' ⟨rfl, hb'⟩
      exact ⟨_, rfl, hb', rfl⟩
    refine StepL.other (k := 2) rfl (fun b f W hb hG hH => ?_) ?_
    · -- 2
      obtain rfl := hb rfl
      clear hH
      generalize hA : putL _ _ _ _ = A
      have q3 : A.eval (.tmp 3) = .pointer (some ⟨w1.heap.size, 0, none⟩) := by rw [← hA]; exact putL_none rfl rfl rfl rfl
      have r3 : A.tmps[3]?.getD undef = .pointer (some ⟨w1.heap.size, 0, none⟩) := slot_get q3
      clear hA
      exact Does.loadI rfl 22 _ rfl 32 5 und_a32 info_a32 (w1.heap.size) q3 .u8 (yb) (hG.2.1) (hyl) ⟨Below.refl _ _, rfl⟩
    refine StepL.other (k := 3) rfl (fun b f W hb hG hH => ?_) ?_
    · -- 3
      obtain rfl := hb rfl
      obtain ⟨d2, d1, -⟩ : (f 2 = aggI .u8 yb) ∧ (f 1 = aggI .u64 xs) ∧ True := hH
      generalize hA : putL _ _ _ _ = A
      have q7 : A.eval (.tmp 7) = aggI .u8 yb := by rw [← hA]; exact putL_look rfl rfl rfl d2
      have r7 : A.tmps[7]?.getD undef = aggI .u8 yb := slot_get q7
      clear hA
      refine Does.call rfl _ _ (by go_simp) ((LY W).mono ?_)
      rintro e w' ⟨rfl, hb'⟩
      exact ⟨_, rfl, hb', rfl⟩
    refine StepL.other (k := 4) rfl (fun b f W hb hG hH => ?_) ?_
    · -- 4
      obtain rfl := hb rfl
      obtain ⟨d1, d3, -, -⟩ : (f 1 = aggI .u64 xs) ∧ (f 3 = aggI .u64 ys) ∧ (f 3 = aggI .u64 ys) ∧ True := hH
      generalize hA : putL _ _ _ _ = A
      have q6 : A.eval (.tmp 6) = aggI .u64 xs := by rw [← hA]; exact putL_look rfl rfl rfl d1
      have r6 : A.tmps[6]?.getD undef = aggI .u64 xs := slot_get q6
      have q8 : A.eval (.tmp 8) = aggI .u64 ys := by rw [← hA]; exact putL_look rfl rfl rfl d3
      have r8 : A.tmps[8]?.getD undef = aggI .u64 ys := slot_get q8
      clear hA
      refine Does.call rfl _ _ (by go_simp) ((OP W).mono ?_)
      rintro e w' ⟨rfl, hb'⟩
      exact ⟨_, rfl, hb', rfl⟩
    refine StepL.other (k := 5) rfl (fun b f W hb hG hH => ?_) ?_
    · -- 5
      obtain rfl := hb rfl
      obtain ⟨d4, -, -⟩ : (f 4 = aggI .u64 zs) ∧ (f 4 = aggI .u64 zs) ∧ True := hH
      generalize hA : putL _ _ _ _ = A
      have q9 : A.eval (.tmp 9) = aggI .u64 zs := by rw [← hA]; exact putL_look rfl rfl rfl d4
      have r9 : A.tmps[9]?.getD undef = aggI .u64 zs := slot_get q9
      clear hA
      refine Does.call rfl _ _ (by go_simp) ((BZ W).mono ?_)
      rintro e w' ⟨rfl, hb'⟩
      exact ⟨_, rfl, hb', rfl⟩
    refine StepL.self (k := 6) rfl (fun f W hG hH => ?_) ?_
    · -- 6
      obtain ⟨d5, -, d0, d1, d2, d3, d4, -, -⟩ : (f 5 = aggI .u8 (numB ((valB xb 32 + valB yb 32) % pV))) ∧ (f 5 = aggI .u8 (numB ((valB xb 32 + valB yb 32) % pV))) ∧ (f 0 = aggI .u8 xb) ∧ (f 1 = aggI .u64 xs) ∧ (f 2 = aggI .u8 yb) ∧ (f 3 = aggI .u64 ys) ∧ (f 4 = aggI .u64 zs) ∧ (f 5 = aggI .u8 (numB ((valB xb 32 + valB yb 32) % pV))) ∧ True := hH
      generalize hA : putL _ _ _ _ = A
      have q4 : A.eval (.tmp 4) = .pointer (some ⟨w2.heap.size, 0, none⟩) := by rw [← hA]; exact putL_none rfl rfl rfl rfl
      have r4 : A.tmps[4]?.getD undef = .pointer (some ⟨w2.heap.size, 0, none⟩) := slot_get q4
      have q10 : A.eval (.tmp 10) = aggI .u8 (numB ((valB xb 32 + valB yb 32) % pV)) := by rw [← hA]; exact putL_look rfl rfl rfl d5
      have r10 : A.tmps[10]?.getD undef = aggI .u8 (numB ((valB xb 32 + valB yb 32) % pV)) := slot_get q10
      clear hA
      refine Does.storeI rfl 22 _ _ rfl 32 info_a32 (w2.heap.size) q4 .u8 _ _ q10 hG.2.2.1 rfl (numB_length _) ?_
      intro A9
      exact ⟨⟨_, rfl⟩, ⟨hG.1.rowOther (by omega) _, hG.2.1.rowOther (by omega) _, A9, Below.setRow hG.2.2.2 (by omega) _⟩, rfl⟩
    exact trivial
  ·
    intro f W hG hH
    obtain ⟨d0, d1, d2, d3, d4, d5, d6, -⟩ : (f 0 = aggI .u8 xb) ∧ (f 1 = aggI .u64 xs) ∧ (f 2 = aggI .u8 yb) ∧ (f 3 = aggI .u64 ys) ∧ (f 4 = aggI .u64 zs) ∧ (f 5 = aggI .u8 (numB ((valB xb 32 + valB yb 32) % pV))) ∧ (f 6 = undef) ∧ True := hH
    rw [show List.range (List.length [[], [0], [], [2, 1], [1, 3, 3], [4, 4], [5, 5, 0, 1, 2, 3, 4, 5]]) = [0, 1, 2, 3, 4, 5, 6] from rfl]
    simp only [putL, List.getElem?_cons_zero, List.getElem?_cons_succ, Option.join, Option.bind_some, id_eq, Act.put, List.setIfInBounds_toArray, List.set_cons_zero, List.set_cons_succ, d0, d1, d2, d3, d4, d5]
    clear d0 d1 d2 d3 d4 d5 d6
    obtain ⟨-, -, A9, hbel⟩ := hG
    have A9 : Arr .u8 W (w2.heap.size) (numB ((valB xb 32 + valB yb 32) % pV)) := A9
    go_wp2
    refine bodyPost_ret (results_cellI rfl _ 32 5 und_a32 info_a32 (w2.heap.size) rfl .u8 _ A9 (numB_length _)) rfl ?_
    exact ⟨rfl, hbel⟩
set_option maxHeartbeats 2000000 in
theorem sub_v (xb yb : List Int) (w : World) (hxb : Bytes xb) (hyb : Bytes yb) (hxl : xb.length = 32) (hyl : yb.length = 32) :
    Calls Tryd.prog 13 #[aggI .u8 xb, aggI .u8 yb] w fun e w' => e = .returned (aggI .u8 (numB ((valB xb 32 - valB yb 32) % pV))) ∧ Below w.heap.size w w' := by
  have LX := fun W => load_any xb W hxb hxl
  have LY := fun W => load_any yb W hyb hyl
  have hx := loadL_fel xb hxb
  have hy := loadL_fel yb hyb
  have hz := minus_fel hx hy
  have OP := fun W => minus_any _ _ W hx.small hy.small hx.len hy.len
  rw [← Int.sub_emod] at hz
  generalize carriedS (loadL xb) = xs at *
  generalize carriedS (loadL yb) = ys at *
  have BZ := fun W => bytes_v _ _ W hz
  generalize carriedS (minusL xs ys) = zs at *
  clear hx hy hz
  go_enter Tryd.func13, Tryd.ntmps13
  go_wp2_with (first
    | (with_reducible refine at_op (o := ⟨some 2, _, _, _, _, _⟩) ?_; refine wpList_boxI rfl 22 _ rfl .u8 xb rfl ?_; intro w1 A1 s1 b1)
    | (with_reducible refine at_op (o := ⟨some 3, _, _, _, _, _⟩) ?_; refine wpList_boxI rfl 22 _ rfl .u8 yb rfl ?_; intro w2 A2 s2 b2; have X2 := A1.below b2)
    | (with_reducible refine at_op (o := ⟨some 4, _, _, _, _, _⟩) ?_; refine wpList_allocI rfl 22 rfl .u8 32 zero_a32 ?_; intro w3 A3 s3 b3; have X3 := X2.below b3; have Y3 := A2.below b3))
  refine wp_region_ord [[], [0], [], [2, 1], [1, 3, 3], [4, 4], [5, 5, 0, 1, 2, 3, 4, 5]] [some 5, some 6, some 7, some 8, some 9, some 10, none] 6 (fun b w' => Arr .u8 w' w.heap.size xb ∧ Arr .u8 w' w1.heap.size yb ∧ Arr .u8 w' w2.heap.size (if b then numB ((valB xb 32 - valB yb 32) % pV) else List.replicate 32 0) ∧ Below w.heap.size w w') (fun opn f _ => match opn with | 0 => f 0 = aggI .u8 xb | 1 => f 1 = aggI .u64 xs | 2 => f 2 = aggI .u8 yb | 3 => f 3 = aggI .u64 ys | 4 => f 4 = aggI .u64 zs | 5 => f 5 = aggI .u8 (numB ((valB xb 32 - valB yb 32) % pV)) | 6 => f 6 = undef | _ => True) (fun _ v v' => ∃ cs, v' = v.setRow (w2.heap.size) cs) (by kernel_rfl) (by kernel_rfl) (by kernel_rfl) (by kernel_rfl) (fun b v v' hb h => ⟨h.1.below hb, h.2.1.below hb, h.2.2.1.below hb, below_then h.2.2.2 hb⟩) (fun _ _ _ _ _ h => h) (fun _ _ _ _ _ _ _ h => h) ⟨X3.drew, Y3.drew, A3.drew, (below_then (below_then b1 b2) b3).drew⟩ ?_ ?_
  ·
    refine StepL.other (k := 0) rfl (fun b f W hb hG hH => ?_) ?_
    · -- 0
      obtain rfl := hb rfl
      clear hH
      generalize hA : putL _ _ _ _ = A
      have q2 : A.eval (.tmp 2) = .pointer (some ⟨w.heap.size, 0, none⟩) := by rw [← hA]; exact putL_none rfl rfl rfl rfl
      have r2 : A.tmps[2]?.getD undef = .pointer (some ⟨w.heap.size, 0, none⟩) := slot_get q2
      clear hA
      exact Does.loadI rfl 22 _ rfl 32 5 und_a32 info_a32 (w.heap.size) q2 .u8 (xb) (hG.1) (hxl) ⟨Below.refl _ _, rfl⟩
    refine StepL.other (k := 1) rfl (fun b f W hb hG hH => ?_) ?_
    · -- 1
      obtain rfl := hb rfl
      obtain ⟨d0, -⟩ : (f 0 = aggI .u8 xb) ∧ True := hH
      generalize hA : putL _ _ _ _ = A
      have q5 : A.eval (.tmp 5) = aggI .u8 xb := by rw [← hA]; exact putL_look rfl rfl rfl d0
      have r5 : A.tmps[5]?.getD undef = aggI .u8 xb := slot_get q5
      clear hA
      refine Does.call rfl _ _ (by go_simp) ((LX W).mono ?_)
      rintro e w' ⟨rfl, hb'⟩
      exact ⟨_, rfl, hb', rfl⟩
    refine StepL.other (k := 2) rfl (fun b f W hb hG hH => ?_) ?_
    · -- 2
      obtain rfl := hb rfl
      clear hH
      generalize hA : putL _ _ _ _ = A
      have q3 : A.eval (.tmp 3) = .pointer (some ⟨w1.heap.size, 0, none⟩) := by rw [← hA]; exact putL_none rfl rfl rfl rfl
      have r3 : A.tmps[3]?.getD undef = .pointer (some ⟨w1.heap.size, 0, none⟩) := slot_get q3
      clear hA
      exact Does.loadI rfl 22 _ rfl 32 5 und_a32 info_a32 (w1.heap.size) q3 .u8 (yb) (hG.2.1) (hyl) ⟨Below.refl _ _, rfl⟩
    refine StepL.other (k := 3) rfl (fun b f W hb hG hH => ?_) ?_
    · -- 3
      obtain rfl := hb rfl
      obtain ⟨d2, d1, -⟩ : (f 2 = aggI .u8 yb) ∧ (f 1 = aggI .u64 xs) ∧ True := hH
      generalize hA : putL _ _ _ _ = A
      have q7 : A.eval (.tmp 7) = aggI .u8 yb := by rw [← hA]; exact putL_look rfl rfl rfl d2
      have r7 : A.tmps[7]?.getD undef = aggI .u8 yb := slot_get q7
      clear hA
      refine Does.call rfl _ _ (by go_simp) ((LY W).mono ?_)
      rintro e w' ⟨rfl, hb'⟩
      exact ⟨_, rfl, hb', rfl⟩
    refine StepL.other (k := 4) rfl (fun b f W hb hG hH => ?_) ?_
    · -- 4
      obtain rfl := hb rfl
      obtain ⟨d1, d3, -, -⟩ : (f 1 = aggI .u64 xs) ∧ (f 3 = aggI .u64 ys) ∧ (f 3 = aggI .u64 ys) ∧ True := hH
      generalize hA : putL _ _ _ _ = A
      have q6 : A.eval (.tmp 6) = aggI .u64 xs := by rw [← hA]; exact putL_look rfl rfl rfl d1
      have r6 : A.tmps[6]?.getD undef = aggI .u64 xs := slot_get q6
      have q8 : A.eval (.tmp 8) = aggI .u64 ys := by rw [← hA]; exact putL_look rfl rfl rfl d3
      have r8 : A.tmps[8]?.getD undef = aggI .u64 ys := slot_get q8
      clear hA
      refine Does.call rfl _ _ (by go_simp) ((OP W).mono ?_)
      rintro e w' ⟨rfl, hb'⟩
      exact ⟨_, rfl, hb', rfl⟩
    refine StepL.other (k := 5) rfl (fun b f W hb hG hH => ?_) ?_
    · -- 5
      obtain rfl := hb rfl
      obtain ⟨d4, -, -⟩ : (f 4 = aggI .u64 zs) ∧ (f 4 = aggI .u64 zs) ∧ True := hH
      generalize hA : putL _ _ _ _ = A
      have q9 : A.eval (.tmp 9) = aggI .u64 zs := by rw [← hA]; exact putL_look rfl rfl rfl d4
      have r9 : A.tmps[9]?.getD undef = aggI .u64 zs := slot_get q9
      clear hA
      refine Does.call rfl _ _ (by go_simp) ((BZ W).mono ?_)
      rintro e w' ⟨rfl, hb'⟩
      exact ⟨_, rfl, hb', rfl⟩
    refine StepL.self (k := 6) rfl (fun f W hG hH => ?_) ?_
    · -- 6
      obtain ⟨d5, -, d0, d1, d2, d3, d4, -, -⟩ : (f 5 = aggI .u8 (numB ((valB xb 32 - valB yb 32) % pV))) ∧ (f 5 = aggI .u8 (numB ((valB xb 32 - valB yb 32) % pV))) ∧ (f 0 = aggI .u8 xb) ∧ (f 1 = aggI .u64 xs) ∧ (f 2 = aggI .u8 yb) ∧ (f 3 = aggI .u64 ys) ∧ (f 4 = aggI .u64 zs) ∧ (f 5 = aggI .u8 (numB ((valB xb 32 - valB yb 32) % pV))) ∧ True := hH
      generalize hA : putL _ _ _ _ = A
      have q4 : A.eval (.tmp 4) = .pointer (some ⟨w2.heap.size, 0, none⟩) := by rw [← hA]; exact putL_none rfl rfl rfl rfl
      have r4 : A.tmps[4]?.getD undef = .pointer (some ⟨w2.heap.size, 0, none⟩) := slot_get q4
      have q10 : A.eval (.tmp 10) = aggI .u8 (numB ((valB xb 32 - valB yb 32) % pV)) := by rw [← hA]; exact putL_look rfl rfl rfl d5
      have r10 : A.tmps[10]?.getD undef = aggI .u8 (numB ((valB xb 32 - valB yb 32) % pV)) := slot_get q10
      clear hA
      refine Does.storeI rfl 22 _ _ rfl 32 info_a32 (w2.heap.size) q4 .u8 _ _ q10 hG.2.2.1 rfl (numB_length _) ?_
      intro A9
      exact ⟨⟨_, rfl⟩, ⟨hG.1.rowOther (by omega) _, hG.2.1.rowOther (by omega) _, A9, Below.setRow hG.2.2.2 (by omega) _⟩, rfl⟩
    exact trivial
  ·
    intro f W hG hH
    obtain ⟨d0, d1, d2, d3, d4, d5, d6, -⟩ : (f 0 = aggI .u8 xb) ∧ (f 1 = aggI .u64 xs) ∧ (f 2 = aggI .u8 yb) ∧ (f 3 = aggI .u64 ys) ∧ (f 4 = aggI .u64 zs) ∧ (f 5 = aggI .u8 (numB ((valB xb 32 - valB yb 32) % pV))) ∧ (f 6 = undef) ∧ True := hH
    rw [show List.range (List.length [[], [0], [], [2, 1], [1, 3, 3], [4, 4], [5, 5, 0, 1, 2, 3, 4, 5]]) = [0, 1, 2, 3, 4, 5, 6] from rfl]
    simp only [putL, List.getElem?_cons_zero, List.getElem?_cons_succ, Option.join, Option.bind_some, id_eq, Act.put, List.setIfInBounds_toArray, List.set_cons_zero, List.set_cons_succ, d0, d1, d2, d3, d4, d5]
    clear d0 d1 d2 d3 d4 d5 d6
    obtain ⟨-, -, A9, hbel⟩ := hG
    have A9 : Arr .u8 W (w2.heap.size) (numB ((valB xb 32 - valB yb 32) % pV)) := A9
    go_wp2
    refine bodyPost_ret (results_cellI rfl _ 32 5 und_a32 info_a32 (w2.heap.size) rfl .u8 _ A9 (numB_length _)) rfl ?_
    exact ⟨rfl, hbel⟩
set_option maxHeartbeats 2000000 in
theorem mul_v (xb yb : List Int) (w : World) (hxb : Bytes xb) (hyb : Bytes yb) (hxl : xb.length = 32) (hyl : yb.length = 32) :
    Calls Tryd.prog 19 #[aggI .u8 xb, aggI .u8 yb] w fun e w' => e = .returned (aggI .u8 (numB ((valB xb 32 * valB yb 32) % pV))) ∧ Below w.heap.size w w' := by
  have LX := fun W => load_any xb W hxb hxl
  have LY := fun W => load_any yb W hyb hyl
  have hx := loadL_fel xb hxb
  have hy := loadL_fel yb hyb
  have hz := times_fel hx hy
  have OP := fun W => times_any _ _ W hx.small hy.small hx.len hy.len
  rw [← Int.mul_emod] at hz
  generalize carriedS (loadL xb) = xs at *
  generalize carriedS (loadL yb) = ys at *
  have BZ := fun W => bytes_v _ _ W hz
  generalize carriedS (timesL xs ys) = zs at *
  clear hx hy hz
  go_enter Tryd.func19, Tryd.ntmps19
  go_wp2_with (first
    | (with_reducible refine at_op (o := ⟨some 2, _, _, _, _, _⟩) ?_; refine wpList_boxI rfl 22 _ rfl .u8 xb rfl ?_; intro w1 A1 s1 b1)
    | (with_reducible refine at_op (o := ⟨some 3, _, _, _, _, _⟩) ?_; refine wpList_boxI rfl 22 _ rfl .u8 yb rfl ?_; intro w2 A2 s2 b2; have X2 := A1.below b2)
    | (with_reducible refine at_op (o := ⟨some 4, _, _, _, _, _⟩) ?_; refine wpList_allocI rfl 22 rfl .u8 32 zero_a32 ?_; intro w3 A3 s3 b3; have X3 := X2.below b3; have Y3 := A2.below b3))
  refine wp_region_ord [[], [0], [], [2, 1], [1, 3, 3], [4, 4], [5, 5, 0, 1, 2, 3, 4, 5]] [some 5, some 6, some 7, some 8, some 9, some 10, none] 6 (fun b w' => Arr .u8 w' w.heap.size xb ∧ Arr .u8 w' w1.heap.size yb ∧ Arr .u8 w' w2.heap.size (if b then numB ((valB xb 32 * valB yb 32) % pV) else List.replicate 32 0) ∧ Below w.heap.size w w') (fun opn f _ => match opn with | 0 => f 0 = aggI .u8 xb | 1 => f 1 = aggI .u64 xs | 2 => f 2 = aggI .u8 yb | 3 => f 3 = aggI .u64 ys | 4 => f 4 = aggI .u64 zs | 5 => f 5 = aggI .u8 (numB ((valB xb 32 * valB yb 32) % pV)) | 6 => f 6 = undef | _ => True) (fun _ v v' => ∃ cs, v' = v.setRow (w2.heap.size) cs) (by kernel_rfl) (by kernel_rfl) (by kernel_rfl) (by kernel_rfl) (fun b v v' hb h => ⟨h.1.below hb, h.2.1.below hb, h.2.2.1.below hb, below_then h.2.2.2 hb⟩) (fun _ _ _ _ _ h => h) (fun _ _ _ _ _ _ _ h => h) ⟨X3.drew, Y3.drew, A3.drew, (below_then (below_then b1 b2) b3).drew⟩ ?_ ?_
  ·
    refine StepL.other (k := 0) rfl (fun b f W hb hG hH => ?_) ?_
    · -- 0
      obtain rfl := hb rfl
      clear hH
      generalize hA : putL _ _ _ _ = A
      have q2 : A.eval (.tmp 2) = .pointer (some ⟨w.heap.size, 0, none⟩) := by rw [← hA]; exact putL_none rfl rfl rfl rfl
      have r2 : A.tmps[2]?.getD undef = .pointer (some ⟨w.heap.size, 0, none⟩) := slot_get q2
      clear hA
      exact Does.loadI rfl 22 _ rfl 32 5 und_a32 info_a32 (w.heap.size) q2 .u8 (xb) (hG.1) (hxl) ⟨Below.refl _ _, rfl⟩
    refine StepL.other (k := 1) rfl (fun b f W hb hG hH => ?_) ?_
    · -- 1
      obtain rfl := hb rfl
      obtain ⟨d0, -⟩ : (f 0 = aggI .u8 xb) ∧ True := hH
      generalize hA : putL _ _ _ _ = A
      have q5 : A.eval (.tmp 5) = aggI .u8 xb := by rw [← hA]; exact putL_look rfl rfl rfl d0
      have r5 : A.tmps[5]?.getD undef = aggI .u8 xb := slot_get q5
      clear hA
      refine Does.call rfl _ _ (by go_simp) ((LX W).mono ?_)
      rintro e w' ⟨rfl, hb'⟩
      exact ⟨_, rfl, hb', rfl⟩
    refine StepL.other (k := 2) rfl (fun b f W hb hG hH => ?_) ?_
    · -- 2
      obtain rfl := hb rfl
      clear hH
      generalize hA : putL _ _ _ _ = A
      have q3 : A.eval (.tmp 3) = .pointer (some ⟨w1.heap.size, 0, none⟩) := by rw [← hA]; exact putL_none rfl rfl rfl rfl
      have r3 : A.tmps[3]?.getD undef = .pointer (some ⟨w1.heap.size, 0, none⟩) := slot_get q3
      clear hA
      exact Does.loadI rfl 22 _ rfl 32 5 und_a32 info_a32 (w1.heap.size) q3 .u8 (yb) (hG.2.1) (hyl) ⟨Below.refl _ _, rfl⟩
    refine StepL.other (k := 3) rfl (fun b f W hb hG hH => ?_) ?_
    · -- 3
      obtain rfl := hb rfl
      obtain ⟨d2, d1, -⟩ : (f 2 = aggI .u8 yb) ∧ (f 1 = aggI .u64 xs) ∧ True := hH
      generalize hA : putL _ _ _ _ = A
      have q7 : A.eval (.tmp 7) = aggI .u8 yb := by rw [← hA]; exact putL_look rfl rfl rfl d2
      have r7 : A.tmps[7]?.getD undef = aggI .u8 yb := slot_get q7
      clear hA
      refine Does.call rfl _ _ (by go_simp) ((LY W).mono ?_)
      rintro e w' ⟨rfl, hb'⟩
      exact ⟨_, rfl, hb', rfl⟩
    refine StepL.other (k := 4) rfl (fun b f W hb hG hH => ?_) ?_
    · -- 4
      obtain rfl := hb rfl
      obtain ⟨d1, d3, -, -⟩ : (f 1 = aggI .u64 xs) ∧ (f 3 = aggI .u64 ys) ∧ (f 3 = aggI .u64 ys) ∧ True := hH
      generalize hA : putL _ _ _ _ = A
      have q6 : A.eval (.tmp 6) = aggI .u64 xs := by rw [← hA]; exact putL_look rfl rfl rfl d1
      have r6 : A.tmps[6]?.getD undef = aggI .u64 xs := slot_get q6
      have q8 : A.eval (.tmp 8) = aggI .u64 ys := by rw [← hA]; exact putL_look rfl rfl rfl d3
      have r8 : A.tmps[8]?.getD undef = aggI .u64 ys := slot_get q8
      clear hA
      refine Does.call rfl _ _ (by go_simp) ((OP W).mono ?_)
      rintro e w' ⟨rfl, hb'⟩
      exact ⟨_, rfl, hb', rfl⟩
    refine StepL.other (k := 5) rfl (fun b f W hb hG hH => ?_) ?_
    · -- 5
      obtain rfl := hb rfl
      obtain ⟨d4, -, -⟩ : (f 4 = aggI .u64 zs) ∧ (f 4 = aggI .u64 zs) ∧ True := hH
      generalize hA : putL _ _ _ _ = A
      have q9 : A.eval (.tmp 9) = aggI .u64 zs := by rw [← hA]; exact putL_look rfl rfl rfl d4
      have r9 : A.tmps[9]?.getD undef = aggI .u64 zs := slot_get q9
      clear hA
      refine Does.call rfl _ _ (by go_simp) ((BZ W).mono ?_)
      rintro e w' ⟨rfl, hb'⟩
      exact ⟨_, rfl, hb', rfl⟩
    refine StepL.self (k := 6) rfl (fun f W hG hH => ?_) ?_
    · -- 6
      obtain ⟨d5, -, d0, d1, d2, d3, d4, -, -⟩ : (f 5 = aggI .u8 (numB ((valB xb 32 * valB yb 32) % pV))) ∧ (f 5 = aggI .u8 (numB ((valB xb 32 * valB yb 32) % pV))) ∧ (f 0 = aggI .u8 xb) ∧ (f 1 = aggI .u64 xs) ∧ (f 2 = aggI .u8 yb) ∧ (f 3 = aggI .u64 ys) ∧ (f 4 = aggI .u64 zs) ∧ (f 5 = aggI .u8 (numB ((valB xb 32 * valB yb 32) % pV))) ∧ True := hH
      generalize hA : putL _ _ _ _ = A
      have q4 : A.eval (.tmp 4) = .pointer (some ⟨w2.heap.size, 0, none⟩) := by rw [← hA]; exact putL_none rfl rfl rfl rfl
      have r4 : A.tmps[4]?.getD undef = .pointer (some ⟨w2.heap.size, 0, none⟩) := slot_get q4
      have q10 : A.eval (.tmp 10) = aggI .u8 (numB ((valB xb 32 * valB yb 32) % pV)) := by rw [← hA]; exact putL_look rfl rfl rfl d5
      have r10 : A.tmps[10]?.getD undef = aggI .u8 (numB ((valB xb 32 * valB yb 32) % pV)) := slot_get q10
      clear hA
      refine Does.storeI rfl 22 _ _ rfl 32 info_a32 (w2.heap.size) q4 .u8 _ _ q10 hG.2.2.1 rfl (numB_length _) ?_
      intro A9
      exact ⟨⟨_, rfl⟩, ⟨hG.1.rowOther (by omega) _, hG.2.1.rowOther (by omega) _, A9, Below.setRow hG.2.2.2 (by omega) _⟩, rfl⟩
    exact trivial
  ·
    intro f W hG hH
    obtain ⟨d0, d1, d2, d3, d4, d5, d6, -⟩ : (f 0 = aggI .u8 xb) ∧ (f 1 = aggI .u64 xs) ∧ (f 2 = aggI .u8 yb) ∧ (f 3 = aggI .u64 ys) ∧ (f 4 = aggI .u64 zs) ∧ (f 5 = aggI .u8 (numB ((valB xb 32 * valB yb 32) % pV))) ∧ (f 6 = undef) ∧ True := hH
    rw [show List.range (List.length [[], [0], [], [2, 1], [1, 3, 3], [4, 4], [5, 5, 0, 1, 2, 3, 4, 5]]) = [0, 1, 2, 3, 4, 5, 6] from rfl]
    simp only [putL, List.getElem?_cons_zero, List.getElem?_cons_succ, Option.join, Option.bind_some, id_eq, Act.put, List.setIfInBounds_toArray, List.set_cons_zero, List.set_cons_succ, d0, d1, d2, d3, d4, d5]
    clear d0 d1 d2 d3 d4 d5 d6
    obtain ⟨-, -, A9, hbel⟩ := hG
    have A9 : Arr .u8 W (w2.heap.size) (numB ((valB xb 32 * valB yb 32) % pV)) := A9
    go_wp2
    refine bodyPost_ret (results_cellI rfl _ 32 5 und_a32 info_a32 (w2.heap.size) rfl .u8 _ A9 (numB_length _)) rfl ?_
    exact ⟨rfl, hbel⟩
theorem numB_valB {xb : List Int} (hb : Bytes xb) (hl : xb.length = 32) : numB (valB xb 32) = xb := by
  apply eq_of_all (by rw [numB_length, hl])
  intro j hj
  rw [numB_length] at hj
  rw [at0_numB _ j hj]
  have key : ∀ n, j < n → valB xb n / 2 ^ (8 * j) % 256 = at0 xb j := by
    intro n
    induction n with
    | zero => omega
    | succ n ih =>
      intro hn
      have hp := pow_pos2 (8 * j)
      by_cases e : j = n
      · have h1 := valB_lt xb hb n
        have h2 := hb.at n
        subst e
        simp only [valB]
        rw [Int.add_mul_ediv_right _ _ (by omega), Int.ediv_eq_zero_of_lt h1.1 h1.2, Int.zero_add, Int.emod_eq_of_lt h2.1 (by omega)]
      · rw [← ih (by omega)]
        simp only [valB]
        obtain ⟨d, hd⟩ : ∃ d, n = j + 1 + d := ⟨n - j - 1, by omega⟩
        have e2 : (2 : Int) ^ (8 * n) = 2 ^ (8 * j) * (256 * 2 ^ (8 * d)) := by
          rw [show (256 : Int) = 2 ^ 8 from rfl, ← Int.pow_add, ← Int.pow_add]; congr 1; omega
        rw [e2]
        generalize at0 xb n = x
        generalize (2 : Int) ^ (8 * d) = q
        generalize (2 : Int) ^ (8 * j) = p at *
        rw [show x * (p * (256 * q)) = (x * q * 256) * p by grind, Int.add_mul_ediv_right _ _ (by omega), Int.add_mul_emod_self_right]
  exact key 32 hj
set_option maxHeartbeats 2000000 in
theorem reduce_v (xb : List Int) (w : World) (hxb : Bytes xb) (hxl : xb.length = 32) :
    Calls Tryd.prog 15 #[aggI .u8 xb] w fun e w' => e = .returned (aggI .u8 (numB (valB xb 32 % pV))) ∧ Below w.heap.size w w' := by
  have LX := fun W => load_any xb W hxb hxl
  have hx := loadL_fel xb hxb
  generalize carriedS (loadL xb) = xs at *
  have BZ := fun W => bytes_v _ _ W hx
  go_enter Tryd.func15, Tryd.ntmps15
  go_wp2_with (first
    | (with_reducible refine at_op (o := ⟨some 1, _, _, _, _, _⟩) ?_; refine wpList_boxI rfl 22 _ rfl .u8 xb rfl ?_; intro w1 A1 s1 b1)
    | (with_reducible refine at_op (o := ⟨some 2, _, _, _, _, _⟩) ?_; refine wpList_allocI rfl 22 rfl .u8 32 zero_a32 ?_; intro w2 A2 s2 b2; have X2 := A1.below b2)
    | (with_reducible refine at_op (o := ⟨some 3, _, _, _, _, _⟩) ?_; refine wpList_loadI rfl 22 _ rfl 32 5 und_a32 info_a32 (w.heap.size) rfl .u8 (xb) (X2) (hxl) ?_)
    | (go_at_call 29; refine (LX _).mono ?_; rintro e w3 ⟨rfl, b3⟩; have R3 := A2.below b3)
    | (go_at_call 31; refine (BZ _).mono ?_; rintro e w4 ⟨rfl, b4⟩; have R4 := R3.below b4)
    | (with_reducible refine at_op (o := ⟨_, .store 22 _ _, _, _, _, _⟩) ?_; refine wpList_storeI rfl 22 _ _ rfl 32 info_a32 (w1.heap.size) rfl .u8 _ (numB (valB xb 32 % pV)) rfl (R4) (rfl) (numB_length _) ?_; intro A9))
  refine bodyPost_ret (results_cellI rfl _ 32 5 und_a32 info_a32 (w1.heap.size) rfl .u8 _ A9 (numB_length _)) rfl ?_
  exact ⟨rfl, Below.setRow (below_then (below_then (below_then b1 b2) b3) b4) (by omega) _⟩
theorem reduced_same {xb : List Int} (hb : Bytes xb) (hl : xb.length = 32) : decide (numB (valB xb 32 % pV) = xb) = decide (valB xb 32 < pV) := by
  have hv := valB_32 xb hb
  have hm := pV_mod (valB xb 32)
  have hp := pV_lt
  refine decide_eq_decide.2 ⟨fun h => ?_, fun h => ?_⟩
  · have h2 : valB xb 32 % pV = valB xb 32 := numB_inj ⟨hm.1, by omega⟩ hv (by rw [h, numB_valB hb hl])
    omega
  · rw [Int.emod_eq_of_lt hv.1 h, numB_valB hb hl]
set_option maxHeartbeats 2000000 in
theorem fright_v (xb : List Int) (w : World) (hxb : Bytes xb) (hxl : xb.length = 32) :
    Calls Tryd.prog 17 #[aggI .u8 xb] w fun e w' => e = .returned (.bool (decide (valB xb 32 < pV))) ∧ Below w.heap.size w w' := by
  have hd := reduced_same hxb hxl
  go_enter Tryd.func17, Tryd.ntmps17
  go_wp2_with (first
    | (with_reducible refine at_op (o := ⟨some 1, _, _, _, _, _⟩) ?_; refine wpList_boxI rfl 22 _ rfl .u8 xb rfl ?_; intro w1 A1 s1 b1))
  refine wp_region_ord [[], [0], [], [1, 2], [3, 1, 0, 1, 2, 3]] [some 3, some 4, some 5, some 6, some 2] 5 (fun b w' => Arr .u8 w' w.heap.size xb ∧ Below w.heap.size w w') (fun opn f _ => match opn with | 0 => f 0 = aggI .u8 xb | 1 => f 1 = aggI .u8 (numB (valB xb 32 % pV)) | 2 => f 2 = aggI .u8 xb | 3 => f 3 = .bool (decide (valB xb 32 < pV)) | 4 => f 4 = .bool (decide (valB xb 32 < pV)) | _ => True) (fun _ _ _ => True) (by kernel_rfl) (by kernel_rfl) (by kernel_rfl) (by kernel_rfl) (fun b v v' hb h => ⟨h.1.below hb, below_then h.2 hb⟩) (fun _ _ _ _ _ h => h) (fun _ _ _ _ _ _ _ h => h) ⟨A1.drew, b1.drew⟩ ?_ ?_
  ·
    refine StepL.other (k := 0) rfl (fun b f W hb hG hH => ?_) ?_
    · -- 0
      clear hH
      generalize hA : putL _ _ _ _ = A
      have q1 : A.eval (.tmp 1) = .pointer (some ⟨w.heap.size, 0, none⟩) := by rw [← hA]; exact putL_none rfl rfl rfl rfl
      have r1 : A.tmps[1]?.getD undef = .pointer (some ⟨w.heap.size, 0, none⟩) := slot_get q1
      clear hA
      exact Does.loadI rfl 22 _ rfl 32 5 und_a32 info_a32 (w.heap.size) q1 .u8 (xb) (hG.1) (hxl) ⟨Below.refl _ _, rfl⟩
    refine StepL.other (k := 1) rfl (fun b f W hb hG hH => ?_) ?_
    · -- 1
      obtain ⟨d0, -⟩ : (f 0 = aggI .u8 xb) ∧ True := hH
      generalize hA : putL _ _ _ _ = A
      have q3 : A.eval (.tmp 3) = aggI .u8 xb := by rw [← hA]; exact putL_look rfl rfl rfl d0
      have r3 : A.tmps[3]?.getD undef = aggI .u8 xb := slot_get q3
      clear hA
      refine Does.call rfl _ _ (by go_simp) ((reduce_v xb W hxb hxl).mono ?_)
      rintro e w' ⟨rfl, hb'⟩
      exact ⟨_, rfl, hb', rfl⟩
    refine StepL.other (k := 2) rfl (fun b f W hb hG hH => ?_) ?_
    · -- 2
      clear hH
      generalize hA : putL _ _ _ _ = A
      have q1 : A.eval (.tmp 1) = .pointer (some ⟨w.heap.size, 0, none⟩) := by rw [← hA]; exact putL_none rfl rfl rfl rfl
      have r1 : A.tmps[1]?.getD undef = .pointer (some ⟨w.heap.size, 0, none⟩) := slot_get q1
      clear hA
      exact Does.loadI rfl 22 _ rfl 32 5 und_a32 info_a32 (w.heap.size) q1 .u8 (xb) (hG.1) (hxl) ⟨Below.refl _ _, rfl⟩
    refine StepL.other (k := 3) rfl (fun b f W hb hG hH => ?_) ?_
    · -- 3
      obtain ⟨d1, d2, -⟩ : (f 1 = aggI .u8 (numB (valB xb 32 % pV))) ∧ (f 2 = aggI .u8 xb) ∧ True := hH
      generalize hA : putL _ _ _ _ = A
      have q4 : A.eval (.tmp 4) = aggI .u8 (numB (valB xb 32 % pV)) := by rw [← hA]; exact putL_look rfl rfl rfl d1
      have r4 : A.tmps[4]?.getD undef = aggI .u8 (numB (valB xb 32 % pV)) := slot_get q4
      have q5 : A.eval (.tmp 5) = aggI .u8 xb := by rw [← hA]; exact putL_look rfl rfl rfl d2
      have r5 : A.tmps[5]?.getD undef = aggI .u8 xb := slot_get q5
      clear hA
      exact Does.eqlI rfl 22 _ 5 _ _ rfl 32 und_a32 .u8 .u8 Tryd.underlying5 (by kernel_rfl) (by kernel_rfl) (numB (valB xb 32 % pV)) (xb) q4 q5 (numB_length _) (hxl) (decide (valB xb 32 < pV)) (hd) ⟨Below.refl _ _, rfl⟩
    refine StepL.other (k := 4) rfl (fun b f W hb hG hH => ?_) ?_
    · -- 4
      obtain ⟨d3, d1, d0, -, d2, -, -⟩ : (f 3 = .bool (decide (valB xb 32 < pV))) ∧ (f 1 = aggI .u8 (numB (valB xb 32 % pV))) ∧ (f 0 = aggI .u8 xb) ∧ (f 1 = aggI .u8 (numB (valB xb 32 % pV))) ∧ (f 2 = aggI .u8 xb) ∧ (f 3 = .bool (decide (valB xb 32 < pV))) ∧ True := hH
      generalize hA : putL _ _ _ _ = A
      have q6 : A.eval (.tmp 6) = .bool (decide (valB xb 32 < pV)) := by rw [← hA]; exact putL_look rfl rfl rfl d3
      have r6 : A.tmps[6]?.getD undef = .bool (decide (valB xb 32 < pV)) := slot_get q6
      clear hA
      refine Does.pure rfl (.bool (decide (valB xb 32 < pV))) ?_ ⟨Below.refl _ _, rfl⟩
      go_simp
    exact trivial
  ·
    intro f W hG hH
    obtain ⟨d0, d1, d2, d3, d4, -⟩ : (f 0 = aggI .u8 xb) ∧ (f 1 = aggI .u8 (numB (valB xb 32 % pV))) ∧ (f 2 = aggI .u8 xb) ∧ (f 3 = .bool (decide (valB xb 32 < pV))) ∧ (f 4 = .bool (decide (valB xb 32 < pV))) ∧ True := hH
    rw [show List.range (List.length [[], [0], [], [1, 2], [3, 1, 0, 1, 2, 3]]) = [0, 1, 2, 3, 4] from rfl]
    simp only [putL, List.getElem?_cons_zero, List.getElem?_cons_succ, Option.join, Option.bind_some, id_eq, Act.put, List.setIfInBounds_toArray, List.set_cons_zero, List.set_cons_succ, d0, d1, d2, d3, d4]
    clear d0 d1 d2 d3 d4
    go_wp2
    go_ret
    exact ⟨rfl, hG.2⟩
end Go.Proofs.YtlhloldjlfcchaaDoor
