/- The law on powers and inverses, walked. -/
import Derived.Test.YtlhloldjlfcchaaDoorFO
import Derived.Test.YtlhloldjlfcchaaDoorFV
namespace Go.Proofs.YtlhloldjlfcchaaDoor
open Go.RowKit Go.Shelf
set_option linter.unusedVariables false
set_option maxRecDepth 8000

theorem inv_same : (pV - 2).toNat = (valB (powN 235 127) 32).toNat := by decide +kernel
set_option maxHeartbeats 4000000 in
theorem law_powers (xb yb : List Int) (w : World) (hT : Tab w) (hxb : Bytes xb) (hxl : xb.length = 32) (hyb : Bytes yb) (hyl : yb.length = 32) :
    Calls Tryd.prog 5 #[aggI .u8 xb, aggI .u8 yb] w fun e w' => e = .returned (.bool true) ∧ Below w.heap.size w w' := by
  have HP1 := fun W => power_v xb yb W hxb hyb hxl hyl
  have HP2 := fun W => ref_power_v xb yb W hxb hyb hxl hyl
  have HI1 := fun W => inv_v xb W hxb hxl
  have HI2 := fun W => ref_inv_v xb W hxb hxl
  rw [inv_same] at HI2
  have hpl := numB_length ((valB xb 32 % pV) ^ (valB yb 32).toNat % pV)
  have hil := numB_length ((valB xb 32 % pV) ^ (valB (powN 235 127) 32).toNat % pV)
  generalize numB ((valB xb 32 % pV) ^ (valB yb 32).toNat % pV) = p at *
  generalize numB ((valB xb 32 % pV) ^ (valB (powN 235 127) 32).toNat % pV) = i at *
  go_enter Tryd.func5, Tryd.ntmps5
  go_wp2_with (first
    | (with_reducible refine at_op (o := ⟨some 2, _, _, _, _, _⟩) ?_; refine wpList_boxI rfl 22 _ rfl .u8 xb rfl ?_; intro w1 A1 s1 b1)
    | (with_reducible refine at_op (o := ⟨some 3, _, _, _, _, _⟩) ?_; refine wpList_boxI rfl 22 _ rfl .u8 yb rfl ?_; intro w2 A2 s2 b2; have X2 := A1.below b2))
  refine wp_region_ord [[], [0, 0], [1], [1], [2, 3, 1, 1], [1], [1], [5, 6, 4, 1], [4, 7, 1], [1, 8], [9, 7], [10], [11, 10, 10], [10], [13, 12, 10], [12, 14, 10], [10, 15], [16, 14, 0, 1, 2, 3, 4, 5, 6, 7, 8, 9, 10, 11, 12, 13, 14, 15, 16]] [some 5, some 6, some 7, some 8, some 9, some 10, some 11, some 12, some 13, some 14, some 15, some 16, some 17, some 18, some 19, some 20, some 21, some 4] 18 (fun b w' => Arr .u8 w' w.heap.size xb ∧ Arr .u8 w' w1.heap.size yb ∧ Below w.heap.size w w') (fun opn f _ => match opn with | 0 => f 0 = .bool true | 1 => f 1 = .bool true | 2 => f 2 = aggI .u8 xb | 3 => f 3 = aggI .u8 yb | 4 => f 4 = aggI .u8 p | 5 => f 5 = aggI .u8 xb | 6 => f 6 = aggI .u8 yb | 7 => f 7 = aggI .u8 p | 8 => f 8 = .bool true | 9 => f 9 = .bool true | 10 => f 10 = .bool true | 11 => f 11 = aggI .u8 xb | 12 => f 12 = aggI .u8 i | 13 => f 13 = aggI .u8 xb | 14 => f 14 = aggI .u8 i | 15 => f 15 = .bool true | 16 => f 16 = .bool true | 17 => f 17 = .bool true | _ => True) (fun _ _ _ => True) (by kernel_rfl) (by kernel_rfl) (by kernel_rfl) (by kernel_rfl) (fun b v v' hb h => ⟨h.1.below hb, h.2.1.below hb, below_then h.2.2 hb⟩) (fun _ _ _ _ _ h => h) (fun _ _ _ _ _ _ _ h => h) ⟨X2.drew, A2.drew, (below_then b1 b2).drew⟩ ?_ ?_
  ·
    refine StepL.other (k := 0) rfl (fun b f W hb hG hH => ?_) ?_
    · -- 0
      clear hH
      generalize hA : putL _ _ _ _ = A
      clear hA
      refine Does.call rfl _ _ (by go_simp) ((alive_v W (hT.below hG.2.2)).mono ?_)
      rintro e w' ⟨rfl, hb'⟩
      exact ⟨_, rfl, hb', rfl⟩
    refine StepL.other (k := 1) rfl (fun b f W hb hG hH => ?_) ?_
    · -- 1
      obtain ⟨d0, -, -⟩ : (f 0 = .bool true) ∧ (f 0 = .bool true) ∧ True := hH
      generalize hA : putL _ _ _ _ = A
      have q5 : A.eval (.tmp 5) = .bool true := by rw [← hA]; exact putL_look rfl rfl rfl d0
      have r5 : A.tmps[5]?.getD undef = .bool true := slot_get q5
      clear hA
      refine Does.pure rfl (.bool true) ?_ ⟨Below.refl _ _, rfl⟩
      go_simp
    refine StepL.other (k := 2) rfl (fun b f W hb hG hH => ?_) ?_
    · -- 2
      obtain ⟨d1, -⟩ : (f 1 = .bool true) ∧ True := hH
      generalize hA : putL _ _ _ _ = A
      have q2 : A.eval (.tmp 2) = .pointer (some ⟨w.heap.size, 0, none⟩) := by rw [← hA]; exact putL_none rfl rfl rfl rfl
      have r2 : A.tmps[2]?.getD undef = .pointer (some ⟨w.heap.size, 0, none⟩) := slot_get q2
      have q6 : A.eval (.tmp 6) = .bool true := by rw [← hA]; exact putL_look rfl rfl rfl d1
      have r6 : A.tmps[6]?.getD undef = .bool true := slot_get q6
      clear hA
      exact Does.loadI (wanted_of (b := true) rfl rfl q6) 22 _ rfl 32 5 und_a32 info_a32 (w.heap.size) q2 .u8 (xb) (hG.1) (hxl) ⟨Below.refl _ _, rfl⟩
    refine StepL.other (k := 3) rfl (fun b f W hb hG hH => ?_) ?_
    · -- 3
      obtain ⟨d1, -⟩ : (f 1 = .bool true) ∧ True := hH
      generalize hA : putL _ _ _ _ = A
      have q3 : A.eval (.tmp 3) = .pointer (some ⟨w1.heap.size, 0, none⟩) := by rw [← hA]; exact putL_none rfl rfl rfl rfl
      have r3 : A.tmps[3]?.getD undef = .pointer (some ⟨w1.heap.size, 0, none⟩) := slot_get q3
      have q6 : A.eval (.tmp 6) = .bool true := by rw [← hA]; exact putL_look rfl rfl rfl d1
      have r6 : A.tmps[6]?.getD undef = .bool true := slot_get q6
      clear hA
      exact Does.loadI (wanted_of (b := true) rfl rfl q6) 22 _ rfl 32 5 und_a32 info_a32 (w1.heap.size) q3 .u8 (yb) (hG.2.1) (hyl) ⟨Below.refl _ _, rfl⟩
    refine StepL.other (k := 4) rfl (fun b f W hb hG hH => ?_) ?_
    · -- 4
      obtain ⟨d2, d3, d1, -, -⟩ : (f 2 = aggI .u8 xb) ∧ (f 3 = aggI .u8 yb) ∧ (f 1 = .bool true) ∧ (f 1 = .bool true) ∧ True := hH
      generalize hA : putL _ _ _ _ = A
      have q7 : A.eval (.tmp 7) = aggI .u8 xb := by rw [← hA]; exact putL_look rfl rfl rfl d2
      have r7 : A.tmps[7]?.getD undef = aggI .u8 xb := slot_get q7
      have q8 : A.eval (.tmp 8) = aggI .u8 yb := by rw [← hA]; exact putL_look rfl rfl rfl d3
      have r8 : A.tmps[8]?.getD undef = aggI .u8 yb := slot_get q8
      have q6 : A.eval (.tmp 6) = .bool true := by rw [← hA]; exact putL_look rfl rfl rfl d1
      have r6 : A.tmps[6]?.getD undef = .bool true := slot_get q6
      clear hA
      refine Does.call (wanted_of (b := true) rfl rfl q6) _ _ (by go_simp) ((HP1 W).mono ?_)
      rintro e w' ⟨rfl, hb'⟩
      exact ⟨_, rfl, hb', rfl⟩
    refine StepL.other (k := 5) rfl (fun b f W hb hG hH => ?_) ?_
    · -- 5
      obtain ⟨d1, -⟩ : (f 1 = .bool true) ∧ True := hH
      generalize hA : putL _ _ _ _ = A
      have q2 : A.eval (.tmp 2) = .pointer (some ⟨w.heap.size, 0, none⟩) := by rw [← hA]; exact putL_none rfl rfl rfl rfl
      have r2 : A.tmps[2]?.getD undef = .pointer (some ⟨w.heap.size, 0, none⟩) := slot_get q2
      have q6 : A.eval (.tmp 6) = .bool true := by rw [← hA]; exact putL_look rfl rfl rfl d1
      have r6 : A.tmps[6]?.getD undef = .bool true := slot_get q6
      clear hA
      exact Does.loadI (wanted_of (b := true) rfl rfl q6) 22 _ rfl 32 5 und_a32 info_a32 (w.heap.size) q2 .u8 (xb) (hG.1) (hxl) ⟨Below.refl _ _, rfl⟩
    refine StepL.other (k := 6) rfl (fun b f W hb hG hH => ?_) ?_
    · -- 6
      obtain ⟨d1, -⟩ : (f 1 = .bool true) ∧ True := hH
      generalize hA : putL _ _ _ _ = A
      have q3 : A.eval (.tmp 3) = .pointer (some ⟨w1.heap.size, 0, none⟩) := by rw [← hA]; exact putL_none rfl rfl rfl rfl
      have r3 : A.tmps[3]?.getD undef = .pointer (some ⟨w1.heap.size, 0, none⟩) := slot_get q3
      have q6 : A.eval (.tmp 6) = .bool true := by rw [← hA]; exact putL_look rfl rfl rfl d1
      have r6 : A.tmps[6]?.getD undef = .bool true := slot_get q6
      clear hA
      exact Does.loadI (wanted_of (b := true) rfl rfl q6) 22 _ rfl 32 5 und_a32 info_a32 (w1.heap.size) q3 .u8 (yb) (hG.2.1) (hyl) ⟨Below.refl _ _, rfl⟩
    refine StepL.other (k := 7) rfl (fun b f W hb hG hH => ?_) ?_
    · -- 7
      obtain ⟨d5, d6, d4, d1, -⟩ : (f 5 = aggI .u8 xb) ∧ (f 6 = aggI .u8 yb) ∧ (f 4 = aggI .u8 p) ∧ (f 1 = .bool true) ∧ True := hH
      generalize hA : putL _ _ _ _ = A
      have q10 : A.eval (.tmp 10) = aggI .u8 xb := by rw [← hA]; exact putL_look rfl rfl rfl d5
      have r10 : A.tmps[10]?.getD undef = aggI .u8 xb := slot_get q10
      have q11 : A.eval (.tmp 11) = aggI .u8 yb := by rw [← hA]; exact putL_look rfl rfl rfl d6
      have r11 : A.tmps[11]?.getD undef = aggI .u8 yb := slot_get q11
      have q6 : A.eval (.tmp 6) = .bool true := by rw [← hA]; exact putL_look rfl rfl rfl d1
      have r6 : A.tmps[6]?.getD undef = .bool true := slot_get q6
      clear hA
      refine Does.call (wanted_of (b := true) rfl rfl q6) _ _ (by go_simp) ((HP2 W).mono ?_)
      rintro e w' ⟨rfl, hb'⟩
      exact ⟨_, rfl, hb', rfl⟩
    refine StepL.other (k := 8) rfl (fun b f W hb hG hH => ?_) ?_
    · -- 8
      obtain ⟨d4, d7, d1, -⟩ : (f 4 = aggI .u8 p) ∧ (f 7 = aggI .u8 p) ∧ (f 1 = .bool true) ∧ True := hH
      generalize hA : putL _ _ _ _ = A
      have q9 : A.eval (.tmp 9) = aggI .u8 p := by rw [← hA]; exact putL_look rfl rfl rfl d4
      have r9 : A.tmps[9]?.getD undef = aggI .u8 p := slot_get q9
      have q12 : A.eval (.tmp 12) = aggI .u8 p := by rw [← hA]; exact putL_look rfl rfl rfl d7
      have r12 : A.tmps[12]?.getD undef = aggI .u8 p := slot_get q12
      have q6 : A.eval (.tmp 6) = .bool true := by rw [← hA]; exact putL_look rfl rfl rfl d1
      have r6 : A.tmps[6]?.getD undef = .bool true := slot_get q6
      clear hA
      exact Does.eqlI (wanted_of (b := true) rfl rfl q6) 22 _ 5 _ _ rfl 32 und_a32 .u8 .u8 Tryd.underlying5 (by kernel_rfl) (by kernel_rfl) (p) (p) q9 q12 (hpl) (hpl) true (by simp) ⟨Below.refl _ _, rfl⟩
    refine StepL.other (k := 9) rfl (fun b f W hb hG hH => ?_) ?_
    · -- 9
      obtain ⟨d1, d8, -⟩ : (f 1 = .bool true) ∧ (f 8 = .bool true) ∧ True := hH
      generalize hA : putL _ _ _ _ = A
      have q6 : A.eval (.tmp 6) = .bool true := by rw [← hA]; exact putL_look rfl rfl rfl d1
      have r6 : A.tmps[6]?.getD undef = .bool true := slot_get q6
      have q13 : A.eval (.tmp 13) = .bool true := by rw [← hA]; exact putL_look rfl rfl rfl d8
      have r13 : A.tmps[13]?.getD undef = .bool true := slot_get q13
      clear hA
      refine Does.pure rfl (.bool true) ?_ ⟨Below.refl _ _, rfl⟩
      go_simp
    refine StepL.other (k := 10) rfl (fun b f W hb hG hH => ?_) ?_
    · -- 10
      obtain ⟨d9, d7, -⟩ : (f 9 = .bool true) ∧ (f 7 = aggI .u8 p) ∧ True := hH
      generalize hA : putL _ _ _ _ = A
      have q14 : A.eval (.tmp 14) = .bool true := by rw [← hA]; exact putL_look rfl rfl rfl d9
      have r14 : A.tmps[14]?.getD undef = .bool true := slot_get q14
      clear hA
      refine Does.pure rfl (.bool true) ?_ ⟨Below.refl _ _, rfl⟩
      go_simp
    refine StepL.other (k := 11) rfl (fun b f W hb hG hH => ?_) ?_
    · -- 11
      obtain ⟨d10, -⟩ : (f 10 = .bool true) ∧ True := hH
      generalize hA : putL _ _ _ _ = A
      have q2 : A.eval (.tmp 2) = .pointer (some ⟨w.heap.size, 0, none⟩) := by rw [← hA]; exact putL_none rfl rfl rfl rfl
      have r2 : A.tmps[2]?.getD undef = .pointer (some ⟨w.heap.size, 0, none⟩) := slot_get q2
      have q15 : A.eval (.tmp 15) = .bool true := by rw [← hA]; exact putL_look rfl rfl rfl d10
      have r15 : A.tmps[15]?.getD undef = .bool true := slot_get q15
      clear hA
      exact Does.loadI (wanted_of (b := true) rfl rfl q15) 22 _ rfl 32 5 und_a32 info_a32 (w.heap.size) q2 .u8 (xb) (hG.1) (hxl) ⟨Below.refl _ _, rfl⟩
    refine StepL.other (k := 12) rfl (fun b f W hb hG hH => ?_) ?_
    · -- 12
      obtain ⟨d11, d10, -, -⟩ : (f 11 = aggI .u8 xb) ∧ (f 10 = .bool true) ∧ (f 10 = .bool true) ∧ True := hH
      generalize hA : putL _ _ _ _ = A
      have q16 : A.eval (.tmp 16) = aggI .u8 xb := by rw [← hA]; exact putL_look rfl rfl rfl d11
      have r16 : A.tmps[16]?.getD undef = aggI .u8 xb := slot_get q16
      have q15 : A.eval (.tmp 15) = .bool true := by rw [← hA]; exact putL_look rfl rfl rfl d10
      have r15 : A.tmps[15]?.getD undef = .bool true := slot_get q15
      clear hA
      refine Does.call (wanted_of (b := true) rfl rfl q15) _ _ (by go_simp) ((HI1 W).mono ?_)
      rintro e w' ⟨rfl, hb'⟩
      exact ⟨_, rfl, hb', rfl⟩
    refine StepL.other (k := 13) rfl (fun b f W hb hG hH => ?_) ?_
    · -- 13
      obtain ⟨d10, -⟩ : (f 10 = .bool true) ∧ True := hH
      generalize hA : putL _ _ _ _ = A
      have q2 : A.eval (.tmp 2) = .pointer (some ⟨w.heap.size, 0, none⟩) := by rw [← hA]; exact putL_none rfl rfl rfl rfl
      have r2 : A.tmps[2]?.getD undef = .pointer (some ⟨w.heap.size, 0, none⟩) := slot_get q2
      have q15 : A.eval (.tmp 15) = .bool true := by rw [← hA]; exact putL_look rfl rfl rfl d10
      have r15 : A.tmps[15]?.getD undef = .bool true := slot_get q15
      clear hA
      exact Does.loadI (wanted_of (b := true) rfl rfl q15) 22 _ rfl 32 5 und_a32 info_a32 (w.heap.size) q2 .u8 (xb) (hG.1) (hxl) ⟨Below.refl _ _, rfl⟩
    refine StepL.other (k := 14) rfl (fun b f W hb hG hH => ?_) ?_
    · -- 14
      obtain ⟨d13, d12, d10, -⟩ : (f 13 = aggI .u8 xb) ∧ (f 12 = aggI .u8 i) ∧ (f 10 = .bool true) ∧ True := hH
      generalize hA : putL _ _ _ _ = A
      have q18 : A.eval (.tmp 18) = aggI .u8 xb := by rw [← hA]; exact putL_look rfl rfl rfl d13
      have r18 : A.tmps[18]?.getD undef = aggI .u8 xb := slot_get q18
      have q15 : A.eval (.tmp 15) = .bool true := by rw [← hA]; exact putL_look rfl rfl rfl d10
      have r15 : A.tmps[15]?.getD undef = .bool true := slot_get q15
      clear hA
      refine Does.call (wanted_of (b := true) rfl rfl q15) _ _ (by go_simp) ((HI2 W).mono ?_)
      rintro e w' ⟨rfl, hb'⟩
      exact ⟨_, rfl, hb', rfl⟩
    refine StepL.other (k := 15) rfl (fun b f W hb hG hH => ?_) ?_
    · -- 15
      obtain ⟨d12, d14, d10, -⟩ : (f 12 = aggI .u8 i) ∧ (f 14 = aggI .u8 i) ∧ (f 10 = .bool true) ∧ True := hH
      generalize hA : putL _ _ _ _ = A
      have q17 : A.eval (.tmp 17) = aggI .u8 i := by rw [← hA]; exact putL_look rfl rfl rfl d12
      have r17 : A.tmps[17]?.getD undef = aggI .u8 i := slot_get q17
      have q19 : A.eval (.tmp 19) = aggI .u8 i := by rw [← hA]; exact putL_look rfl rfl rfl d14
      have r19 : A.tmps[19]?.getD undef = aggI .u8 i := slot_get q19
      have q15 : A.eval (.tmp 15) = .bool true := by rw [← hA]; exact putL_look rfl rfl rfl d10
      have r15 : A.tmps[15]?.getD undef = .bool true := slot_get q15
      clear hA
      exact Does.eqlI (wanted_of (b := true) rfl rfl q15) 22 _ 5 _ _ rfl 32 und_a32 .u8 .u8 Tryd.underlying5 (by kernel_rfl) (by kernel_rfl) (i) (i) q17 q19 (hil) (hil) true (by simp) ⟨Below.refl _ _, rfl⟩
    refine StepL.other (k := 16) rfl (fun b f W hb hG hH => ?_) ?_
    · -- 16
      obtain ⟨d10, d15, -⟩ : (f 10 = .bool true) ∧ (f 15 = .bool true) ∧ True := hH
      generalize hA : putL _ _ _ _ = A
      have q15 : A.eval (.tmp 15) = .bool true := by rw [← hA]; exact putL_look rfl rfl rfl d10
      have r15 : A.tmps[15]?.getD undef = .bool true := slot_get q15
      have q20 : A.eval (.tmp 20) = .bool true := by rw [← hA]; exact putL_look rfl rfl rfl d15
      have r20 : A.tmps[20]?.getD undef = .bool true := slot_get q20
      clear hA
      refine Does.pure rfl (.bool true) ?_ ⟨Below.refl _ _, rfl⟩
      go_simp
    refine StepL.other (k := 17) rfl (fun b f W hb hG hH => ?_) ?_
    · -- 17
      obtain ⟨d16, d14, d0, d1, d2, d3, d4, d5, d6, d7, d8, d9, d10, d11, d12, d13, -, d15, -, -⟩ : (f 16 = .bool true) ∧ (f 14 = aggI .u8 i) ∧ (f 0 = .bool true) ∧ (f 1 = .bool true) ∧ (f 2 = aggI .u8 xb) ∧ (f 3 = aggI .u8 yb) ∧ (f 4 = aggI .u8 p) ∧ (f 5 = aggI .u8 xb) ∧ (f 6 = aggI .u8 yb) ∧ (f 7 = aggI .u8 p) ∧ (f 8 = .bool true) ∧ (f 9 = .bool true) ∧ (f 10 = .bool true) ∧ (f 11 = aggI .u8 xb) ∧ (f 12 = aggI .u8 i) ∧ (f 13 = aggI .u8 xb) ∧ (f 14 = aggI .u8 i) ∧ (f 15 = .bool true) ∧ (f 16 = .bool true) ∧ True := hH
      generalize hA : putL _ _ _ _ = A
      have q21 : A.eval (.tmp 21) = .bool true := by rw [← hA]; exact putL_look rfl rfl rfl d16
      have r21 : A.tmps[21]?.getD undef = .bool true := slot_get q21
      clear hA
      refine Does.pure rfl (.bool true) ?_ ⟨Below.refl _ _, rfl⟩
      go_simp
    exact trivial
  ·
    intro f W hG hH
    obtain ⟨d0, d1, d2, d3, d4, d5, d6, d7, d8, d9, d10, d11, d12, d13, d14, d15, d16, d17, -⟩ : (f 0 = .bool true) ∧ (f 1 = .bool true) ∧ (f 2 = aggI .u8 xb) ∧ (f 3 = aggI .u8 yb) ∧ (f 4 = aggI .u8 p) ∧ (f 5 = aggI .u8 xb) ∧ (f 6 = aggI .u8 yb) ∧ (f 7 = aggI .u8 p) ∧ (f 8 = .bool true) ∧ (f 9 = .bool true) ∧ (f 10 = .bool true) ∧ (f 11 = aggI .u8 xb) ∧ (f 12 = aggI .u8 i) ∧ (f 13 = aggI .u8 xb) ∧ (f 14 = aggI .u8 i) ∧ (f 15 = .bool true) ∧ (f 16 = .bool true) ∧ (f 17 = .bool true) ∧ True := hH
    rw [show List.range (List.length [[], [0, 0], [1], [1], [2, 3, 1, 1], [1], [1], [5, 6, 4, 1], [4, 7, 1], [1, 8], [9, 7], [10], [11, 10, 10], [10], [13, 12, 10], [12, 14, 10], [10, 15], [16, 14, 0, 1, 2, 3, 4, 5, 6, 7, 8, 9, 10, 11, 12, 13, 14, 15, 16]]) = [0, 1, 2, 3, 4, 5, 6, 7, 8, 9, 10, 11, 12, 13, 14, 15, 16, 17] from rfl]
    simp only [putL, List.getElem?_cons_zero, List.getElem?_cons_succ, Option.join, Option.bind_some, id_eq, Act.put, List.setIfInBounds_toArray, List.set_cons_zero, List.set_cons_succ, d0, d1, d2, d3, d4, d5, d6, d7, d8, d9, d10, d11, d12, d13, d14, d15, d16, d17]
    clear d0 d1 d2 d3 d4 d5 d6 d7 d8 d9 d10 d11 d12 d13 d14 d15 d16 d17
    go_wp2
    go_ret
    exact ⟨rfl, hG.2.2⟩
end Go.Proofs.YtlhloldjlfcchaaDoor
