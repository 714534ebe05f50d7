/- The reference's inverses and powers. -/
import Derived.Test.YtlhloldjlfcchaaDoorFU
namespace Go.Proofs.YtlhloldjlfcchaaDoor
open Go.RowKit Go.Shelf
set_option linter.unusedVariables false
set_option maxRecDepth 8000

theorem numW_two : numW 4 2 = [2, 0, 0, 0] := by decide +kernel
theorem pV_two : 0 ≤ pV - 2 ∧ pV - 2 < 2 ^ 256 := by decide +kernel
set_option maxHeartbeats 2000000 in
theorem ref_invert_v (u : Int) (w : World) (hu : 0 ≤ u ∧ u < 2 ^ 256) :
    Calls Tryd.prog 43 #[aggI .u64 (numW 4 u)] w fun e w' => e = .returned (aggI .u64 (numW 4 (u ^ (pV - 2).toNat % pV))) ∧ Below w.heap.size w w' := by
  have MI := fun W => ref_minus_ge pV 2 W (by omega) (by decide +kernel) pV_lt.2
  have TA := fun W => ref_take_v u (pV - 2) W hu pV_two
  rw [numW_two] at MI
  have hl := numW_length 4 (u ^ (pV - 2).toNat % pV)
  have hl2 := numW_length 4 (pV - 2)
  generalize numW 4 (u ^ (pV - 2).toNat % pV) = rr at *
  generalize numW 4 (pV - 2) = pp at *
  go_enter Tryd.func43, Tryd.ntmps43
  go_wp2_with (first
    | (with_reducible refine at_op (o := ⟨some 1, _, _, _, _, _⟩) ?_; refine wpList_boxI rfl 35 _ rfl .u64 (numW 4 u) rfl ?_; intro w1 A1 s1 b1)
    | (with_reducible refine at_op (o := ⟨some 2, _, _, _, _, _⟩) ?_; refine wpList_allocI rfl 35 rfl .u64 4 zero_num ?_; intro w2 A2 s2 b2; have X2 := A1.below b2)
    | (go_at_call 28; refine (ref_P_v _).mono ?_; rintro e w3 ⟨rfl, b3⟩; have X3 := X2.below b3; have R3 := A2.below b3)
    | (with_reducible refine at_op (o := ⟨some 7, _, _, _, _, _⟩) ?_; refine wpList_buildI rfl 35 _ rfl .u64 [2, 0, 0, 0] _ (built_num1 _) rfl ?_)
    | (go_at_call 49; refine (MI _).mono ?_; rintro e w4 ⟨rfl, b4⟩; have X4 := X3.below b4; have R4 := R3.below b4; have B4 := below_then (below_then (below_then b1 b2) b3) b4)
    | (with_reducible refine at_op (o := ⟨some 3, _, _, _, _, _⟩) ?_; refine wpList_allocI rfl 35 rfl .u64 4 zero_num ?_; intro w5 A5 s5 b5; have X5 := X4.below b5; have R5 := R4.below b5; have B5 := below_then B4 b5; have k1 := X4.lt; have k2 := R4.lt; have k3 := B4.size)
    | (with_reducible refine at_op (o := ⟨_, .store 35 (.tmp 3) _, _, _, _, _⟩) ?_; refine wpList_storeI rfl 35 _ _ rfl 4 info_num (w4.heap.size) rfl .u64 _ (pp) rfl (A5) (rfl) (hl2) ?_; intro D6; have X6 := X5.rowOther (B' := w4.heap.size) (by omega) (pp.map (Value.int .u64)).toArray; have R6 := R5.rowOther (B' := w4.heap.size) (by omega) (pp.map (Value.int .u64)).toArray; have B6 := Below.setRow B5 (g := w4.heap.size) (by omega) (pp.map (Value.int .u64)).toArray)
    | (with_reducible refine at_op (o := ⟨some 11, _, _, _, _, _⟩) ?_; refine wpList_loadI rfl 35 _ rfl 4 33 und_num info_num (w.heap.size) rfl .u64 (numW 4 u) (X6) (numW_length _ _) ?_)
    | (with_reducible refine at_op (o := ⟨some 12, _, _, _, _, _⟩) ?_; refine wpList_loadI rfl 35 _ rfl 4 33 und_num info_num (w4.heap.size) rfl .u64 (pp) (D6) (hl2) ?_)
    | (go_at_call 41; refine (TA _).mono ?_; rintro e w7 ⟨rfl, b7⟩; have R7 := R6.below b7; have B7 := below_then B6 b7)
    | (with_reducible refine at_op (o := ⟨_, .store 35 (.tmp 2) _, _, _, _, _⟩) ?_; refine wpList_storeI rfl 35 _ _ rfl 4 info_num (w1.heap.size) rfl .u64 _ (rr) rfl (R7) (rfl) (hl) ?_; intro A9))
  refine bodyPost_ret (results_cellI rfl _ 4 33 und_num info_num (w1.heap.size) rfl .u64 _ A9 hl) rfl ?_
  exact ⟨rfl, Below.setRow B7 (by omega) _⟩
set_option maxHeartbeats 2000000 in
theorem ref_inv_v (xb : List Int) (w : World) (hxb : Bytes xb) (hxl : xb.length = 32) :
    Calls Tryd.prog 24 #[aggI .u8 xb] w fun e w' => e = .returned (aggI .u8 (numB ((valB xb 32 % pV) ^ (pV - 2).toNat % pV))) ∧ Below w.heap.size w w' := by
  have LX := fun W => ref_load_v xb W hxb hxl
  have hx := valB_32 xb hxb
  generalize valB xb 32 = u at *
  have hm := pV_mod u
  have hp := pV_lt
  have IV := fun W => ref_invert_v (u % pV) W (by omega)
  generalize (u % pV) ^ (pV - 2).toNat % pV = v at *
  clear hm hp
  go_enter Tryd.func24, Tryd.ntmps24
  go_wp2_with (first
    | (with_reducible refine at_op (o := ⟨some 1, _, _, _, _, _⟩) ?_; refine wpList_boxI rfl 22 _ rfl .u8 xb rfl ?_; intro w1 A1 s1 b1)
    | (with_reducible refine at_op (o := ⟨some 2, _, _, _, _, _⟩) ?_; refine wpList_allocI rfl 22 rfl .u8 32 zero_a32 ?_; intro w2 A2 s2 b2; have X2 := A1.below b2)
    | (with_reducible refine at_op (o := ⟨some 3, _, _, _, _, _⟩) ?_; refine wpList_loadI rfl 22 _ rfl 32 5 und_a32 info_a32 (w.heap.size) rfl .u8 (xb) (X2) (hxl) ?_)
    | (go_at_call 34; refine (LX _).mono ?_; rintro e w3 ⟨rfl, b3⟩; have R3 := A2.below b3)
    | (go_at_call 33; refine (ref_cut_v u _ hx).mono ?_; rintro e w4 ⟨rfl, b4⟩; have R4 := R3.below b4)
    | (go_at_call 43; refine (IV _).mono ?_; rintro e w6 ⟨rfl, b6⟩; have R6 := R4.below b6)
    | (go_at_call 27; refine (ref_bytes_v _ _).mono ?_; rintro e w5 ⟨rfl, b5⟩; have R5 := R6.below b5)
    | (with_reducible refine at_op (o := ⟨_, .store 22 _ _, _, _, _, _⟩) ?_; refine wpList_storeI rfl 22 _ _ rfl 32 info_a32 (w1.heap.size) rfl .u8 _ (numB v) rfl (R5) (rfl) (numB_length _) ?_; intro A9))
  refine bodyPost_ret (results_cellI rfl _ 32 5 und_a32 info_a32 (w1.heap.size) rfl .u8 _ A9 (numB_length _)) rfl ?_
  exact ⟨rfl, Below.setRow (below_then (below_then (below_then (below_then (below_then b1 b2) b3) b4) b6) b5) (by omega) _⟩
set_option maxHeartbeats 2000000 in
theorem ref_power_v (xb yb : List Int) (w : World) (hxb : Bytes xb) (hyb : Bytes yb) (hxl : xb.length = 32) (hyl : yb.length = 32) :
    Calls Tryd.prog 22 #[aggI .u8 xb, aggI .u8 yb] w fun e w' => e = .returned (aggI .u8 (numB ((valB xb 32 % pV) ^ (valB yb 32).toNat % pV))) ∧ Below w.heap.size w w' := by
  have LX := fun W => ref_load_v xb W hxb hxl
  have LY := fun W => ref_load_v yb W hyb hyl
  have hx := valB_32 xb hxb
  have hy := valB_32 yb hyb
  generalize valB xb 32 = u at *
  generalize valB yb 32 = v at *
  have hm := pV_mod u
  have hp := pV_lt
  have OP := fun W => ref_take_v (u % pV) v W (by omega) hy
  generalize (u % pV) ^ v.toNat % pV = z at *
  clear hm hp
  go_enter Tryd.func22, Tryd.ntmps22
  go_wp2_with (first
    | (with_reducible refine at_op (o := ⟨some 2, _, _, _, _, _⟩) ?_; refine wpList_boxI rfl 22 _ rfl .u8 xb rfl ?_; intro w1 A1 s1 b1)
    | (with_reducible refine at_op (o := ⟨some 3, _, _, _, _, _⟩) ?_; refine wpList_boxI rfl 22 _ rfl .u8 yb rfl ?_; intro w2 A2 s2 b2; have X2 := A1.below b2)
    | (with_reducible refine at_op (o := ⟨some 4, _, _, _, _, _⟩) ?_; refine wpList_allocI rfl 22 rfl .u8 32 zero_a32 ?_; intro w3 A3 s3 b3; have X3 := X2.below b3; have Y3 := A2.below b3))
  refine wp_region_ord [[], [0], [1, 1], [], [3, 2], [2, 4, 4], [5, 5], [6, 6, 0, 1, 2, 3, 4, 5, 6]] [some 5, some 6, some 7, some 8, some 9, some 10, some 11, none] 7 (fun b w' => Arr .u8 w' w.heap.size xb ∧ Arr .u8 w' w1.heap.size yb ∧ Arr .u8 w' w2.heap.size (if b then numB (z) else List.replicate 32 0) ∧ Below w.heap.size w w') (fun opn f _ => match opn with | 0 => f 0 = aggI .u8 xb | 1 => f 1 = aggI .u64 (numW 4 u) | 2 => f 2 = aggI .u64 (numW 4 (u % pV)) | 3 => f 3 = aggI .u8 yb | 4 => f 4 = aggI .u64 (numW 4 v) | 5 => f 5 = aggI .u64 (numW 4 z) | 6 => f 6 = aggI .u8 (numB z) | 7 => f 7 = undef | _ => True) (fun _ v v' => ∃ cs, v' = v.setRow (w2.heap.size) cs) (by kernel_rfl) (by kernel_rfl) (by kernel_rfl) (by kernel_rfl) (fun b v v' hb h => ⟨h.1.below hb, h.2.1.below hb, h.2.2.1.below hb, below_then h.2.2.2 hb⟩) (fun _ _ _ _ _ h => h) (fun _ _ _ _ _ _ _ h => h) ⟨X3.drew, Y3.drew, A3.drew, (below_then (below_then b1 b2) b3).drew⟩ ?_ ?_
  ·
    refine StepL.other (k := 0) rfl (fun b f W hb hG hH => ?_) ?_
    · -- 0
      obtain rfl := hb rfl
      clear hH
      generalize hA : putL _ _ _ _ = A
      have q2 : A.eval (.tmp 2) = .pointer (some ⟨w.heap.size, 0, none⟩) := by rw [← hA]; exact putL_none rfl rfl rfl rfl
      have r2 : A.tmps[2]?.getD undef = .pointer (some ⟨w.heap.size, 0, none⟩) := slot_get q2
      clear hA
      exact Does.loadI rfl 22 _ rfl 32 5 und_a32 info_a32 (w.heap.size) q2 .u8 (xb) (hG.1) (hxl) ⟨Below.refl _ _, rfl⟩
    refine StepL.other (k := 1) rfl (fun b f W hb hG hH => ?_) ?_
    · -- 1
      obtain rfl := hb rfl
      obtain ⟨d0, -⟩ : (f 0 = aggI .u8 xb) ∧ True := hH
      generalize hA : putL _ _ _ _ = A
      have q5 : A.eval (.tmp 5) = aggI .u8 xb := by rw [← hA]; exact putL_look rfl rfl rfl d0
      have r5 : A.tmps[5]?.getD undef = aggI .u8 xb := slot_get q5
      clear hA
      refine Does.call rfl _ _ (by go_simp) ((LX W).mono ?_)
      rintro e w' ⟨rfl, hb'⟩
      exact ⟨_, rfl, hb', rfl⟩
    refine StepL.other (k := 2) rfl (fun b f W hb hG hH => ?_) ?_
    · -- 2
      obtain rfl := hb rfl
      obtain ⟨d1, -, -⟩ : (f 1 = aggI .u64 (numW 4 u)) ∧ (f 1 = aggI .u64 (numW 4 u)) ∧ True := hH
      generalize hA : putL _ _ _ _ = A
      have q6 : A.eval (.tmp 6) = aggI .u64 (numW 4 u) := by rw [← hA]; exact putL_look rfl rfl rfl d1
      have r6 : A.tmps[6]?.getD undef = aggI .u64 (numW 4 u) := slot_get q6
      clear hA
      refine Does.call rfl _ _ (by go_simp) ((ref_cut_v u W hx).mono ?_)
      rintro e w' ⟨rfl, hb'⟩
      exact ⟨_, rfl, hb', rfl⟩
    refine StepL.other (k := 3) rfl (fun b f W hb hG hH => ?_) ?_
    · -- 3
      obtain rfl := hb rfl
      clear hH
      generalize hA : putL _ _ _ _ = A
      have q3 : A.eval (.tmp 3) = .pointer (some ⟨w1.heap.size, 0, none⟩) := by rw [← hA]; exact putL_none rfl rfl rfl rfl
      have r3 : A.tmps[3]?.getD undef = .pointer (some ⟨w1.heap.size, 0, none⟩) := slot_get q3
      clear hA
      exact Does.loadI rfl 22 _ rfl 32 5 und_a32 info_a32 (w1.heap.size) q3 .u8 (yb) (hG.2.1) (hyl) ⟨Below.refl _ _, rfl⟩
    refine StepL.other (k := 4) rfl (fun b f W hb hG hH => ?_) ?_
    · -- 4
      obtain rfl := hb rfl
      obtain ⟨d3, d2, -⟩ : (f 3 = aggI .u8 yb) ∧ (f 2 = aggI .u64 (numW 4 (u % pV))) ∧ True := hH
      generalize hA : putL _ _ _ _ = A
      have q8 : A.eval (.tmp 8) = aggI .u8 yb := by rw [← hA]; exact putL_look rfl rfl rfl d3
      have r8 : A.tmps[8]?.getD undef = aggI .u8 yb := slot_get q8
      clear hA
      refine Does.call rfl _ _ (by go_simp) ((LY W).mono ?_)
      rintro e w' ⟨rfl, hb'⟩
      exact ⟨_, rfl, hb', rfl⟩
    refine StepL.other (k := 5) rfl (fun b f W hb hG hH => ?_) ?_
    · -- 5
      obtain rfl := hb rfl
      obtain ⟨d2, d4, -, -⟩ : (f 2 = aggI .u64 (numW 4 (u % pV))) ∧ (f 4 = aggI .u64 (numW 4 v)) ∧ (f 4 = aggI .u64 (numW 4 v)) ∧ True := hH
      generalize hA : putL _ _ _ _ = A
      have q7 : A.eval (.tmp 7) = aggI .u64 (numW 4 (u % pV)) := by rw [← hA]; exact putL_look rfl rfl rfl d2
      have r7 : A.tmps[7]?.getD undef = aggI .u64 (numW 4 (u % pV)) := slot_get q7
      have q9 : A.eval (.tmp 9) = aggI .u64 (numW 4 v) := by rw [← hA]; exact putL_look rfl rfl rfl d4
      have r9 : A.tmps[9]?.getD undef = aggI .u64 (numW 4 v) := slot_get q9
      clear hA
      refine Does.call rfl _ _ (by go_simp) ((OP W).mono ?_)
      rintro e w' ⟨rfl, hb'⟩
      exact ⟨_, rfl, hb', rfl⟩
    refine StepL.other (k := 6) rfl (fun b f W hb hG hH => ?_) ?_
    · -- 6
      obtain rfl := hb rfl
      obtain ⟨d5, -, -⟩ : (f 5 = aggI .u64 (numW 4 z)) ∧ (f 5 = aggI .u64 (numW 4 z)) ∧ True := hH
      generalize hA : putL _ _ _ _ = A
      have q10 : A.eval (.tmp 10) = aggI .u64 (numW 4 z) := by rw [← hA]; exact putL_look rfl rfl rfl d5
      have r10 : A.tmps[10]?.getD undef = aggI .u64 (numW 4 z) := slot_get q10
      clear hA
      refine Does.call rfl _ _ (by go_simp) ((ref_bytes_v z W).mono ?_)
      rintro e w' ⟨rfl, hb'⟩
      exact ⟨_, rfl, hb', rfl⟩
    refine StepL.self (k := 7) rfl (fun f W hG hH => ?_) ?_
    · -- 7
      obtain ⟨d6, -, d0, d1, d2, d3, d4, d5, -, -⟩ : (f 6 = aggI .u8 (numB z)) ∧ (f 6 = aggI .u8 (numB z)) ∧ (f 0 = aggI .u8 xb) ∧ (f 1 = aggI .u64 (numW 4 u)) ∧ (f 2 = aggI .u64 (numW 4 (u % pV))) ∧ (f 3 = aggI .u8 yb) ∧ (f 4 = aggI .u64 (numW 4 v)) ∧ (f 5 = aggI .u64 (numW 4 z)) ∧ (f 6 = aggI .u8 (numB z)) ∧ True := hH
      generalize hA : putL _ _ _ _ = A
      have q4 : A.eval (.tmp 4) = .pointer (some ⟨w2.heap.size, 0, none⟩) := by rw [← hA]; exact putL_none rfl rfl rfl rfl
      have r4 : A.tmps[4]?.getD undef = .pointer (some ⟨w2.heap.size, 0, none⟩) := slot_get q4
      have q11 : A.eval (.tmp 11) = aggI .u8 (numB z) := by rw [← hA]; exact putL_look rfl rfl rfl d6
      have r11 : A.tmps[11]?.getD undef = aggI .u8 (numB z) := slot_get q11
      clear hA
      refine Does.storeI rfl 22 _ _ rfl 32 info_a32 (w2.heap.size) q4 .u8 _ _ q11 hG.2.2.1 rfl (numB_length _) ?_
      intro A9
      exact ⟨⟨_, rfl⟩, ⟨hG.1.rowOther (by omega) _, hG.2.1.rowOther (by omega) _, A9, Below.setRow hG.2.2.2 (by omega) _⟩, rfl⟩
    exact trivial
  ·
    intro f W hG hH
    obtain ⟨d0, d1, d2, d3, d4, d5, d6, d7, -⟩ : (f 0 = aggI .u8 xb) ∧ (f 1 = aggI .u64 (numW 4 u)) ∧ (f 2 = aggI .u64 (numW 4 (u % pV))) ∧ (f 3 = aggI .u8 yb) ∧ (f 4 = aggI .u64 (numW 4 v)) ∧ (f 5 = aggI .u64 (numW 4 z)) ∧ (f 6 = aggI .u8 (numB z)) ∧ (f 7 = undef) ∧ True := hH
    rw [show List.range (List.length [[], [0], [1, 1], [], [3, 2], [2, 4, 4], [5, 5], [6, 6, 0, 1, 2, 3, 4, 5, 6]]) = [0, 1, 2, 3, 4, 5, 6, 7] from rfl]
    simp only [putL, List.getElem?_cons_zero, List.getElem?_cons_succ, Option.join, Option.bind_some, id_eq, Act.put, List.setIfInBounds_toArray, List.set_cons_zero, List.set_cons_succ, d0, d1, d2, d3, d4, d5, d6]
    clear d0 d1 d2 d3 d4 d5 d6 d7
    obtain ⟨-, -, A9, hbel⟩ := hG
    have A9 : Arr .u8 W (w2.heap.size) (numB (z)) := A9
    go_wp2
    refine bodyPost_ret (results_cellI rfl _ 32 5 und_a32 info_a32 (w2.heap.size) rfl .u8 _ A9 (numB_length _)) rfl ?_
    exact ⟨rfl, hbel⟩
end Go.Proofs.YtlhloldjlfcchaaDoor
