/- The law of a ring, walked. -/
import Derived.Test.YteocdjgdljfpdaaAlive9
namespace Go.Proofs.Yteocdjgdljfpdaa
open Go.RowKit Go.Shelf
set_option linter.unusedVariables false
set_option maxRecDepth 8000

theorem numB_right (v : Int) : ltL (numB (v % ordV)) = true := by
  have h := ordV_mod v
  unfold ltL
  rw [load_eq _ (numB_bytes _) 4, show 8 * 4 = 32 from rfl, valB_numB _ h.1 (by have := ordV_lt; omega), ordL_eq, numW_val h.1 (by have := ordV_lt; omega), numW_val ordV_lt.1 ordV_lt.2]
  simpa using h.2
theorem one_val : valB (unit32 1) 32 = 1 := by decide +kernel
theorem one_bytes : Bytes (unit32 1) := by unfold Bytes; decide +kernel

set_option maxHeartbeats 4000000 in
theorem law_laws (xb yb cb : List Int) (w : World) (hxb : Bytes xb) (hxl : xb.length = 32) (hyb : Bytes yb) (hyl : yb.length = 32) (hcb : Bytes cb) (hcl : cb.length = 32) :
    Calls Try.prog 5 #[aggI .u8 xb, aggI .u8 yb, aggI .u8 cb] w fun e w' => e = .returned (.bool true) ∧ Below w.heap.size w w' := by
  have hO := ordV_lt
  have HS1 : ∀ W, Calls Try.prog 16 #[aggI .u8 xb, aggI .u8 (unit32 1), aggI .u8 yb] W fun e w' => e = .returned (aggI .u8 (numB ((valB yb 32 + valB xb 32) % ordV))) ∧ Below W.heap.size W w' := by
    intro W
    have h := muladd_v xb (unit32 1) yb W hxb one_bytes hyb hxl rfl hyl
    rw [one_val, Int.mul_one] at h
    exact h
  have HS2 : ∀ W, Calls Try.prog 16 #[aggI .u8 yb, aggI .u8 (unit32 1), aggI .u8 xb] W fun e w' => e = .returned (aggI .u8 (numB ((valB yb 32 + valB xb 32) % ordV))) ∧ Below W.heap.size W w' := by
    intro W
    have h := muladd_v yb (unit32 1) xb W hyb one_bytes hxb hyl rfl hxl
    rw [one_val, Int.mul_one, Int.add_comm] at h
    exact h
  have HC : ∀ W, Calls Try.prog 16 #[aggI .u8 yb, aggI .u8 xb, aggI .u8 cb] W fun e w' => e = .returned (aggI .u8 (numB ((valB cb 32 + valB xb 32 * valB yb 32) % ordV))) ∧ Below W.heap.size W w' := by
    intro W
    have h := muladd_v yb xb cb W hyb hxb hcb hyl hxl hcl
    rw [Int.mul_comm (valB yb 32)] at h
    exact h
  have HK : ∀ W, Calls Try.prog 16 #[aggI .u8 (numB ((valB yb 32 + valB xb 32) % ordV)), aggI .u8 (unit32 1), aggI .u8 (numB ((-valB yb 32) % ordV))] W fun e w' => e = .returned (aggI .u8 (numB (valB xb 32 % ordV))) ∧ Below W.heap.size W w' := by
    intro W
    have h := muladd_v (numB ((valB yb 32 + valB xb 32) % ordV)) (unit32 1) (numB ((-valB yb 32) % ordV)) W (numB_bytes _) one_bytes (numB_bytes _) (numB_length _) rfl (numB_length _)
    have h1 := ordV_mod (valB yb 32 + valB xb 32)
    have h2 := ordV_mod (-valB yb 32)
    rw [one_val, Int.mul_one, valB_numB _ h1.1 (by omega), valB_numB _ h2.1 (by omega)] at h
    rw [show (((-valB yb 32) % ordV) + ((valB yb 32 + valB xb 32) % ordV)) % ordV = (valB xb 32 % ordV) by unfold ordV; omega] at h
    exact h
  have HW : ∀ W, Calls Try.prog 8 #[aggI .u8 (wideS xb)] W fun e w' => e = .returned (aggI .u8 (numB (valB xb 32 % ordV))) ∧ Below W.heap.size W w' := by
    intro W
    have h := reduce_v (wideS xb) W (wideS_bytes hxb) (wideS_length _)
    rw [valB_wide _ hxl] at h
    exact h
  have HT1 : ∀ W, Calls Try.prog 10 #[aggI .u8 (numB ((valB yb 32 + valB xb 32) % ordV))] W fun e w' => e = .returned (.bool true) ∧ Below W.heap.size W w' := by
    intro W
    have h := right_any (numB ((valB yb 32 + valB xb 32) % ordV)) W (numB_bytes _) (numB_length _)
    rw [numB_right] at h
    exact h
  have HT2 : ∀ W, Calls Try.prog 10 #[aggI .u8 (numB (valB xb 32 % ordV))] W fun e w' => e = .returned (.bool true) ∧ Below W.heap.size W w' := by
    intro W
    have h := right_any (numB (valB xb 32 % ordV)) W (numB_bytes _) (numB_length _)
    rw [numB_right] at h
    exact h
  clear hO
  go_enter Try.func5, Try.ntmps5
  go_wp2_with (first
    | (with_reducible refine at_op (o := ⟨some 3, _, _, _, _, _⟩) ?_; refine wpList_boxI rfl 23 _ rfl .u8 xb rfl ?_; intro w1 A1 s1 b1)
    | (with_reducible refine at_op (o := ⟨some 4, _, _, _, _, _⟩) ?_; refine wpList_boxI rfl 23 _ rfl .u8 yb rfl ?_; intro w2 A2 s2 b2; have X2 := A1.below b2)
    | (with_reducible refine at_op (o := ⟨some 5, _, _, _, _, _⟩) ?_; refine wpList_boxI rfl 23 _ rfl .u8 cb rfl ?_; intro w3 A3 s3 b3; have X3 := X2.below b3; have Y3 := A2.below b3)
    | (go_at_call 7; refine (alive_v _).mono ?_; rintro e w4 ⟨rfl, b4⟩; have X4 := X3.below b4; have Y4 := Y3.below b4; have C4 := A3.below b4)
    | (with_reducible refine at_op (o := ⟨some 12, _, _, _, _, _⟩) ?_; go_loud (refine wpList_val (fun R hR => Does.buildI rfl 23 _ rfl .u8 (unit32 1) _ (built_unit 1) rfl hR) ?_))
    | (with_reducible refine at_op (o := ⟨some 7, _, _, _, _, _⟩) ?_; refine wpList_allocI rfl 23 rfl .u8 32 zero_a32 ?_; intro w5 A5 s5 b5; have X5 := X4.below b5; have Y5 := Y4.below b5; have C5 := C4.below b5)
    | (with_reducible refine at_op (o := ⟨_, .store 23 (.tmp 7) _, _, _, _, _⟩) ?_; refine wpList_storeI rfl 23 _ _ rfl 32 info_a32 (w4.heap.size) rfl .u8 _ (unit32 1) rfl (A5) (rfl) (rfl) ?_; intro E6; have hs4 := b4.size; have X6 := X5.rowOther (B' := w4.heap.size) (by omega) ((unit32 1).map (Value.int .u8)).toArray; have Y6 := Y5.rowOther (B' := w4.heap.size) (by omega) ((unit32 1).map (Value.int .u8)).toArray; have C6 := C5.rowOther (B' := w4.heap.size) (by omega) ((unit32 1).map (Value.int .u8)).toArray; have bel6 := Below.setRow (below_then (below_then (below_then (below_then b1 b2) b3) b4) b5) (g := w4.heap.size) (by omega) ((unit32 1).map (Value.int .u8)).toArray)
    | (with_reducible refine at_op (o := ⟨some 13, _, _, _, _, _⟩) ?_; refine wpList_loadI rfl 23 _ rfl 32 5 und_a32 info_a32 (w.heap.size) rfl .u8 (xb) (X6) (hxl) ?_)
    | (with_reducible refine at_op (o := ⟨some 14, _, _, _, _, _⟩) ?_; refine wpList_loadI rfl 23 _ rfl 32 5 und_a32 info_a32 (w4.heap.size) rfl .u8 (unit32 1) (E6) (rfl) ?_)
    | (with_reducible refine at_op (o := ⟨some 15, _, _, _, _, _⟩) ?_; refine wpList_loadI rfl 23 _ rfl 32 5 und_a32 info_a32 (w1.heap.size) rfl .u8 (yb) (Y6) (hyl) ?_)
    | (go_at_call 16; refine (HS1 _).mono ?_; rintro e w7 ⟨rfl, b7⟩; have X7 := X6.below b7; have Y7 := Y6.below b7; have C7 := C6.below b7; have E7 := E6.below b7; have bel7 := below_then bel6 b7)
    | (with_reducible refine at_op (o := ⟨some 8, _, _, _, _, _⟩) ?_; refine wpList_allocI rfl 23 rfl .u8 32 zero_a32 ?_; intro w8 A8 s8 b8; have X8 := X7.below b8; have Y8 := Y7.below b8; have C8 := C7.below b8; have E8 := E7.below b8; have bel8 := below_then bel7 b8)
    | (with_reducible refine at_op (o := ⟨_, .store 23 (.tmp 8) _, _, _, _, _⟩) ?_; refine wpList_storeI rfl 23 _ _ rfl 32 info_a32 (w7.heap.size) rfl .u8 _ (numB ((valB yb 32 + valB xb 32) % ordV)) rfl (A8) (rfl) (numB_length _) ?_; intro D))
  have hs7 : w5.heap.size ≤ w7.heap.size := by have := b7.size; rw [World.size_setRow] at this; exact this
  have hs4 := b4.size
  obtain ⟨q, hq⟩ : ∃ q, ((numB ((valB yb 32 + valB xb 32) % ordV)).map (Value.int .u8)).toArray = q := ⟨_, rfl⟩
  have XX := X8.rowOther (B' := w7.heap.size) (by omega) q
  have YY := Y8.rowOther (B' := w7.heap.size) (by omega) q
  have CC := C8.rowOther (B' := w7.heap.size) (by omega) q
  have EE := E8.rowOther (B' := w7.heap.size) (by omega) q
  have hbel := Below.setRow bel8 (g := w7.heap.size) (by omega) q
  rw [hq] at D
  obtain ⟨WB, hWB1, hWs⟩ : ∃ WB, w8.heap.size ≤ WB ∧ WB ≤ (w8.setRow (w7.heap.size) q).heap.size := ⟨w8.heap.size, Nat.le_refl _, by rw [World.size_setRow]; exact Nat.le_refl _⟩
  subst hq
  refine wp_region_ord [[], [], [], [2], [0, 1, 3, 3], [], [5, 4, 4, 0, 1, 2, 3, 4, 5]] [some 17, some 18, some 19, some 20, some 21, some 9, none] 6 (fun b w' => (Arr .u8 w' w.heap.size xb ∧ Arr .u8 w' w1.heap.size yb ∧ Arr .u8 w' w2.heap.size cb ∧ Arr .u8 w' (w4.heap.size) (unit32 1) ∧ Arr .u8 w' (w7.heap.size) (numB ((valB yb 32 + valB xb 32) % ordV))) ∧ WB ≤ w'.heap.size ∧ Below w.heap.size w w') (fun opn f wo => match opn with | 0 => f 0 = aggI .u8 (numB ((valB yb 32 + valB xb 32) % ordV)) | 1 => f 1 = aggI .u8 (unit32 1) | 2 => f 2 = aggI .u8 yb | 3 => f 3 = aggI .u8 (numB ((-valB yb 32) % ordV)) | 4 => f 4 = aggI .u8 (numB (valB xb 32 % ordV)) | 5 => ∃ B, f 5 = .pointer (some ⟨B, 0, none⟩) ∧ WB ≤ B ∧ ∃ zs : List Int, zs.length = 32 ∧ Arr .u8 wo B zs | 6 => ∃ B, f 5 = .pointer (some ⟨B, 0, none⟩) ∧ WB ≤ B ∧ Arr .u8 wo B (numB (valB xb 32 % ordV)) | _ => True) (fun f v v' => ∃ B, f 5 = .pointer (some ⟨B, 0, none⟩) ∧ WB ≤ B ∧ ∃ ys : List Int, ys.length = 32 ∧ v' = v.setRow B (ys.map (Value.int .u8)).toArray) (by kernel_rfl) (by kernel_rfl) (by kernel_rfl) (by kernel_rfl) (fun b v v' hb h => ⟨⟨h.1.1.below hb, h.1.2.1.below hb, h.1.2.2.1.below hb, h.1.2.2.2.1.below hb, h.1.2.2.2.2.below hb⟩, Nat.le_trans h.2.1 hb.size, below_then h.2.2 hb⟩) (fun opn f v v' hb h => by
    match opn, h with
    | 5, h => obtain ⟨B, h1, h2, zs, h3, h4⟩ := h; exact ⟨B, h1, h2, zs, h3, h4.below hb⟩
    | 6, h => obtain ⟨B, h1, h2, h3⟩ := h; exact ⟨B, h1, h2, h3.below hb⟩
    | 0, h => exact h
    | 1, h => exact h
    | 2, h => exact h
    | 3, h => exact h
    | 4, h => exact h
    | _ + 7, h => trivial)
    (fun opn f f' v v' hne hS h => by
    obtain ⟨B', -, hB', ys, hys, rfl⟩ := hS
    match opn, hne, h with
    | 5, _, h =>
      obtain ⟨B, h1, h2, zs, h3, h4⟩ := h
      by_cases e : B = B'
      · subst e; exact ⟨B, h1, h2, ys, hys, h4.setRow ys⟩
      · exact ⟨B, h1, h2, zs, h3, h4.rowOther e _⟩
    | 6, hne, _ => exact (hne rfl).elim
    | 0, _, h => exact h
    | 1, _, h => exact h
    | 2, _, h => exact h
    | 3, _, h => exact h
    | 4, _, h => exact h
    | _ + 7, _, h => trivial) ⟨⟨XX.drew, YY.drew, CC.drew, EE.drew, D.drew⟩, hWs, hbel.drew⟩ ?_ ?_
  ·
    refine StepL.other (k := 0) rfl (fun b f W hb hG hH => ?_) ?_
    · -- 0
      obtain rfl := hb rfl
      clear hH
      generalize hA : putL _ _ _ _ = A
      have q8 : A.eval (.tmp 8) = .pointer (some ⟨w7.heap.size, 0, none⟩) := by rw [← hA]; exact putL_none rfl rfl rfl rfl
      have r8 : A.tmps[8]?.getD undef = .pointer (some ⟨w7.heap.size, 0, none⟩) := slot_get q8
      clear hA
      exact Does.loadI rfl 23 _ rfl 32 5 und_a32 info_a32 (w7.heap.size) q8 .u8 (numB ((valB yb 32 + valB xb 32) % ordV)) (hG.1.2.2.2.2) (numB_length _) ⟨Below.refl _ _, rfl⟩
    refine StepL.other (k := 1) rfl (fun b f W hb hG hH => ?_) ?_
    · -- 1
      obtain rfl := hb rfl
      clear hH
      generalize hA : putL _ _ _ _ = A
      have q7 : A.eval (.tmp 7) = .pointer (some ⟨w4.heap.size, 0, none⟩) := by rw [← hA]; exact putL_none rfl rfl rfl rfl
      have r7 : A.tmps[7]?.getD undef = .pointer (some ⟨w4.heap.size, 0, none⟩) := slot_get q7
      clear hA
      exact Does.loadI rfl 23 _ rfl 32 5 und_a32 info_a32 (w4.heap.size) q7 .u8 (unit32 1) (hG.1.2.2.2.1) (rfl) ⟨Below.refl _ _, rfl⟩
    refine StepL.other (k := 2) rfl (fun b f W hb hG hH => ?_) ?_
    · -- 2
      obtain rfl := hb rfl
      clear hH
      generalize hA : putL _ _ _ _ = A
      have q4 : A.eval (.tmp 4) = .pointer (some ⟨w1.heap.size, 0, none⟩) := by rw [← hA]; exact putL_none rfl rfl rfl rfl
      have r4 : A.tmps[4]?.getD undef = .pointer (some ⟨w1.heap.size, 0, none⟩) := slot_get q4
      clear hA
      exact Does.loadI rfl 23 _ rfl 32 5 und_a32 info_a32 (w1.heap.size) q4 .u8 (yb) (hG.1.2.1) (hyl) ⟨Below.refl _ _, rfl⟩
    refine StepL.other (k := 3) rfl (fun b f W hb hG hH => ?_) ?_
    · -- 3
      obtain rfl := hb rfl
      obtain ⟨d2, -⟩ : (f 2 = aggI .u8 yb) ∧ True := hH
      generalize hA : putL _ _ _ _ = A
      have q19 : A.eval (.tmp 19) = aggI .u8 yb := by rw [← hA]; exact putL_look rfl rfl rfl d2
      have r19 : A.tmps[19]?.getD undef = aggI .u8 yb := slot_get q19
      clear hA
      refine Does.call rfl _ _ (by go_simp) ((neg_v yb W hyb hyl).mono ?_)
      rintro e w' ⟨rfl, hb'⟩
      exact ⟨_, rfl, hb', rfl⟩
    refine StepL.other (k := 4) rfl (fun b f W hb hG hH => ?_) ?_
    · -- 4
      obtain rfl := hb rfl
      obtain ⟨d0, d1, d3, -, -⟩ : (f 0 = aggI .u8 (numB ((valB yb 32 + valB xb 32) % ordV))) ∧ (f 1 = aggI .u8 (unit32 1)) ∧ (f 3 = aggI .u8 (numB ((-valB yb 32) % ordV))) ∧ (f 3 = aggI .u8 (numB ((-valB yb 32) % ordV))) ∧ True := hH
      generalize hA : putL _ _ _ _ = A
      have q17 : A.eval (.tmp 17) = aggI .u8 (numB ((valB yb 32 + valB xb 32) % ordV)) := by rw [← hA]; exact putL_look rfl rfl rfl d0
      have r17 : A.tmps[17]?.getD undef = aggI .u8 (numB ((valB yb 32 + valB xb 32) % ordV)) := slot_get q17
      have q18 : A.eval (.tmp 18) = aggI .u8 (unit32 1) := by rw [← hA]; exact putL_look rfl rfl rfl d1
      have r18 : A.tmps[18]?.getD undef = aggI .u8 (unit32 1) := slot_get q18
      have q20 : A.eval (.tmp 20) = aggI .u8 (numB ((-valB yb 32) % ordV)) := by rw [← hA]; exact putL_look rfl rfl rfl d3
      have r20 : A.tmps[20]?.getD undef = aggI .u8 (numB ((-valB yb 32) % ordV)) := slot_get q20
      clear hA
      refine Does.call rfl _ _ (by go_simp) ((HK W).mono ?_)
      rintro e w' ⟨rfl, hb'⟩
      exact ⟨_, rfl, hb', rfl⟩
    refine StepL.other (k := 5) rfl (fun b f W hb hG hH => ?_) ?_
    · -- 5
      obtain rfl := hb rfl
      clear hH
      generalize hA : putL _ _ _ _ = A
      clear hA
      refine Does.allocI rfl 23 rfl .u8 32 zero_a32 ?_
      intro W1 D1 s1 b1'
      exact ⟨b1', _, rfl, hG.2.1, _, by simp, D1⟩
    refine StepL.self (k := 6) rfl (fun f W hG hH => ?_) ?_
    · -- 6
      obtain ⟨d5, d4, -, d0, d1, d2, d3, -, -, -⟩ : (∃ B, f 5 = .pointer (some ⟨B, 0, none⟩) ∧ WB ≤ B ∧ ∃ zs : List Int, zs.length = 32 ∧ Arr .u8 W B zs) ∧ (f 4 = aggI .u8 (numB (valB xb 32 % ordV))) ∧ (f 4 = aggI .u8 (numB (valB xb 32 % ordV))) ∧ (f 0 = aggI .u8 (numB ((valB yb 32 + valB xb 32) % ordV))) ∧ (f 1 = aggI .u8 (unit32 1)) ∧ (f 2 = aggI .u8 yb) ∧ (f 3 = aggI .u8 (numB ((-valB yb 32) % ordV))) ∧ (f 4 = aggI .u8 (numB (valB xb 32 % ordV))) ∧ (∃ B, f 5 = .pointer (some ⟨B, 0, none⟩) ∧ WB ≤ B ∧ ∃ zs : List Int, zs.length = 32 ∧ Arr .u8 W B zs) ∧ True := hH
      generalize hA : putL _ _ _ _ = A
      have q9 : A.eval (.tmp 9) = f 5 := by rw [← hA]; exact putL_look rfl rfl rfl rfl
      have r9 : A.tmps[9]?.getD undef = f 5 := slot_get q9
      have q21 : A.eval (.tmp 21) = aggI .u8 (numB (valB xb 32 % ordV)) := by rw [← hA]; exact putL_look rfl rfl rfl d4
      have r21 : A.tmps[21]?.getD undef = aggI .u8 (numB (valB xb 32 % ordV)) := slot_get q21
      clear hA
      obtain ⟨B, hB, hWB, zs, hzl, hZ⟩ := d5
      rw [hB] at q9
      refine Does.storeI rfl 23 _ _ rfl 32 info_a32 B q9 .u8 zs _ q21 hZ hzl (numB_length _) ?_
      intro A9
      refine ⟨⟨B, hB, hWB, _, numB_length _, rfl⟩, ⟨⟨hG.1.1.rowOther (by omega) _, hG.1.2.1.rowOther (by omega) _, hG.1.2.2.1.rowOther (by omega) _, hG.1.2.2.2.1.rowOther (by omega) _, hG.1.2.2.2.2.rowOther (by omega) _⟩, ?_, Below.setRow hG.2.2 (by omega) _⟩, B, hB, hWB, A9⟩
      rw [World.size_setRow]
      exact hG.2.1
    exact trivial
  ·
    intro f W hG hH
    obtain ⟨d0, d1, d2, d3, d4, d5, d6, -⟩ : (f 0 = aggI .u8 (numB ((valB yb 32 + valB xb 32) % ordV))) ∧ (f 1 = aggI .u8 (unit32 1)) ∧ (f 2 = aggI .u8 yb) ∧ (f 3 = aggI .u8 (numB ((-valB yb 32) % ordV))) ∧ (f 4 = aggI .u8 (numB (valB xb 32 % ordV))) ∧ (∃ B, f 5 = .pointer (some ⟨B, 0, none⟩) ∧ WB ≤ B ∧ ∃ zs : List Int, zs.length = 32 ∧ Arr .u8 W B zs) ∧ (∃ B, f 5 = .pointer (some ⟨B, 0, none⟩) ∧ WB ≤ B ∧ Arr .u8 W B (numB (valB xb 32 % ordV))) ∧ True := hH
    rw [show List.range (List.length [[], [], [], [2], [0, 1, 3, 3], [], [5, 4, 4, 0, 1, 2, 3, 4, 5]]) = [0, 1, 2, 3, 4, 5, 6] from rfl]
    simp only [putL, List.getElem?_cons_zero, List.getElem?_cons_succ, Option.join, Option.bind_some, id_eq, Act.put, List.setIfInBounds_toArray, List.set_cons_zero, List.set_cons_succ, d0, d1, d2, d3, d4]
    clear d0 d1 d2 d3 d4
    obtain ⟨B, hB, hWB, D⟩ := d6
    clear d5
    simp only [hB]
    go_wp2
    refine wp_region_ord [[], [], [], [0, 1, 2], [], [], [], [4, 5, 6, 3], [3, 7], [8, 7], [9], [9], [9], [9], [11, 12, 13, 9, 9], [10, 14, 9], [9, 15], [16, 14], [17], [17], [19, 17, 17], [20, 20, 17], [18, 21, 17], [17, 22], [23, 21], [24], [25, 24, 24], [24, 26], [27, 26], [28], [29, 28, 28], [28, 30], [31, 30, 0, 1, 2, 3, 4, 5, 6, 7, 8, 9, 10, 11, 12, 13, 14, 15, 16, 17, 18, 19, 20, 21, 22, 23, 24, 25, 26, 27, 28, 29, 30, 31]] [some 22, some 23, some 24, some 25, some 26, some 27, some 28, some 29, some 30, some 31, some 32, some 33, some 34, some 35, some 36, some 37, some 38, some 39, some 40, some 41, some 42, some 43, some 44, some 45, some 46, some 47, some 48, some 49, some 50, some 51, some 52, some 53, some 6] 33 (fun b w' => (Arr .u8 w' w.heap.size xb ∧ Arr .u8 w' w1.heap.size yb ∧ Arr .u8 w' w2.heap.size cb ∧ Arr .u8 w' (w4.heap.size) (unit32 1) ∧ Arr .u8 w' (w7.heap.size) (numB ((valB yb 32 + valB xb 32) % ordV))) ∧ Arr .u8 w' B (numB (valB xb 32 % ordV)) ∧ Below w.heap.size w w') (fun opn f _ => match opn with | 0 => f 0 = aggI .u8 xb | 1 => f 1 = aggI .u8 yb | 2 => f 2 = aggI .u8 cb | 3 => f 3 = aggI .u8 (numB ((valB cb 32 + valB xb 32 * valB yb 32) % ordV)) | 4 => f 4 = aggI .u8 yb | 5 => f 5 = aggI .u8 xb | 6 => f 6 = aggI .u8 cb | 7 => f 7 = aggI .u8 (numB ((valB cb 32 + valB xb 32 * valB yb 32) % ordV)) | 8 => f 8 = .bool true | 9 => f 9 = .bool true | 10 => f 10 = aggI .u8 (numB ((valB yb 32 + valB xb 32) % ordV)) | 11 => f 11 = aggI .u8 yb | 12 => f 12 = aggI .u8 (unit32 1) | 13 => f 13 = aggI .u8 xb | 14 => f 14 = aggI .u8 (numB ((valB yb 32 + valB xb 32) % ordV)) | 15 => f 15 = .bool true | 16 => f 16 = .bool true | 17 => f 17 = .bool true | 18 => f 18 = aggI .u8 (numB (valB xb 32 % ordV)) | 19 => f 19 = aggI .u8 xb | 20 => f 20 = aggI .u8 (wideS xb) | 21 => f 21 = aggI .u8 (numB (valB xb 32 % ordV)) | 22 => f 22 = .bool true | 23 => f 23 = .bool true | 24 => f 24 = .bool true | 25 => f 25 = aggI .u8 (numB ((valB yb 32 + valB xb 32) % ordV)) | 26 => f 26 = .bool true | 27 => f 27 = .bool true | 28 => f 28 = .bool true | 29 => f 29 = aggI .u8 (numB (valB xb 32 % ordV)) | 30 => f 30 = .bool true | 31 => f 31 = .bool true | 32 => f 32 = .bool true | _ => True) (fun _ _ _ => True) (by kernel_rfl) (by kernel_rfl) (by kernel_rfl) (by kernel_rfl) (fun b v v' hb h => ⟨⟨h.1.1.below hb, h.1.2.1.below hb, h.1.2.2.1.below hb, h.1.2.2.2.1.below hb, h.1.2.2.2.2.below hb⟩, h.2.1.below hb, below_then h.2.2 hb⟩) (fun _ _ _ _ _ h => h) (fun _ _ _ _ _ _ _ h => h) ⟨⟨hG.1.1.drew, hG.1.2.1.drew, hG.1.2.2.1.drew, hG.1.2.2.2.1.drew, hG.1.2.2.2.2.drew⟩, D.drew, hG.2.2.drew⟩ ?_ ?_
    ·
      refine StepL.other (k := 0) rfl (fun b f W hb hG hH => ?_) ?_
      · -- 0
        clear hH
        generalize hA : putL _ _ _ _ = A
        have q3 : A.eval (.tmp 3) = .pointer (some ⟨w.heap.size, 0, none⟩) := by rw [← hA]; exact putL_none rfl rfl rfl rfl
        have r3 : A.tmps[3]?.getD undef = .pointer (some ⟨w.heap.size, 0, none⟩) := slot_get q3
        clear hA
        exact Does.loadI rfl 23 _ rfl 32 5 und_a32 info_a32 (w.heap.size) q3 .u8 (xb) (hG.1.1) (hxl) ⟨Below.refl _ _, rfl⟩
      refine StepL.other (k := 1) rfl (fun b f W hb hG hH => ?_) ?_
      · -- 1
        clear hH
        generalize hA : putL _ _ _ _ = A
        have q4 : A.eval (.tmp 4) = .pointer (some ⟨w1.heap.size, 0, none⟩) := by rw [← hA]; exact putL_none rfl rfl rfl rfl
        have r4 : A.tmps[4]?.getD undef = .pointer (some ⟨w1.heap.size, 0, none⟩) := slot_get q4
        clear hA
        exact Does.loadI rfl 23 _ rfl 32 5 und_a32 info_a32 (w1.heap.size) q4 .u8 (yb) (hG.1.2.1) (hyl) ⟨Below.refl _ _, rfl⟩
      refine StepL.other (k := 2) rfl (fun b f W hb hG hH => ?_) ?_
      · -- 2
        clear hH
        generalize hA : putL _ _ _ _ = A
        have q5 : A.eval (.tmp 5) = .pointer (some ⟨w2.heap.size, 0, none⟩) := by rw [← hA]; exact putL_none rfl rfl rfl rfl
        have r5 : A.tmps[5]?.getD undef = .pointer (some ⟨w2.heap.size, 0, none⟩) := slot_get q5
        clear hA
        exact Does.loadI rfl 23 _ rfl 32 5 und_a32 info_a32 (w2.heap.size) q5 .u8 (cb) (hG.1.2.2.1) (hcl) ⟨Below.refl _ _, rfl⟩
      refine StepL.other (k := 3) rfl (fun b f W hb hG hH => ?_) ?_
      · -- 3
        obtain ⟨d0, d1, d2, -⟩ : (f 0 = aggI .u8 xb) ∧ (f 1 = aggI .u8 yb) ∧ (f 2 = aggI .u8 cb) ∧ True := hH
        generalize hA : putL _ _ _ _ = A
        have q22 : A.eval (.tmp 22) = aggI .u8 xb := by rw [← hA]; exact putL_look rfl rfl rfl d0
        have r22 : A.tmps[22]?.getD undef = aggI .u8 xb := slot_get q22
        have q23 : A.eval (.tmp 23) = aggI .u8 yb := by rw [← hA]; exact putL_look rfl rfl rfl d1
        have r23 : A.tmps[23]?.getD undef = aggI .u8 yb := slot_get q23
        have q24 : A.eval (.tmp 24) = aggI .u8 cb := by rw [← hA]; exact putL_look rfl rfl rfl d2
        have r24 : A.tmps[24]?.getD undef = aggI .u8 cb := slot_get q24
        clear hA
        refine Does.call rfl _ _ (by go_simp) ((muladd_v xb yb cb W hxb hyb hcb hxl hyl hcl).mono ?_)
        rintro e w' ⟨rfl, hb'⟩
        exact ⟨_, rfl, hb', rfl⟩
      refine StepL.other (k := 4) rfl (fun b f W hb hG hH => ?_) ?_
      · -- 4
        clear hH
        generalize hA : putL _ _ _ _ = A
        have q4 : A.eval (.tmp 4) = .pointer (some ⟨w1.heap.size, 0, none⟩) := by rw [← hA]; exact putL_none rfl rfl rfl rfl
        have r4 : A.tmps[4]?.getD undef = .pointer (some ⟨w1.heap.size, 0, none⟩) := slot_get q4
        clear hA
        exact Does.loadI rfl 23 _ rfl 32 5 und_a32 info_a32 (w1.heap.size) q4 .u8 (yb) (hG.1.2.1) (hyl) ⟨Below.refl _ _, rfl⟩
      refine StepL.other (k := 5) rfl (fun b f W hb hG hH => ?_) ?_
      · -- 5
        clear hH
        generalize hA : putL _ _ _ _ = A
        have q3 : A.eval (.tmp 3) = .pointer (some ⟨w.heap.size, 0, none⟩) := by rw [← hA]; exact putL_none rfl rfl rfl rfl
        have r3 : A.tmps[3]?.getD undef = .pointer (some ⟨w.heap.size, 0, none⟩) := slot_get q3
        clear hA
        exact Does.loadI rfl 23 _ rfl 32 5 und_a32 info_a32 (w.heap.size) q3 .u8 (xb) (hG.1.1) (hxl) ⟨Below.refl _ _, rfl⟩
      refine StepL.other (k := 6) rfl (fun b f W hb hG hH => ?_) ?_
      · -- 6
        clear hH
        generalize hA : putL _ _ _ _ = A
        have q5 : A.eval (.tmp 5) = .pointer (some ⟨w2.heap.size, 0, none⟩) := by rw [← hA]; exact putL_none rfl rfl rfl rfl
        have r5 : A.tmps[5]?.getD undef = .pointer (some ⟨w2.heap.size, 0, none⟩) := slot_get q5
        clear hA
        exact Does.loadI rfl 23 _ rfl 32 5 und_a32 info_a32 (w2.heap.size) q5 .u8 (cb) (hG.1.2.2.1) (hcl) ⟨Below.refl _ _, rfl⟩
      refine StepL.other (k := 7) rfl (fun b f W hb hG hH => ?_) ?_
      · -- 7
        obtain ⟨d4, d5, d6, d3, -⟩ : (f 4 = aggI .u8 yb) ∧ (f 5 = aggI .u8 xb) ∧ (f 6 = aggI .u8 cb) ∧ (f 3 = aggI .u8 (numB ((valB cb 32 + valB xb 32 * valB yb 32) % ordV))) ∧ True := hH
        generalize hA : putL _ _ _ _ = A
        have q26 : A.eval (.tmp 26) = aggI .u8 yb := by rw [← hA]; exact putL_look rfl rfl rfl d4
        have r26 : A.tmps[26]?.getD undef = aggI .u8 yb := slot_get q26
        have q27 : A.eval (.tmp 27) = aggI .u8 xb := by rw [← hA]; exact putL_look rfl rfl rfl d5
        have r27 : A.tmps[27]?.getD undef = aggI .u8 xb := slot_get q27
        have q28 : A.eval (.tmp 28) = aggI .u8 cb := by rw [← hA]; exact putL_look rfl rfl rfl d6
        have r28 : A.tmps[28]?.getD undef = aggI .u8 cb := slot_get q28
        clear hA
        refine Does.call rfl _ _ (by go_simp) ((HC W).mono ?_)
        rintro e w' ⟨rfl, hb'⟩
        exact ⟨_, rfl, hb', rfl⟩
      refine StepL.other (k := 8) rfl (fun b f W hb hG hH => ?_) ?_
      · -- 8
        obtain ⟨d3, d7, -⟩ : (f 3 = aggI .u8 (numB ((valB cb 32 + valB xb 32 * valB yb 32) % ordV))) ∧ (f 7 = aggI .u8 (numB ((valB cb 32 + valB xb 32 * valB yb 32) % ordV))) ∧ True := hH
        generalize hA : putL _ _ _ _ = A
        have q25 : A.eval (.tmp 25) = aggI .u8 (numB ((valB cb 32 + valB xb 32 * valB yb 32) % ordV)) := by rw [← hA]; exact putL_look rfl rfl rfl d3
        have r25 : A.tmps[25]?.getD undef = aggI .u8 (numB ((valB cb 32 + valB xb 32 * valB yb 32) % ordV)) := slot_get q25
        have q29 : A.eval (.tmp 29) = aggI .u8 (numB ((valB cb 32 + valB xb 32 * valB yb 32) % ordV)) := by rw [← hA]; exact putL_look rfl rfl rfl d7
        have r29 : A.tmps[29]?.getD undef = aggI .u8 (numB ((valB cb 32 + valB xb 32 * valB yb 32) % ordV)) := slot_get q29
        clear hA
        exact Does.eqlI rfl 23 _ 5 _ _ rfl 32 und_a32 .u8 .u8 Try.underlying5 (by kernel_rfl) (by kernel_rfl) (numB ((valB cb 32 + valB xb 32 * valB yb 32) % ordV)) (numB ((valB cb 32 + valB xb 32 * valB yb 32) % ordV)) q25 q29 (numB_length _) (numB_length _) true (by simp) ⟨Below.refl _ _, rfl⟩
      refine StepL.other (k := 9) rfl (fun b f W hb hG hH => ?_) ?_
      · -- 9
        obtain ⟨d8, d7, -⟩ : (f 8 = .bool true) ∧ (f 7 = aggI .u8 (numB ((valB cb 32 + valB xb 32 * valB yb 32) % ordV))) ∧ True := hH
        generalize hA : putL _ _ _ _ = A
        have q30 : A.eval (.tmp 30) = .bool true := by rw [← hA]; exact putL_look rfl rfl rfl d8
        have r30 : A.tmps[30]?.getD undef = .bool true := slot_get q30
        clear hA
        refine Does.pure rfl (.bool true) ?_ ⟨Below.refl _ _, rfl⟩
        go_simp
      refine StepL.other (k := 10) rfl (fun b f W hb hG hH => ?_) ?_
      · -- 10
        obtain ⟨d9, -⟩ : (f 9 = .bool true) ∧ True := hH
        generalize hA : putL _ _ _ _ = A
        have q8 : A.eval (.tmp 8) = .pointer (some ⟨w7.heap.size, 0, none⟩) := by rw [← hA]; exact putL_none rfl rfl rfl rfl
        have r8 : A.tmps[8]?.getD undef = .pointer (some ⟨w7.heap.size, 0, none⟩) := slot_get q8
        have q31 : A.eval (.tmp 31) = .bool true := by rw [← hA]; exact putL_look rfl rfl rfl d9
        have r31 : A.tmps[31]?.getD undef = .bool true := slot_get q31
        clear hA
        exact Does.loadI (wanted_of (b := true) rfl rfl q31) 23 _ rfl 32 5 und_a32 info_a32 (w7.heap.size) q8 .u8 (numB ((valB yb 32 + valB xb 32) % ordV)) (hG.1.2.2.2.2) (numB_length _) ⟨Below.refl _ _, rfl⟩
      refine StepL.other (k := 11) rfl (fun b f W hb hG hH => ?_) ?_
      · -- 11
        obtain ⟨d9, -⟩ : (f 9 = .bool true) ∧ True := hH
        generalize hA : putL _ _ _ _ = A
        have q4 : A.eval (.tmp 4) = .pointer (some ⟨w1.heap.size, 0, none⟩) := by rw [← hA]; exact putL_none rfl rfl rfl rfl
        have r4 : A.tmps[4]?.getD undef = .pointer (some ⟨w1.heap.size, 0, none⟩) := slot_get q4
        have q31 : A.eval (.tmp 31) = .bool true := by rw [← hA]; exact putL_look rfl rfl rfl d9
        have r31 : A.tmps[31]?.getD undef = .bool true := slot_get q31
        clear hA
        exact Does.loadI (wanted_of (b := true) rfl rfl q31) 23 _ rfl 32 5 und_a32 info_a32 (w1.heap.size) q4 .u8 (yb) (hG.1.2.1) (hyl) ⟨Below.refl _ _, rfl⟩
      refine StepL.other (k := 12) rfl (fun b f W hb hG hH => ?_) ?_
      · -- 12
        obtain ⟨d9, -⟩ : (f 9 = .bool true) ∧ True := hH
        generalize hA : putL _ _ _ _ = A
        have q7 : A.eval (.tmp 7) = .pointer (some ⟨w4.heap.size, 0, none⟩) := by rw [← hA]; exact putL_none rfl rfl rfl rfl
        have r7 : A.tmps[7]?.getD undef = .pointer (some ⟨w4.heap.size, 0, none⟩) := slot_get q7
        have q31 : A.eval (.tmp 31) = .bool true := by rw [← hA]; exact putL_look rfl rfl rfl d9
        have r31 : A.tmps[31]?.getD undef = .bool true := slot_get q31
        clear hA
        exact Does.loadI (wanted_of (b := true) rfl rfl q31) 23 _ rfl 32 5 und_a32 info_a32 (w4.heap.size) q7 .u8 (unit32 1) (hG.1.2.2.2.1) (rfl) ⟨Below.refl _ _, rfl⟩
      refine StepL.other (k := 13) rfl (fun b f W hb hG hH => ?_) ?_
      · -- 13
        obtain ⟨d9, -⟩ : (f 9 = .bool true) ∧ True := hH
        generalize hA : putL _ _ _ _ = A
        have q3 : A.eval (.tmp 3) = .pointer (some ⟨w.heap.size, 0, none⟩) := by rw [← hA]; exact putL_none rfl rfl rfl rfl
        have r3 : A.tmps[3]?.getD undef = .pointer (some ⟨w.heap.size, 0, none⟩) := slot_get q3
        have q31 : A.eval (.tmp 31) = .bool true := by rw [← hA]; exact putL_look rfl rfl rfl d9
        have r31 : A.tmps[31]?.getD undef = .bool true := slot_get q31
        clear hA
        exact Does.loadI (wanted_of (b := true) rfl rfl q31) 23 _ rfl 32 5 und_a32 info_a32 (w.heap.size) q3 .u8 (xb) (hG.1.1) (hxl) ⟨Below.refl _ _, rfl⟩
      refine StepL.other (k := 14) rfl (fun b f W hb hG hH => ?_) ?_
      · -- 14
        obtain ⟨d11, d12, d13, d9, -, -⟩ : (f 11 = aggI .u8 yb) ∧ (f 12 = aggI .u8 (unit32 1)) ∧ (f 13 = aggI .u8 xb) ∧ (f 9 = .bool true) ∧ (f 9 = .bool true) ∧ True := hH
        generalize hA : putL _ _ _ _ = A
        have q33 : A.eval (.tmp 33) = aggI .u8 yb := by rw [← hA]; exact putL_look rfl rfl rfl d11
        have r33 : A.tmps[33]?.getD undef = aggI .u8 yb := slot_get q33
        have q34 : A.eval (.tmp 34) = aggI .u8 (unit32 1) := by rw [← hA]; exact putL_look rfl rfl rfl d12
        have r34 : A.tmps[34]?.getD undef = aggI .u8 (unit32 1) := slot_get q34
        have q35 : A.eval (.tmp 35) = aggI .u8 xb := by rw [← hA]; exact putL_look rfl rfl rfl d13
        have r35 : A.tmps[35]?.getD undef = aggI .u8 xb := slot_get q35
        have q31 : A.eval (.tmp 31) = .bool true := by rw [← hA]; exact putL_look rfl rfl rfl d9
        have r31 : A.tmps[31]?.getD undef = .bool true := slot_get q31
        clear hA
        refine Does.call (wanted_of (b := true) rfl rfl q31) _ _ (by go_simp) ((HS2 W).mono ?_)
        rintro e w' ⟨rfl, hb'⟩
        exact ⟨_, rfl, hb', rfl⟩
      refine StepL.other (k := 15) rfl (fun b f W hb hG hH => ?_) ?_
      · -- 15
        obtain ⟨d10, d14, d9, -⟩ : (f 10 = aggI .u8 (numB ((valB yb 32 + valB xb 32) % ordV))) ∧ (f 14 = aggI .u8 (numB ((valB yb 32 + valB xb 32) % ordV))) ∧ (f 9 = .bool true) ∧ True := hH
        generalize hA : putL _ _ _ _ = A
        have q32 : A.eval (.tmp 32) = aggI .u8 (numB ((valB yb 32 + valB xb 32) % ordV)) := by rw [← hA]; exact putL_look rfl rfl rfl d10
        have r32 : A.tmps[32]?.getD undef = aggI .u8 (numB ((valB yb 32 + valB xb 32) % ordV)) := slot_get q32
        have q36 : A.eval (.tmp 36) = aggI .u8 (numB ((valB yb 32 + valB xb 32) % ordV)) := by rw [← hA]; exact putL_look rfl rfl rfl d14
        have r36 : A.tmps[36]?.getD undef = aggI .u8 (numB ((valB yb 32 + valB xb 32) % ordV)) := slot_get q36
        have q31 : A.eval (.tmp 31) = .bool true := by rw [← hA]; exact putL_look rfl rfl rfl d9
        have r31 : A.tmps[31]?.getD undef = .bool true := slot_get q31
        clear hA
        exact Does.eqlI (wanted_of (b := true) rfl rfl q31) 23 _ 5 _ _ rfl 32 und_a32 .u8 .u8 Try.underlying5 (by kernel_rfl) (by kernel_rfl) (numB ((valB yb 32 + valB xb 32) % ordV)) (numB ((valB yb 32 + valB xb 32) % ordV)) q32 q36 (numB_length _) (numB_length _) true (by simp) ⟨Below.refl _ _, rfl⟩
      refine StepL.other (k := 16) rfl (fun b f W hb hG hH => ?_) ?_
      · -- 16
        obtain ⟨d9, d15, -⟩ : (f 9 = .bool true) ∧ (f 15 = .bool true) ∧ True := hH
        generalize hA : putL _ _ _ _ = A
        have q31 : A.eval (.tmp 31) = .bool true := by rw [← hA]; exact putL_look rfl rfl rfl d9
        have r31 : A.tmps[31]?.getD undef = .bool true := slot_get q31
        have q37 : A.eval (.tmp 37) = .bool true := by rw [← hA]; exact putL_look rfl rfl rfl d15
        have r37 : A.tmps[37]?.getD undef = .bool true := slot_get q37
        clear hA
        refine Does.pure rfl (.bool true) ?_ ⟨Below.refl _ _, rfl⟩
        go_simp
      refine StepL.other (k := 17) rfl (fun b f W hb hG hH => ?_) ?_
      · -- 17
        obtain ⟨d16, d14, -⟩ : (f 16 = .bool true) ∧ (f 14 = aggI .u8 (numB ((valB yb 32 + valB xb 32) % ordV))) ∧ True := hH
        generalize hA : putL _ _ _ _ = A
        have q38 : A.eval (.tmp 38) = .bool true := by rw [← hA]; exact putL_look rfl rfl rfl d16
        have r38 : A.tmps[38]?.getD undef = .bool true := slot_get q38
        clear hA
        refine Does.pure rfl (.bool true) ?_ ⟨Below.refl _ _, rfl⟩
        go_simp
      refine StepL.other (k := 18) rfl (fun b f W hb hG hH => ?_) ?_
      · -- 18
        obtain ⟨d17, -⟩ : (f 17 = .bool true) ∧ True := hH
        generalize hA : putL _ _ _ _ = A
        have q9 : A.eval (.tmp 9) = .pointer (some ⟨B, 0, none⟩) := by rw [← hA]; exact putL_none rfl rfl rfl rfl
        have r9 : A.tmps[9]?.getD undef = .pointer (some ⟨B, 0, none⟩) := slot_get q9
        have q39 : A.eval (.tmp 39) = .bool true := by rw [← hA]; exact putL_look rfl rfl rfl d17
        have r39 : A.tmps[39]?.getD undef = .bool true := slot_get q39
        clear hA
        exact Does.loadI (wanted_of (b := true) rfl rfl q39) 23 _ rfl 32 5 und_a32 info_a32 (B) q9 .u8 (numB (valB xb 32 % ordV)) (hG.2.1) (numB_length _) ⟨Below.refl _ _, rfl⟩
      refine StepL.other (k := 19) rfl (fun b f W hb hG hH => ?_) ?_
      · -- 19
        obtain ⟨d17, -⟩ : (f 17 = .bool true) ∧ True := hH
        generalize hA : putL _ _ _ _ = A
        have q3 : A.eval (.tmp 3) = .pointer (some ⟨w.heap.size, 0, none⟩) := by rw [← hA]; exact putL_none rfl rfl rfl rfl
        have r3 : A.tmps[3]?.getD undef = .pointer (some ⟨w.heap.size, 0, none⟩) := slot_get q3
        have q39 : A.eval (.tmp 39) = .bool true := by rw [← hA]; exact putL_look rfl rfl rfl d17
        have r39 : A.tmps[39]?.getD undef = .bool true := slot_get q39
        clear hA
        exact Does.loadI (wanted_of (b := true) rfl rfl q39) 23 _ rfl 32 5 und_a32 info_a32 (w.heap.size) q3 .u8 (xb) (hG.1.1) (hxl) ⟨Below.refl _ _, rfl⟩
      refine StepL.other (k := 20) rfl (fun b f W hb hG hH => ?_) ?_
      · -- 20
        obtain ⟨d19, d17, -, -⟩ : (f 19 = aggI .u8 xb) ∧ (f 17 = .bool true) ∧ (f 17 = .bool true) ∧ True := hH
        generalize hA : putL _ _ _ _ = A
        have q41 : A.eval (.tmp 41) = aggI .u8 xb := by rw [← hA]; exact putL_look rfl rfl rfl d19
        have r41 : A.tmps[41]?.getD undef = aggI .u8 xb := slot_get q41
        have q39 : A.eval (.tmp 39) = .bool true := by rw [← hA]; exact putL_look rfl rfl rfl d17
        have r39 : A.tmps[39]?.getD undef = .bool true := slot_get q39
        clear hA
        refine Does.call (wanted_of (b := true) rfl rfl q39) _ _ (by go_simp) ((wide_any xb W hxl).mono ?_)
        rintro e w' ⟨rfl, hb'⟩
        exact ⟨_, rfl, hb', rfl⟩
      refine StepL.other (k := 21) rfl (fun b f W hb hG hH => ?_) ?_
      · -- 21
        obtain ⟨d20, -, d17, -⟩ : (f 20 = aggI .u8 (wideS xb)) ∧ (f 20 = aggI .u8 (wideS xb)) ∧ (f 17 = .bool true) ∧ True := hH
        generalize hA : putL _ _ _ _ = A
        have q42 : A.eval (.tmp 42) = aggI .u8 (wideS xb) := by rw [← hA]; exact putL_look rfl rfl rfl d20
        have r42 : A.tmps[42]?.getD undef = aggI .u8 (wideS xb) := slot_get q42
        have q39 : A.eval (.tmp 39) = .bool true := by rw [← hA]; exact putL_look rfl rfl rfl d17
        have r39 : A.tmps[39]?.getD undef = .bool true := slot_get q39
        clear hA
        refine Does.call (wanted_of (b := true) rfl rfl q39) _ _ (by go_simp) ((HW W).mono ?_)
        rintro e w' ⟨rfl, hb'⟩
        exact ⟨_, rfl, hb', rfl⟩
      refine StepL.other (k := 22) rfl (fun b f W hb hG hH => ?_) ?_
      · -- 22
        obtain ⟨d18, d21, d17, -⟩ : (f 18 = aggI .u8 (numB (valB xb 32 % ordV))) ∧ (f 21 = aggI .u8 (numB (valB xb 32 % ordV))) ∧ (f 17 = .bool true) ∧ True := hH
        generalize hA : putL _ _ _ _ = A
        have q40 : A.eval (.tmp 40) = aggI .u8 (numB (valB xb 32 % ordV)) := by rw [← hA]; exact putL_look rfl rfl rfl d18
        have r40 : A.tmps[40]?.getD undef = aggI .u8 (numB (valB xb 32 % ordV)) := slot_get q40
        have q43 : A.eval (.tmp 43) = aggI .u8 (numB (valB xb 32 % ordV)) := by rw [← hA]; exact putL_look rfl rfl rfl d21
        have r43 : A.tmps[43]?.getD undef = aggI .u8 (numB (valB xb 32 % ordV)) := slot_get q43
        have q39 : A.eval (.tmp 39) = .bool true := by rw [← hA]; exact putL_look rfl rfl rfl d17
        have r39 : A.tmps[39]?.getD undef = .bool true := slot_get q39
        clear hA
        exact Does.eqlI (wanted_of (b := true) rfl rfl q39) 23 _ 5 _ _ rfl 32 und_a32 .u8 .u8 Try.underlying5 (by kernel_rfl) (by kernel_rfl) (numB (valB xb 32 % ordV)) (numB (valB xb 32 % ordV)) q40 q43 (numB_length _) (numB_length _) true (by simp) ⟨Below.refl _ _, rfl⟩
      refine StepL.other (k := 23) rfl (fun b f W hb hG hH => ?_) ?_
      · -- 23
        obtain ⟨d17, d22, -⟩ : (f 17 = .bool true) ∧ (f 22 = .bool true) ∧ True := hH
        generalize hA : putL _ _ _ _ = A
        have q39 : A.eval (.tmp 39) = .bool true := by rw [← hA]; exact putL_look rfl rfl rfl d17
        have r39 : A.tmps[39]?.getD undef = .bool true := slot_get q39
        have q44 : A.eval (.tmp 44) = .bool true := by rw [← hA]; exact putL_look rfl rfl rfl d22
        have r44 : A.tmps[44]?.getD undef = .bool true := slot_get q44
        clear hA
        refine Does.pure rfl (.bool true) ?_ ⟨Below.refl _ _, rfl⟩
        go_simp
      refine StepL.other (k := 24) rfl (fun b f W hb hG hH => ?_) ?_
      · -- 24
        obtain ⟨d23, d21, -⟩ : (f 23 = .bool true) ∧ (f 21 = aggI .u8 (numB (valB xb 32 % ordV))) ∧ True := hH
        generalize hA : putL _ _ _ _ = A
        have q45 : A.eval (.tmp 45) = .bool true := by rw [← hA]; exact putL_look rfl rfl rfl d23
        have r45 : A.tmps[45]?.getD undef = .bool true := slot_get q45
        clear hA
        refine Does.pure rfl (.bool true) ?_ ⟨Below.refl _ _, rfl⟩
        go_simp
      refine StepL.other (k := 25) rfl (fun b f W hb hG hH => ?_) ?_
      · -- 25
        obtain ⟨d24, -⟩ : (f 24 = .bool true) ∧ True := hH
        generalize hA : putL _ _ _ _ = A
        have q8 : A.eval (.tmp 8) = .pointer (some ⟨w7.heap.size, 0, none⟩) := by rw [← hA]; exact putL_none rfl rfl rfl rfl
        have r8 : A.tmps[8]?.getD undef = .pointer (some ⟨w7.heap.size, 0, none⟩) := slot_get q8
        have q46 : A.eval (.tmp 46) = .bool true := by rw [← hA]; exact putL_look rfl rfl rfl d24
        have r46 : A.tmps[46]?.getD undef = .bool true := slot_get q46
        clear hA
        exact Does.loadI (wanted_of (b := true) rfl rfl q46) 23 _ rfl 32 5 und_a32 info_a32 (w7.heap.size) q8 .u8 (numB ((valB yb 32 + valB xb 32) % ordV)) (hG.1.2.2.2.2) (numB_length _) ⟨Below.refl _ _, rfl⟩
      refine StepL.other (k := 26) rfl (fun b f W hb hG hH => ?_) ?_
      · -- 26
        obtain ⟨d25, d24, -, -⟩ : (f 25 = aggI .u8 (numB ((valB yb 32 + valB xb 32) % ordV))) ∧ (f 24 = .bool true) ∧ (f 24 = .bool true) ∧ True := hH
        generalize hA : putL _ _ _ _ = A
        have q47 : A.eval (.tmp 47) = aggI .u8 (numB ((valB yb 32 + valB xb 32) % ordV)) := by rw [← hA]; exact putL_look rfl rfl rfl d25
        have r47 : A.tmps[47]?.getD undef = aggI .u8 (numB ((valB yb 32 + valB xb 32) % ordV)) := slot_get q47
        have q46 : A.eval (.tmp 46) = .bool true := by rw [← hA]; exact putL_look rfl rfl rfl d24
        have r46 : A.tmps[46]?.getD undef = .bool true := slot_get q46
        clear hA
        refine Does.call (wanted_of (b := true) rfl rfl q46) _ _ (by go_simp) ((HT1 W).mono ?_)
        rintro e w' ⟨rfl, hb'⟩
        exact ⟨_, rfl, hb', rfl⟩
      refine StepL.other (k := 27) rfl (fun b f W hb hG hH => ?_) ?_
      · -- 27
        obtain ⟨d24, d26, -⟩ : (f 24 = .bool true) ∧ (f 26 = .bool true) ∧ True := hH
        generalize hA : putL _ _ _ _ = A
        have q46 : A.eval (.tmp 46) = .bool true := by rw [← hA]; exact putL_look rfl rfl rfl d24
        have r46 : A.tmps[46]?.getD undef = .bool true := slot_get q46
        have q48 : A.eval (.tmp 48) = .bool true := by rw [← hA]; exact putL_look rfl rfl rfl d26
        have r48 : A.tmps[48]?.getD undef = .bool true := slot_get q48
        clear hA
        refine Does.pure rfl (.bool true) ?_ ⟨Below.refl _ _, rfl⟩
        go_simp
      refine StepL.other (k := 28) rfl (fun b f W hb hG hH => ?_) ?_
      · -- 28
        obtain ⟨d27, d26, -⟩ : (f 27 = .bool true) ∧ (f 26 = .bool true) ∧ True := hH
        generalize hA : putL _ _ _ _ = A
        have q49 : A.eval (.tmp 49) = .bool true := by rw [← hA]; exact putL_look rfl rfl rfl d27
        have r49 : A.tmps[49]?.getD undef = .bool true := slot_get q49
        clear hA
        refine Does.pure rfl (.bool true) ?_ ⟨Below.refl _ _, rfl⟩
        go_simp
      refine StepL.other (k := 29) rfl (fun b f W hb hG hH => ?_) ?_
      · -- 29
        obtain ⟨d28, -⟩ : (f 28 = .bool true) ∧ True := hH
        generalize hA : putL _ _ _ _ = A
        have q9 : A.eval (.tmp 9) = .pointer (some ⟨B, 0, none⟩) := by rw [← hA]; exact putL_none rfl rfl rfl rfl
        have r9 : A.tmps[9]?.getD undef = .pointer (some ⟨B, 0, none⟩) := slot_get q9
        have q50 : A.eval (.tmp 50) = .bool true := by rw [← hA]; exact putL_look rfl rfl rfl d28
        have r50 : A.tmps[50]?.getD undef = .bool true := slot_get q50
        clear hA
        exact Does.loadI (wanted_of (b := true) rfl rfl q50) 23 _ rfl 32 5 und_a32 info_a32 (B) q9 .u8 (numB (valB xb 32 % ordV)) (hG.2.1) (numB_length _) ⟨Below.refl _ _, rfl⟩
      refine StepL.other (k := 30) rfl (fun b f W hb hG hH => ?_) ?_
      · -- 30
        obtain ⟨d29, d28, -, -⟩ : (f 29 = aggI .u8 (numB (valB xb 32 % ordV))) ∧ (f 28 = .bool true) ∧ (f 28 = .bool true) ∧ True := hH
        generalize hA : putL _ _ _ _ = A
        have q51 : A.eval (.tmp 51) = aggI .u8 (numB (valB xb 32 % ordV)) := by rw [← hA]; exact putL_look rfl rfl rfl d29
        have r51 : A.tmps[51]?.getD undef = aggI .u8 (numB (valB xb 32 % ordV)) := slot_get q51
        have q50 : A.eval (.tmp 50) = .bool true := by rw [← hA]; exact putL_look rfl rfl rfl d28
        have r50 : A.tmps[50]?.getD undef = .bool true := slot_get q50
        clear hA
        refine Does.call (wanted_of (b := true) rfl rfl q50) _ _ (by go_simp) ((HT2 W).mono ?_)
        rintro e w' ⟨rfl, hb'⟩
        exact ⟨_, rfl, hb', rfl⟩
      refine StepL.other (k := 31) rfl (fun b f W hb hG hH => ?_) ?_
      · -- 31
        obtain ⟨d28, d30, -⟩ : (f 28 = .bool true) ∧ (f 30 = .bool true) ∧ True := hH
        generalize hA : putL _ _ _ _ = A
        have q50 : A.eval (.tmp 50) = .bool true := by rw [← hA]; exact putL_look rfl rfl rfl d28
        have r50 : A.tmps[50]?.getD undef = .bool true := slot_get q50
        have q52 : A.eval (.tmp 52) = .bool true := by rw [← hA]; exact putL_look rfl rfl rfl d30
        have r52 : A.tmps[52]?.getD undef = .bool true := slot_get q52
        clear hA
        refine Does.pure rfl (.bool true) ?_ ⟨Below.refl _ _, rfl⟩
        go_simp
      refine StepL.other (k := 32) rfl (fun b f W hb hG hH => ?_) ?_
      · -- 32
        obtain ⟨d31, d30, d0, d1, d2, d3, d4, d5, d6, d7, d8, d9, d10, d11, d12, d13, d14, d15, d16, d17, d18, d19, d20, d21, d22, d23, d24, d25, d26, d27, d28, d29, -, -, -⟩ : (f 31 = .bool true) ∧ (f 30 = .bool true) ∧ (f 0 = aggI .u8 xb) ∧ (f 1 = aggI .u8 yb) ∧ (f 2 = aggI .u8 cb) ∧ (f 3 = aggI .u8 (numB ((valB cb 32 + valB xb 32 * valB yb 32) % ordV))) ∧ (f 4 = aggI .u8 yb) ∧ (f 5 = aggI .u8 xb) ∧ (f 6 = aggI .u8 cb) ∧ (f 7 = aggI .u8 (numB ((valB cb 32 + valB xb 32 * valB yb 32) % ordV))) ∧ (f 8 = .bool true) ∧ (f 9 = .bool true) ∧ (f 10 = aggI .u8 (numB ((valB yb 32 + valB xb 32) % ordV))) ∧ (f 11 = aggI .u8 yb) ∧ (f 12 = aggI .u8 (unit32 1)) ∧ (f 13 = aggI .u8 xb) ∧ (f 14 = aggI .u8 (numB ((valB yb 32 + valB xb 32) % ordV))) ∧ (f 15 = .bool true) ∧ (f 16 = .bool true) ∧ (f 17 = .bool true) ∧ (f 18 = aggI .u8 (numB (valB xb 32 % ordV))) ∧ (f 19 = aggI .u8 xb) ∧ (f 20 = aggI .u8 (wideS xb)) ∧ (f 21 = aggI .u8 (numB (valB xb 32 % ordV))) ∧ (f 22 = .bool true) ∧ (f 23 = .bool true) ∧ (f 24 = .bool true) ∧ (f 25 = aggI .u8 (numB ((valB yb 32 + valB xb 32) % ordV))) ∧ (f 26 = .bool true) ∧ (f 27 = .bool true) ∧ (f 28 = .bool true) ∧ (f 29 = aggI .u8 (numB (valB xb 32 % ordV))) ∧ (f 30 = .bool true) ∧ (f 31 = .bool true) ∧ True := hH
        generalize hA : putL _ _ _ _ = A
        have q53 : A.eval (.tmp 53) = .bool true := by rw [← hA]; exact putL_look rfl rfl rfl d31
        have r53 : A.tmps[53]?.getD undef = .bool true := slot_get q53
        clear hA
        refine Does.pure rfl (.bool true) ?_ ⟨Below.refl _ _, rfl⟩
        go_simp
      exact trivial
    ·
      intro f W hG hH
      obtain ⟨d0, d1, d2, d3, d4, d5, d6, d7, d8, d9, d10, d11, d12, d13, d14, d15, d16, d17, d18, d19, d20, d21, d22, d23, d24, d25, d26, d27, d28, d29, d30, d31, d32, -⟩ : (f 0 = aggI .u8 xb) ∧ (f 1 = aggI .u8 yb) ∧ (f 2 = aggI .u8 cb) ∧ (f 3 = aggI .u8 (numB ((valB cb 32 + valB xb 32 * valB yb 32) % ordV))) ∧ (f 4 = aggI .u8 yb) ∧ (f 5 = aggI .u8 xb) ∧ (f 6 = aggI .u8 cb) ∧ (f 7 = aggI .u8 (numB ((valB cb 32 + valB xb 32 * valB yb 32) % ordV))) ∧ (f 8 = .bool true) ∧ (f 9 = .bool true) ∧ (f 10 = aggI .u8 (numB ((valB yb 32 + valB xb 32) % ordV))) ∧ (f 11 = aggI .u8 yb) ∧ (f 12 = aggI .u8 (unit32 1)) ∧ (f 13 = aggI .u8 xb) ∧ (f 14 = aggI .u8 (numB ((valB yb 32 + valB xb 32) % ordV))) ∧ (f 15 = .bool true) ∧ (f 16 = .bool true) ∧ (f 17 = .bool true) ∧ (f 18 = aggI .u8 (numB (valB xb 32 % ordV))) ∧ (f 19 = aggI .u8 xb) ∧ (f 20 = aggI .u8 (wideS xb)) ∧ (f 21 = aggI .u8 (numB (valB xb 32 % ordV))) ∧ (f 22 = .bool true) ∧ (f 23 = .bool true) ∧ (f 24 = .bool true) ∧ (f 25 = aggI .u8 (numB ((valB yb 32 + valB xb 32) % ordV))) ∧ (f 26 = .bool true) ∧ (f 27 = .bool true) ∧ (f 28 = .bool true) ∧ (f 29 = aggI .u8 (numB (valB xb 32 % ordV))) ∧ (f 30 = .bool true) ∧ (f 31 = .bool true) ∧ (f 32 = .bool true) ∧ True := hH
      rw [show List.range (List.length [[], [], [], [0, 1, 2], [], [], [], [4, 5, 6, 3], [3, 7], [8, 7], [9], [9], [9], [9], [11, 12, 13, 9, 9], [10, 14, 9], [9, 15], [16, 14], [17], [17], [19, 17, 17], [20, 20, 17], [18, 21, 17], [17, 22], [23, 21], [24], [25, 24, 24], [24, 26], [27, 26], [28], [29, 28, 28], [28, 30], [31, 30, 0, 1, 2, 3, 4, 5, 6, 7, 8, 9, 10, 11, 12, 13, 14, 15, 16, 17, 18, 19, 20, 21, 22, 23, 24, 25, 26, 27, 28, 29, 30, 31]]) = [0, 1, 2, 3, 4, 5, 6, 7, 8, 9, 10, 11, 12, 13, 14, 15, 16, 17, 18, 19, 20, 21, 22, 23, 24, 25, 26, 27, 28, 29, 30, 31, 32] from rfl]
      simp only [putL, List.getElem?_cons_zero, List.getElem?_cons_succ, Option.join, Option.bind_some, id_eq, Act.put, List.setIfInBounds_toArray, List.set_cons_zero, List.set_cons_succ, d0, d1, d2, d3, d4, d5, d6, d7, d8, d9, d10, d11, d12, d13, d14, d15, d16, d17, d18, d19, d20, d21, d22, d23, d24, d25, d26, d27, d28, d29, d30, d31, d32]
      clear d0 d1 d2 d3 d4 d5 d6 d7 d8 d9 d10 d11 d12 d13 d14 d15 d16 d17 d18 d19 d20 d21 d22 d23 d24 d25 d26 d27 d28 d29 d30 d31 d32
      go_wp2
      go_ret
      exact ⟨rfl, hG.2.2⟩
end Go.Proofs.Yteocdjgdljfpdaa
