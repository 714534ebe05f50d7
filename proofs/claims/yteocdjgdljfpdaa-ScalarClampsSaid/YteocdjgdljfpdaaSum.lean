/- The reference's sum of reduced numbers. -/
import Derived.Test.YteocdjgdljfpdaaVal
namespace Go.Proofs.Yteocdjgdljfpdaa
open Go.RowKit Go.Shelf
set_option linter.unusedVariables false
set_option maxRecDepth 4000

set_option maxHeartbeats 4000000 in
theorem sum_v (u v : Int) (w : World) (hu : 0 ≤ u ∧ u < ordV) (hv : 0 ≤ v ∧ v < ordV) :
    Calls Try.prog 32 #[aggI .u64 (numW 4 u), aggI .u64 (numW 4 v)] w fun e w' => e = .returned (aggI .u64 (numW 4 ((u + v) % ordV))) ∧ Below w.heap.size w w' := by
  have hO : ordV < 2 ^ 255 := by decide +kernel
  have hb : u + v < 2 ^ 256 := by
    have : (2 : Int) ^ 256 = 2 * 2 ^ 255 := by decide +kernel
    omega
  have hO2 := ordV_lt
  go_enter Try.func32, Try.ntmps32
  go_wp2_with (first
    | (with_reducible refine at_op (o := ⟨some 2, _, _, _, _, _⟩) ?_; refine wpList_boxI rfl 35 _ rfl .u64 (numW 4 u) rfl ?_; intro w1 A1 s1 b1)
    | (with_reducible refine at_op (o := ⟨some 3, _, _, _, _, _⟩) ?_; refine wpList_boxI rfl 35 _ rfl .u64 (numW 4 v) rfl ?_; intro w2 A2 s2 b2; have X2 := A1.below b2)
    | (with_reducible refine at_op (o := ⟨some 4, _, _, _, _, _⟩) ?_; refine wpList_allocI rfl 35 rfl .u64 4 zero_num ?_; intro w3 A3 s3 b3; have X3 := X2.below b3; have Y3 := A2.below b3)
    | (with_reducible refine at_op (o := ⟨some 8, _, _, _, _, _⟩) ?_; refine wpList_loadI rfl 35 _ rfl 4 33 und_num info_num (w.heap.size) rfl .u64 (numW 4 u) (X3) (numW_length _ _) ?_)
    | (with_reducible refine at_op (o := ⟨some 9, _, _, _, _, _⟩) ?_; refine wpList_loadI rfl 35 _ rfl 4 33 und_num info_num (w1.heap.size) rfl .u64 (numW 4 v) (Y3) (numW_length _ _) ?_)
    | (go_at_call 37; refine (ref_plus_v u v _ hu.1 hv.1 hb).mono ?_; rintro e w4 ⟨rfl, b4⟩; have R4 := A3.below b4)
    | (with_reducible refine at_op (o := ⟨some 5, _, _, _, _, _⟩) ?_; refine wpList_allocI rfl 35 rfl .u64 4 zero_num ?_; intro w5 A5 s5 b5; have R5 := R4.below b5)
    | (with_reducible refine at_op (o := ⟨_, .store 35 _ _, _, _, _, _⟩) ?_; refine wpList_storeI rfl 35 _ _ rfl 4 info_num (w4.heap.size) rfl .u64 _ (numW 4 (u + v)) rfl (A5) (rfl) (numW_length _ _) ?_; intro D))
  have hs34 := b4.size
  have R := R5.rowOther (B' := w4.heap.size) (by omega) ((numW 4 (u + v)).map (Value.int .u64)).toArray
  have hbel := Below.setRow (below_then (below_then (below_then (below_then b1 b2) b3) b4) b5) (g := w4.heap.size) (by omega) ((numW 4 (u + v)).map (Value.int .u64)).toArray
  refine wp_region_ord [[], [], [0, 1, 1], [2]] [some 13, some 14, some 15, some 16] 4 (fun b w' => Arr .u64 w' w4.heap.size (numW 4 (u + v)) ∧ Arr .u64 w' w2.heap.size (List.replicate 4 0) ∧ Below w.heap.size w w') (fun opn f _ => match opn with | 0 => f 0 = aggI .u64 (numW 4 (u + v)) | 1 => f 1 = aggI .u64 (numW 4 ordV) | 2 => f 2 = .bool (decide (u + v < ordV)) | 3 => f 3 = .bool (!(decide (u + v < ordV))) | _ => True) (fun _ _ _ => True) (by kernel_rfl) (by kernel_rfl) (by kernel_rfl) (by kernel_rfl) (fun b v v' hb h => ⟨h.1.below hb, h.2.1.below hb, below_then h.2.2 hb⟩) (fun _ _ _ _ _ h => h) (fun _ _ _ _ _ _ _ h => h) ⟨D.drew, R.drew, hbel.drew⟩ ?_ ?_
  ·
    refine StepL.other (k := 0) rfl (fun b f W hb hG hH => ?_) ?_
    · -- 0
      clear hH
      generalize hA : putL _ _ _ _ = A
      have q5 : A.eval (.tmp 5) = .pointer (some ⟨w4.heap.size, 0, none⟩) := by rw [← hA]; exact putL_none rfl rfl rfl rfl
      have r5 : A.tmps[5]?.getD undef = .pointer (some ⟨w4.heap.size, 0, none⟩) := slot_get q5
      clear hA
      exact Does.loadI rfl 35 _ rfl 4 33 und_num info_num (w4.heap.size) q5 .u64 (numW 4 (u + v)) (hG.1) (numW_length _ _) ⟨Below.refl _ _, rfl⟩
    refine StepL.other (k := 1) rfl (fun b f W hb hG hH => ?_) ?_
    · -- 1
      clear hH
      generalize hA : putL _ _ _ _ = A
      clear hA
      refine Does.call rfl _ _ (by go_simp) ((ref_L_v W).mono ?_)
      rintro e w' ⟨rfl, hb'⟩
      exact ⟨_, rfl, hb', rfl⟩
    refine StepL.other (k := 2) rfl (fun b f W hb hG hH => ?_) ?_
    · -- 2
      obtain ⟨d0, d1, -, -⟩ : (f 0 = aggI .u64 (numW 4 (u + v))) ∧ (f 1 = aggI .u64 (numW 4 ordV)) ∧ (f 1 = aggI .u64 (numW 4 ordV)) ∧ True := hH
      generalize hA : putL _ _ _ _ = A
      have q13 : A.eval (.tmp 13) = aggI .u64 (numW 4 (u + v)) := by rw [← hA]; exact putL_look rfl rfl rfl d0
      have r13 : A.tmps[13]?.getD undef = aggI .u64 (numW 4 (u + v)) := slot_get q13
      have q14 : A.eval (.tmp 14) = aggI .u64 (numW 4 ordV) := by rw [← hA]; exact putL_look rfl rfl rfl d1
      have r14 : A.tmps[14]?.getD undef = aggI .u64 (numW 4 ordV) := slot_get q14
      clear hA
      refine Does.call rfl _ _ (by go_simp) ((ref_less_v (u + v) ordV W (by omega) ordV_lt).mono ?_)
      rintro e w' ⟨rfl, hb'⟩
      exact ⟨_, rfl, hb', rfl⟩
    refine StepL.other (k := 3) rfl (fun b f W hb hG hH => ?_) ?_
    · -- 3
      obtain ⟨d2, -⟩ : (f 2 = .bool (decide (u + v < ordV))) ∧ True := hH
      generalize hA : putL _ _ _ _ = A
      have q15 : A.eval (.tmp 15) = .bool (decide (u + v < ordV)) := by rw [← hA]; exact putL_look rfl rfl rfl d2
      have r15 : A.tmps[15]?.getD undef = .bool (decide (u + v < ordV)) := slot_get q15
      clear hA
      refine Does.pure rfl (.bool (!(decide (u + v < ordV)))) ?_ ⟨Below.refl _ _, rfl⟩
      go_simp
    exact trivial
  ·
    intro f W hG hH
    obtain ⟨d0, d1, d2, d3, -⟩ : (f 0 = aggI .u64 (numW 4 (u + v))) ∧ (f 1 = aggI .u64 (numW 4 ordV)) ∧ (f 2 = .bool (decide (u + v < ordV))) ∧ (f 3 = .bool (!(decide (u + v < ordV)))) ∧ True := hH
    rw [show List.range (List.length [[], [], [0, 1, 1], [2]]) = [0, 1, 2, 3] from rfl]
    simp only [putL, List.getElem?_cons_zero, List.getElem?_cons_succ, Option.join, Option.bind_some, id_eq, Act.put, List.setIfInBounds_toArray, List.set_cons_zero, List.set_cons_succ, d0, d1, d2, d3]
    clear d0 d1 d2 d3
    obtain ⟨D, R, hbel⟩ := hG
    by_cases hlt : u + v < ordV
    · simp only [hlt, decide_true, Bool.not_true]
      go_wp2_with (first
          | (with_reducible refine at_op (o := ⟨some 23, _, _, _, _, _⟩) ?_; refine wpList_loadI rfl 35 _ rfl 4 33 und_num info_num (w4.heap.size) rfl .u64 (numW 4 (u + v)) (D) (numW_length _ _) ?_)
          | (with_reducible refine at_op (o := ⟨_, .store 35 _ _, _, _, _, _⟩) ?_; refine wpList_storeI rfl 35 _ _ rfl 4 info_num (w2.heap.size) rfl .u64 _ (numW 4 (u + v)) rfl (R) (rfl) (numW_length _ _) ?_; intro A9))
      refine bodyPost_ret (results_cellI rfl _ 4 33 und_num info_num (w2.heap.size) rfl .u64 _ A9 (numW_length _ _)) rfl ?_
      have hres : numW 4 (u + v) = numW 4 ((u + v) % ordV) := by
        congr 1
        unfold ordV at *
        omega
      exact ⟨by rw [hres], Below.setRow hbel (by omega) _⟩
    · have hdf : (u + v - ordV) % 2 ^ 256 = u + v - ordV := by
        unfold ordV at *
        simp only [Int.reducePow]
        omega
      simp only [hlt, decide_false, Bool.not_false]
      go_wp2
      refine wp_region_ord [[], [], [0, 1, 1], [2], [3], [3], [4, 2, 0, 1, 2, 3, 4]] [some 18, some 19, some 20, some 17, some 21, some 22, none] 6 (fun b w' => Arr .u64 w' w4.heap.size (numW 4 (if b then u + v - ordV else u + v)) ∧ Arr .u64 w' w2.heap.size (List.replicate 4 0) ∧ Below w.heap.size w w') (fun opn f _ => match opn with | 0 => f 0 = aggI .u64 (numW 4 (u + v)) | 1 => f 1 = aggI .u64 (numW 4 ordV) | 2 => f 2 = .tuple #[aggI .u64 (numW 4 ((u + v - ordV) % 2 ^ 256)), .int .u64 (if u + v < ordV then 1 else 0)] | 3 => f 3 = .tuple #[aggI .u64 (numW 4 ((u + v - ordV) % 2 ^ 256)), .int .u64 (if u + v < ordV then 1 else 0)] | 4 => f 4 = aggI .u64 (numW 4 ((u + v - ordV) % 2 ^ 256)) | 5 => f 5 = .int .u64 (if u + v < ordV then 1 else 0) | 6 => f 6 = undef | _ => True) (fun _ v v' => ∃ cs, v' = v.setRow (w4.heap.size) cs) (by kernel_rfl) (by kernel_rfl) (by kernel_rfl) (by kernel_rfl) (fun b v v' hb h => ⟨h.1.below hb, h.2.1.below hb, below_then h.2.2 hb⟩) (fun _ _ _ _ _ h => h) (fun _ _ _ _ _ _ _ h => h) ⟨D.drew, R.drew, hbel.drew⟩ ?_ ?_
      ·
        refine StepL.other (k := 0) rfl (fun b f W hb hG hH => ?_) ?_
        · -- 0
          obtain rfl := hb rfl
          clear hH
          generalize hA : putL _ _ _ _ = A
          have q5 : A.eval (.tmp 5) = .pointer (some ⟨w4.heap.size, 0, none⟩) := by rw [← hA]; exact putL_none rfl rfl rfl rfl
          have r5 : A.tmps[5]?.getD undef = .pointer (some ⟨w4.heap.size, 0, none⟩) := slot_get q5
          clear hA
          exact Does.loadI rfl 35 _ rfl 4 33 und_num info_num (w4.heap.size) q5 .u64 (numW 4 (u + v)) (hG.1) (numW_length _ _) ⟨Below.refl _ _, rfl⟩
        refine StepL.other (k := 1) rfl (fun b f W hb hG hH => ?_) ?_
        · -- 1
          obtain rfl := hb rfl
          clear hH
          generalize hA : putL _ _ _ _ = A
          clear hA
          refine Does.call rfl _ _ (by go_simp) ((ref_L_v W).mono ?_)
          rintro e w' ⟨rfl, hb'⟩
          exact ⟨_, rfl, hb', rfl⟩
        refine StepL.other (k := 2) rfl (fun b f W hb hG hH => ?_) ?_
        · -- 2
          obtain rfl := hb rfl
          obtain ⟨d0, d1, -, -⟩ : (f 0 = aggI .u64 (numW 4 (u + v))) ∧ (f 1 = aggI .u64 (numW 4 ordV)) ∧ (f 1 = aggI .u64 (numW 4 ordV)) ∧ True := hH
          generalize hA : putL _ _ _ _ = A
          have q18 : A.eval (.tmp 18) = aggI .u64 (numW 4 (u + v)) := by rw [← hA]; exact putL_look rfl rfl rfl d0
          have r18 : A.tmps[18]?.getD undef = aggI .u64 (numW 4 (u + v)) := slot_get q18
          have q19 : A.eval (.tmp 19) = aggI .u64 (numW 4 ordV) := by rw [← hA]; exact putL_look rfl rfl rfl d1
          have r19 : A.tmps[19]?.getD undef = aggI .u64 (numW 4 ordV) := slot_get q19
          clear hA
          refine Does.call rfl _ _ (by go_simp) ((ref_minus_v (u + v) ordV W (by omega) ordV_lt).mono ?_)
          rintro e w' ⟨rfl, hb'⟩
          exact ⟨_, rfl, hb', rfl⟩
        refine StepL.other (k := 3) rfl (fun b f W hb hG hH => ?_) ?_
        · -- 3
          obtain rfl := hb rfl
          obtain ⟨d2, -⟩ : (f 2 = .tuple #[aggI .u64 (numW 4 ((u + v - ordV) % 2 ^ 256)), .int .u64 (if u + v < ordV then 1 else 0)]) ∧ True := hH
          generalize hA : putL _ _ _ _ = A
          have q20 : A.eval (.tmp 20) = .tuple #[aggI .u64 (numW 4 ((u + v - ordV) % 2 ^ 256)), .int .u64 (if u + v < ordV then 1 else 0)] := by rw [← hA]; exact putL_look rfl rfl rfl d2
          have r20 : A.tmps[20]?.getD undef = .tuple #[aggI .u64 (numW 4 ((u + v - ordV) % 2 ^ 256)), .int .u64 (if u + v < ordV then 1 else 0)] := slot_get q20
          clear hA
          refine Does.pure rfl (.tuple #[aggI .u64 (numW 4 ((u + v - ordV) % 2 ^ 256)), .int .u64 (if u + v < ordV then 1 else 0)]) ?_ ⟨Below.refl _ _, rfl⟩
          go_simp
        refine StepL.other (k := 4) rfl (fun b f W hb hG hH => ?_) ?_
        · -- 4
          obtain rfl := hb rfl
          obtain ⟨d3, -⟩ : (f 3 = .tuple #[aggI .u64 (numW 4 ((u + v - ordV) % 2 ^ 256)), .int .u64 (if u + v < ordV then 1 else 0)]) ∧ True := hH
          generalize hA : putL _ _ _ _ = A
          have q17 : A.eval (.tmp 17) = .tuple #[aggI .u64 (numW 4 ((u + v - ordV) % 2 ^ 256)), .int .u64 (if u + v < ordV then 1 else 0)] := by rw [← hA]; exact putL_look rfl rfl rfl d3
          have r17 : A.tmps[17]?.getD undef = .tuple #[aggI .u64 (numW 4 ((u + v - ordV) % 2 ^ 256)), .int .u64 (if u + v < ordV then 1 else 0)] := slot_get q17
          clear hA
          refine Does.pure rfl (aggI .u64 (numW 4 ((u + v - ordV) % 2 ^ 256))) ?_ ⟨Below.refl _ _, rfl⟩
          go_simp
        refine StepL.other (k := 5) rfl (fun b f W hb hG hH => ?_) ?_
        · -- 5
          obtain ⟨d3, -⟩ : (f 3 = .tuple #[aggI .u64 (numW 4 ((u + v - ordV) % 2 ^ 256)), .int .u64 (if u + v < ordV then 1 else 0)]) ∧ True := hH
          generalize hA : putL _ _ _ _ = A
          have q17 : A.eval (.tmp 17) = .tuple #[aggI .u64 (numW 4 ((u + v - ordV) % 2 ^ 256)), .int .u64 (if u + v < ordV then 1 else 0)] := by rw [← hA]; exact putL_look rfl rfl rfl d3
          have r17 : A.tmps[17]?.getD undef = .tuple #[aggI .u64 (numW 4 ((u + v - ordV) % 2 ^ 256)), .int .u64 (if u + v < ordV then 1 else 0)] := slot_get q17
          clear hA
          refine Does.pure rfl (.int .u64 (if u + v < ordV then 1 else 0)) ?_ ⟨Below.refl _ _, rfl⟩
          go_simp
        refine StepL.self (k := 6) rfl (fun f W hG hH => ?_) ?_
        · -- 6
          obtain ⟨d4, d2, d0, d1, -, d3, -, -⟩ : (f 4 = aggI .u64 (numW 4 ((u + v - ordV) % 2 ^ 256))) ∧ (f 2 = .tuple #[aggI .u64 (numW 4 ((u + v - ordV) % 2 ^ 256)), .int .u64 (if u + v < ordV then 1 else 0)]) ∧ (f 0 = aggI .u64 (numW 4 (u + v))) ∧ (f 1 = aggI .u64 (numW 4 ordV)) ∧ (f 2 = .tuple #[aggI .u64 (numW 4 ((u + v - ordV) % 2 ^ 256)), .int .u64 (if u + v < ordV then 1 else 0)]) ∧ (f 3 = .tuple #[aggI .u64 (numW 4 ((u + v - ordV) % 2 ^ 256)), .int .u64 (if u + v < ordV then 1 else 0)]) ∧ (f 4 = aggI .u64 (numW 4 ((u + v - ordV) % 2 ^ 256))) ∧ True := hH
          generalize hA : putL _ _ _ _ = A
          have q5 : A.eval (.tmp 5) = .pointer (some ⟨w4.heap.size, 0, none⟩) := by rw [← hA]; exact putL_none rfl rfl rfl rfl
          have r5 : A.tmps[5]?.getD undef = .pointer (some ⟨w4.heap.size, 0, none⟩) := slot_get q5
          have q21 : A.eval (.tmp 21) = aggI .u64 (numW 4 ((u + v - ordV) % 2 ^ 256)) := by rw [← hA]; exact putL_look rfl rfl rfl d4
          have r21 : A.tmps[21]?.getD undef = aggI .u64 (numW 4 ((u + v - ordV) % 2 ^ 256)) := slot_get q21
          clear hA
          refine Does.storeI rfl 35 _ _ rfl 4 info_num (w4.heap.size) q5 .u64 _ _ q21 hG.1 (numW_length _ _) (numW_length _ _) ?_
          intro A9
          rw [hdf] at A9 ⊢
          exact ⟨⟨_, rfl⟩, ⟨A9, hG.2.1.rowOther (by omega) _, Below.setRow hG.2.2 (by omega) _⟩, rfl⟩
        exact trivial
      ·
        intro f W hG hH
        obtain ⟨d0, d1, d2, d3, d4, d5, d6, -⟩ : (f 0 = aggI .u64 (numW 4 (u + v))) ∧ (f 1 = aggI .u64 (numW 4 ordV)) ∧ (f 2 = .tuple #[aggI .u64 (numW 4 ((u + v - ordV) % 2 ^ 256)), .int .u64 (if u + v < ordV then 1 else 0)]) ∧ (f 3 = .tuple #[aggI .u64 (numW 4 ((u + v - ordV) % 2 ^ 256)), .int .u64 (if u + v < ordV then 1 else 0)]) ∧ (f 4 = aggI .u64 (numW 4 ((u + v - ordV) % 2 ^ 256))) ∧ (f 5 = .int .u64 (if u + v < ordV then 1 else 0)) ∧ (f 6 = undef) ∧ True := hH
        rw [show List.range (List.length [[], [], [0, 1, 1], [2], [3], [3], [4, 2, 0, 1, 2, 3, 4]]) = [0, 1, 2, 3, 4, 5, 6] from rfl]
        simp only [putL, List.getElem?_cons_zero, List.getElem?_cons_succ, Option.join, Option.bind_some, id_eq, Act.put, List.setIfInBounds_toArray, List.set_cons_zero, List.set_cons_succ, d0, d1, d2, d3, d4, d5]
        clear d0 d1 d2 d3 d4 d5 d6
        obtain ⟨D, R, hbel⟩ := hG
        have D : Arr .u64 W (w4.heap.size) (numW 4 (u + v - ordV)) := D
        go_wp2_with (first
            | (with_reducible refine at_op (o := ⟨some 23, _, _, _, _, _⟩) ?_; refine wpList_loadI rfl 35 _ rfl 4 33 und_num info_num (w4.heap.size) rfl .u64 (numW 4 (u + v - ordV)) (D) (numW_length _ _) ?_)
            | (with_reducible refine at_op (o := ⟨_, .store 35 _ _, _, _, _, _⟩) ?_; refine wpList_storeI rfl 35 _ _ rfl 4 info_num (w2.heap.size) rfl .u64 _ (numW 4 (u + v - ordV)) rfl (R) (rfl) (numW_length _ _) ?_; intro A9))
        refine bodyPost_ret (results_cellI rfl _ 4 33 und_num info_num (w2.heap.size) rfl .u64 _ A9 (numW_length _ _)) rfl ?_
        have hres : numW 4 (u + v - ordV) = numW 4 ((u + v) % ordV) := by
          congr 1
          unfold ordV at *
          omega
        exact ⟨by rw [hres], Below.setRow hbel (by omega) _⟩
end Go.Proofs.Yteocdjgdljfpdaa
