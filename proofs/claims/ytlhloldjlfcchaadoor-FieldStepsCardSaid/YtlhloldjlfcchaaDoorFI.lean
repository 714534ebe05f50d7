/- The reference's p, its cut, sum and difference. -/
import Derived.Test.YtlhloldjlfcchaaDoorFH
namespace Go.Proofs.YtlhloldjlfcchaaDoor
open Go.RowKit Go.Shelf
set_option linter.unusedVariables false
set_option maxRecDepth 8000

theorem built_num4 (a b c d : Int) : Tryd.prog.built 35 [(0, .int .u64 a), (1, .int .u64 b), (2, .int .u64 c), (3, .int .u64 d)] = some (([a, b, c, d] : List Int).map (Value.int .u64)).toArray := by kernel_rfl
theorem pV_num : numW 4 pV = [18446744073709551597, 18446744073709551615, 18446744073709551615, 9223372036854775807] := by decide +kernel
set_option maxHeartbeats 2000000 in
theorem ref_P_v (w : World) : Calls Tryd.prog 28 #[] w fun e w' => e = .returned (aggI .u64 (numW 4 pV)) ∧ Below w.heap.size w w' := by
  rw [pV_num]
  go_enter Tryd.func28, Tryd.ntmps28
  go_wp2_with (first
    | (with_reducible refine at_op (o := ⟨some 0, _, _, _, _, _⟩) ?_; refine wpList_allocI rfl 35 rfl .u64 4 zero_num ?_; intro w1 A1 s1 b1)
    | (with_reducible refine at_op (o := ⟨some 1, _, _, _, _, _⟩) ?_; refine wpList_buildI rfl 35 _ rfl .u64 [18446744073709551597, 18446744073709551615, 18446744073709551615, 9223372036854775807] _ (built_num4 _ _ _ _) rfl ?_)
    | (with_reducible refine at_op (o := ⟨_, .store 35 _ _, _, _, _, _⟩) ?_; refine wpList_storeI rfl 35 _ _ rfl 4 info_num (w.heap.size) rfl .u64 _ ([18446744073709551597, 18446744073709551615, 18446744073709551615, 9223372036854775807]) rfl (A1) (rfl) (rfl) ?_; intro A9))
  refine bodyPost_ret (results_cellI rfl _ 4 33 und_num info_num (w.heap.size) rfl .u64 _ A9 (rfl)) rfl ?_
  exact ⟨rfl, Below.setRow b1 (Nat.le_refl _) _⟩
theorem cut_mod {u v : Int} (h : u % pV = v % pV) : (u - pV) % pV = v % pV := by rw [Int.sub_emod_right]; exact h
theorem pV_three : (2 : Int) ^ 256 < 3 * pV := by decide +kernel
set_option maxHeartbeats 4000000 in
theorem ref_cut_v (v : Int) (w : World) (hv : 0 ≤ v ∧ v < 2 ^ 256) :
    Calls Tryd.prog 33 #[aggI .u64 (numW 4 v)] w fun e w' => e = .returned (aggI .u64 (numW 4 (v % pV))) ∧ Below w.heap.size w w' := by
  have hp := pV_lt
  have hp3 := pV_three
  go_enter Tryd.func33, Tryd.ntmps33
  go_wp2_with (first
    | (with_reducible refine at_op (o := ⟨some 1, _, _, _, _, _⟩) ?_; refine wpList_boxI rfl 35 _ rfl .u64 (numW 4 v) rfl ?_; intro w1 A1 s1 b1)
    | (with_reducible refine at_op (o := ⟨some 2, _, _, _, _, _⟩) ?_; refine wpList_allocI rfl 35 rfl .u64 4 zero_num ?_; intro w2 A2 s2 b2; have X2 := A1.below b2))
  go_loopw [3] (fun i wr => ∃ (k : Nat) (u : Int), k ≤ 3 ∧ i = .int .i64 k ∧ Arr .u64 wr w.heap.size (numW 4 u) ∧ Arr .u64 wr w1.heap.size (List.replicate 4 0) ∧ (0 ≤ u ∧ u < 2 ^ 256) ∧ u % pV = v % pV ∧ (u < pV ∨ u + k * pV = v) ∧ Below w.heap.size w wr) (fun i _ => 3 - (intOf i).toNat)
  case atStart => exact ⟨0, v, by omega, rfl, X2, A2, hv, rfl, Or.inr (by simp), below_then b1 b2⟩
  case round =>
    obtain ⟨k, u, hk, rfl, A, R, hu, hmod, hor, hbel⟩ := hrel
    by_cases hlt : k < 3
    · have hk1 : ((k + 1 : Nat) : Int) * pV = k * pV + pV := by rw [Int.natCast_add, Int.add_mul]; omega
      go_wp2
      refine wp_region_ord [[], [], [0, 1, 1], [2]] [some 8, some 9, some 10, some 11] 4 (fun b w' => Arr .u64 w' w.heap.size (numW 4 u) ∧ Arr .u64 w' w1.heap.size (List.replicate 4 0) ∧ Below w.heap.size w w') (fun opn f _ => match opn with | 0 => f 0 = aggI .u64 (numW 4 u) | 1 => f 1 = aggI .u64 (numW 4 pV) | 2 => f 2 = .bool (decide (u < pV)) | 3 => f 3 = .bool (!(decide (u < pV))) | _ => True) (fun _ _ _ => True) (by kernel_rfl) (by kernel_rfl) (by kernel_rfl) (by kernel_rfl) (fun b v v' hb h => ⟨h.1.below hb, h.2.1.below hb, below_then h.2.2 hb⟩) (fun _ _ _ _ _ h => h) (fun _ _ _ _ _ _ _ h => h) ⟨A.drew, R.drew, hbel.drew⟩ ?_ ?_
      ·
        refine StepL.other (k := 0) rfl (fun b f W hb hG hH => ?_) ?_
        · -- 0
          clear hH
          generalize hA : putL _ _ _ _ = A
          have q1 : A.eval (.tmp 1) = .pointer (some ⟨w.heap.size, 0, none⟩) := by rw [← hA]; exact putL_none rfl rfl rfl rfl
          have r1 : A.tmps[1]?.getD undef = .pointer (some ⟨w.heap.size, 0, none⟩) := slot_get q1
          clear hA
          exact Does.loadI rfl 35 _ rfl 4 33 und_num info_num (w.heap.size) q1 .u64 (numW 4 u) (hG.1) (numW_length _ _) ⟨Below.refl _ _, rfl⟩
        refine StepL.other (k := 1) rfl (fun b f W hb hG hH => ?_) ?_
        · -- 1
          clear hH
          generalize hA : putL _ _ _ _ = A
          clear hA
          refine Does.call rfl _ _ (by go_simp) ((ref_P_v W).mono ?_)
          rintro e w' ⟨rfl, hb'⟩
          exact ⟨_, rfl, hb', rfl⟩
        refine StepL.other (k := 2) rfl (fun b f W hb hG hH => ?_) ?_
        · -- 2
          obtain ⟨d0, d1, -, -⟩ : (f 0 = aggI .u64 (numW 4 u)) ∧ (f 1 = aggI .u64 (numW 4 pV)) ∧ (f 1 = aggI .u64 (numW 4 pV)) ∧ True := hH
          generalize hA : putL _ _ _ _ = A
          have q8 : A.eval (.tmp 8) = aggI .u64 (numW 4 u) := by rw [← hA]; exact putL_look rfl rfl rfl d0
          have r8 : A.tmps[8]?.getD undef = aggI .u64 (numW 4 u) := slot_get q8
          have q9 : A.eval (.tmp 9) = aggI .u64 (numW 4 pV) := by rw [← hA]; exact putL_look rfl rfl rfl d1
          have r9 : A.tmps[9]?.getD undef = aggI .u64 (numW 4 pV) := slot_get q9
          clear hA
          refine Does.call rfl _ _ (by go_simp) ((ref_less_v u pV W hu pV_lt).mono ?_)
          rintro e w' ⟨rfl, hb'⟩
          exact ⟨_, rfl, hb', rfl⟩
        refine StepL.other (k := 3) rfl (fun b f W hb hG hH => ?_) ?_
        · -- 3
          obtain ⟨d2, -⟩ : (f 2 = .bool (decide (u < pV))) ∧ True := hH
          generalize hA : putL _ _ _ _ = A
          have q10 : A.eval (.tmp 10) = .bool (decide (u < pV)) := by rw [← hA]; exact putL_look rfl rfl rfl d2
          have r10 : A.tmps[10]?.getD undef = .bool (decide (u < pV)) := slot_get q10
          clear hA
          refine Does.pure rfl (.bool (!(decide (u < pV)))) ?_ ⟨Below.refl _ _, rfl⟩
          go_simp
        exact trivial
      ·
        intro f W hG hH
        obtain ⟨d0, d1, d2, d3, -⟩ : (f 0 = aggI .u64 (numW 4 u)) ∧ (f 1 = aggI .u64 (numW 4 pV)) ∧ (f 2 = .bool (decide (u < pV))) ∧ (f 3 = .bool (!(decide (u < pV)))) ∧ True := hH
        rw [show List.range (List.length [[], [], [0, 1, 1], [2]]) = [0, 1, 2, 3] from rfl]
        simp only [putL, List.getElem?_cons_zero, List.getElem?_cons_succ, Option.join, Option.bind_some, id_eq, Act.put, List.setIfInBounds_toArray, List.set_cons_zero, List.set_cons_succ, d0, d1, d2, d3]
        clear d0 d1 d2 d3
        obtain ⟨A, R, hbel⟩ := hG
        by_cases hlt : u < pV
        · simp only [hlt, decide_true, Bool.not_true]
          go_wp2
          exact ⟨⟨k + 1, u, by omega, by go_num, A, R, hu, hmod, Or.inl hlt, hbel⟩, by simp [intOf]; omega⟩
        · have hdf : (u - pV) % 2 ^ 256 = u - pV := Int.emod_eq_of_lt (by omega) (by omega)
          simp only [hlt, decide_false, Bool.not_false]
          go_wp2
          refine wp_region_ord [[], [], [0, 1, 1], [2], [3], [3], [4, 2, 0, 1, 2, 3, 4]] [some 13, some 14, some 15, some 12, some 16, some 17, none] 6 (fun b w' => Arr .u64 w' w.heap.size (numW 4 (if b then u - pV else u)) ∧ Arr .u64 w' w1.heap.size (List.replicate 4 0) ∧ Below w.heap.size w w') (fun opn f _ => match opn with | 0 => f 0 = aggI .u64 (numW 4 u) | 1 => f 1 = aggI .u64 (numW 4 pV) | 2 => f 2 = .tuple #[aggI .u64 (numW 4 ((u - pV) % 2 ^ 256)), .int .u64 (if u < pV then 1 else 0)] | 3 => f 3 = .tuple #[aggI .u64 (numW 4 ((u - pV) % 2 ^ 256)), .int .u64 (if u < pV then 1 else 0)] | 4 => f 4 = aggI .u64 (numW 4 ((u - pV) % 2 ^ 256)) | 5 => f 5 = .int .u64 (if u < pV then 1 else 0) | 6 => f 6 = undef | _ => True) (fun _ v v' => ∃ cs, v' = v.setRow (w.heap.size) cs) (by kernel_rfl) (by kernel_rfl) (by kernel_rfl) (by kernel_rfl) (fun b v v' hb h => ⟨h.1.below hb, h.2.1.below hb, below_then h.2.2 hb⟩) (fun _ _ _ _ _ h => h) (fun _ _ _ _ _ _ _ h => h) ⟨A.drew, R.drew, hbel.drew⟩ ?_ ?_
          ·
            refine StepL.other (k := 0) rfl (fun b f W hb hG hH => ?_) ?_
            · -- 0
              obtain rfl := hb rfl
              clear hH
              generalize hA : putL _ _ _ _ = A
              have q1 : A.eval (.tmp 1) = .pointer (some ⟨w.heap.size, 0, none⟩) := by rw [← hA]; exact putL_none rfl rfl rfl rfl
              have r1 : A.tmps[1]?.getD undef = .pointer (some ⟨w.heap.size, 0, none⟩) := slot_get q1
              clear hA
              exact Does.loadI rfl 35 _ rfl 4 33 und_num info_num (w.heap.size) q1 .u64 (numW 4 u) (hG.1) (numW_length _ _) ⟨Below.refl _ _, rfl⟩
            refine StepL.other (k := 1) rfl (fun b f W hb hG hH => ?_) ?_
            · -- 1
              obtain rfl := hb rfl
              clear hH
              generalize hA : putL _ _ _ _ = A
              clear hA
              refine Does.call rfl _ _ (by go_simp) ((ref_P_v W).mono ?_)
              rintro e w' ⟨rfl, hb'⟩
              exact ⟨_, rfl, hb', rfl⟩
            refine StepL.other (k := 2) rfl (fun b f W hb hG hH => ?_) ?_
            · -- 2
              obtain rfl := hb rfl
              obtain ⟨d0, d1, -, -⟩ : (f 0 = aggI .u64 (numW 4 u)) ∧ (f 1 = aggI .u64 (numW 4 pV)) ∧ (f 1 = aggI .u64 (numW 4 pV)) ∧ True := hH
              generalize hA : putL _ _ _ _ = A
              have q13 : A.eval (.tmp 13) = aggI .u64 (numW 4 u) := by rw [← hA]; exact putL_look rfl rfl rfl d0
              have r13 : A.tmps[13]?.getD undef = aggI .u64 (numW 4 u) := slot_get q13
              have q14 : A.eval (.tmp 14) = aggI .u64 (numW 4 pV) := by rw [← hA]; exact putL_look rfl rfl rfl d1
              have r14 : A.tmps[14]?.getD undef = aggI .u64 (numW 4 pV) := slot_get q14
              clear hA
              refine Does.call rfl _ _ (by go_simp) ((ref_minus_v u pV W hu pV_lt).mono ?_)
              rintro e w' ⟨rfl, hb'⟩
              exact ⟨_, rfl, hb', rfl⟩
            refine StepL.other (k := 3) rfl (fun b f W hb hG hH => ?_) ?_
            · -- 3
              obtain rfl := hb rfl
              obtain ⟨d2, -⟩ : (f 2 = .tuple #[aggI .u64 (numW 4 ((u - pV) % 2 ^ 256)), .int .u64 (if u < pV then 1 else 0)]) ∧ True := hH
              generalize hA : putL _ _ _ _ = A
              have q15 : A.eval (.tmp 15) = .tuple #[aggI .u64 (numW 4 ((u - pV) % 2 ^ 256)), .int .u64 (if u < pV then 1 else 0)] := by rw [← hA]; exact putL_look rfl rfl rfl d2
              have r15 : A.tmps[15]?.getD undef = .tuple #[aggI .u64 (numW 4 ((u - pV) % 2 ^ 256)), .int .u64 (if u < pV then 1 else 0)] := slot_get q15
              clear hA
              refine Does.pure rfl (.tuple #[aggI .u64 (numW 4 ((u - pV) % 2 ^ 256)), .int .u64 (if u < pV then 1 else 0)]) ?_ ⟨Below.refl _ _, rfl⟩
              go_simp
            refine StepL.other (k := 4) rfl (fun b f W hb hG hH => ?_) ?_
            · -- 4
              obtain rfl := hb rfl
              obtain ⟨d3, -⟩ : (f 3 = .tuple #[aggI .u64 (numW 4 ((u - pV) % 2 ^ 256)), .int .u64 (if u < pV then 1 else 0)]) ∧ True := hH
              generalize hA : putL _ _ _ _ = A
              have q12 : A.eval (.tmp 12) = .tuple #[aggI .u64 (numW 4 ((u - pV) % 2 ^ 256)), .int .u64 (if u < pV then 1 else 0)] := by rw [← hA]; exact putL_look rfl rfl rfl d3
              have r12 : A.tmps[12]?.getD undef = .tuple #[aggI .u64 (numW 4 ((u - pV) % 2 ^ 256)), .int .u64 (if u < pV then 1 else 0)] := slot_get q12
              clear hA
              refine Does.pure rfl (aggI .u64 (numW 4 ((u - pV) % 2 ^ 256))) ?_ ⟨Below.refl _ _, rfl⟩
              go_simp
            refine StepL.other (k := 5) rfl (fun b f W hb hG hH => ?_) ?_
            · -- 5
              obtain ⟨d3, -⟩ : (f 3 = .tuple #[aggI .u64 (numW 4 ((u - pV) % 2 ^ 256)), .int .u64 (if u < pV then 1 else 0)]) ∧ True := hH
              generalize hA : putL _ _ _ _ = A
              have q12 : A.eval (.tmp 12) = .tuple #[aggI .u64 (numW 4 ((u - pV) % 2 ^ 256)), .int .u64 (if u < pV then 1 else 0)] := by rw [← hA]; exact putL_look rfl rfl rfl d3
              have r12 : A.tmps[12]?.getD undef = .tuple #[aggI .u64 (numW 4 ((u - pV) % 2 ^ 256)), .int .u64 (if u < pV then 1 else 0)] := slot_get q12
              clear hA
              refine Does.pure rfl (.int .u64 (if u < pV then 1 else 0)) ?_ ⟨Below.refl _ _, rfl⟩
              go_simp
            refine StepL.self (k := 6) rfl (fun f W hG hH => ?_) ?_
            · -- 6
              obtain ⟨d4, d2, d0, d1, -, d3, -, -⟩ : (f 4 = aggI .u64 (numW 4 ((u - pV) % 2 ^ 256))) ∧ (f 2 = .tuple #[aggI .u64 (numW 4 ((u - pV) % 2 ^ 256)), .int .u64 (if u < pV then 1 else 0)]) ∧ (f 0 = aggI .u64 (numW 4 u)) ∧ (f 1 = aggI .u64 (numW 4 pV)) ∧ (f 2 = .tuple #[aggI .u64 (numW 4 ((u - pV) % 2 ^ 256)), .int .u64 (if u < pV then 1 else 0)]) ∧ (f 3 = .tuple #[aggI .u64 (numW 4 ((u - pV) % 2 ^ 256)), .int .u64 (if u < pV then 1 else 0)]) ∧ (f 4 = aggI .u64 (numW 4 ((u - pV) % 2 ^ 256))) ∧ True := hH
              generalize hA : putL _ _ _ _ = A
              have q1 : A.eval (.tmp 1) = .pointer (some ⟨w.heap.size, 0, none⟩) := by rw [← hA]; exact putL_none rfl rfl rfl rfl
              have r1 : A.tmps[1]?.getD undef = .pointer (some ⟨w.heap.size, 0, none⟩) := slot_get q1
              have q16 : A.eval (.tmp 16) = aggI .u64 (numW 4 ((u - pV) % 2 ^ 256)) := by rw [← hA]; exact putL_look rfl rfl rfl d4
              have r16 : A.tmps[16]?.getD undef = aggI .u64 (numW 4 ((u - pV) % 2 ^ 256)) := slot_get q16
              clear hA
              refine Does.storeI rfl 35 _ _ rfl 4 info_num (w.heap.size) q1 .u64 _ _ q16 hG.1 (numW_length _ _) (numW_length _ _) ?_
              intro A9
              rw [hdf] at A9 ⊢
              exact ⟨⟨_, rfl⟩, ⟨A9, hG.2.1.rowOther (by omega) _, Below.setRow hG.2.2 (by omega) _⟩, rfl⟩
            exact trivial
          ·
            intro f W hG hH
            obtain ⟨d0, d1, d2, d3, d4, d5, d6, -⟩ : (f 0 = aggI .u64 (numW 4 u)) ∧ (f 1 = aggI .u64 (numW 4 pV)) ∧ (f 2 = .tuple #[aggI .u64 (numW 4 ((u - pV) % 2 ^ 256)), .int .u64 (if u < pV then 1 else 0)]) ∧ (f 3 = .tuple #[aggI .u64 (numW 4 ((u - pV) % 2 ^ 256)), .int .u64 (if u < pV then 1 else 0)]) ∧ (f 4 = aggI .u64 (numW 4 ((u - pV) % 2 ^ 256))) ∧ (f 5 = .int .u64 (if u < pV then 1 else 0)) ∧ (f 6 = undef) ∧ True := hH
            rw [show List.range (List.length [[], [], [0, 1, 1], [2], [3], [3], [4, 2, 0, 1, 2, 3, 4]]) = [0, 1, 2, 3, 4, 5, 6] from rfl]
            simp only [putL, List.getElem?_cons_zero, List.getElem?_cons_succ, Option.join, Option.bind_some, id_eq, Act.put, List.setIfInBounds_toArray, List.set_cons_zero, List.set_cons_succ, d0, d1, d2, d3, d4, d5]
            clear d0 d1 d2 d3 d4 d5 d6
            obtain ⟨A, R, hbel⟩ := hG
            have A : Arr .u64 W w.heap.size (numW 4 (u - pV)) := A
            go_wp2
            exact ⟨⟨k + 1, u - pV, by omega, by go_num, A, R, by omega, cut_mod hmod, by omega, hbel⟩, by simp [intOf]; omega⟩
    · obtain rfl : k = 3 := by omega
      have hu2 : u = v % pV := by
        rw [← hmod, Int.emod_eq_of_lt hu.1 (by omega)]
      go_wp2_with (first
    | (with_reducible refine at_op (o := ⟨some 18, _, _, _, _, _⟩) ?_; refine wpList_loadI rfl 35 _ rfl 4 33 und_num info_num (w.heap.size) rfl .u64 (numW 4 u) (A) (numW_length _ _) ?_)
    | (with_reducible refine at_op (o := ⟨_, .store 35 _ _, _, _, _, _⟩) ?_; refine wpList_storeI rfl 35 _ _ rfl 4 info_num (w1.heap.size) rfl .u64 _ (numW 4 u) rfl (R) (rfl) (numW_length _ _) ?_; intro A9))
      refine bodyPost_ret (results_cellI rfl _ 4 33 und_num info_num (w1.heap.size) rfl .u64 _ A9 (numW_length _ _)) rfl ?_
      exact ⟨by rw [hu2], Below.setRow hbel (by omega) _⟩
set_option maxHeartbeats 4000000 in
theorem ref_sum_v (u v : Int) (w : World) (hu : 0 ≤ u) (hv : 0 ≤ v) (hs : u + v < 2 ^ 256) :
    Calls Tryd.prog 32 #[aggI .u64 (numW 4 u), aggI .u64 (numW 4 v)] w fun e w' => e = .returned (aggI .u64 (numW 4 ((u + v) % pV))) ∧ Below w.heap.size w w' := by
  have hc : 0 ≤ u + v := by omega
  go_enter Tryd.func32, Tryd.ntmps32
  go_wp2_with (first
    | (with_reducible refine at_op (o := ⟨some 2, _, _, _, _, _⟩) ?_; refine wpList_boxI rfl 35 _ rfl .u64 (numW 4 u) rfl ?_; intro w1 A1 s1 b1)
    | (with_reducible refine at_op (o := ⟨some 3, _, _, _, _, _⟩) ?_; refine wpList_boxI rfl 35 _ rfl .u64 (numW 4 v) rfl ?_; intro w2 A2 s2 b2; have X2 := A1.below b2)
    | (with_reducible refine at_op (o := ⟨some 4, _, _, _, _, _⟩) ?_; refine wpList_allocI rfl 35 rfl .u64 4 zero_num ?_; intro w3 A3 s3 b3; have X3 := X2.below b3; have Y3 := A2.below b3)
    | (with_reducible refine at_op (o := ⟨some 8, _, _, _, _, _⟩) ?_; refine wpList_loadI rfl 35 _ rfl 4 33 und_num info_num (w.heap.size) rfl .u64 (numW 4 u) (X3) (numW_length _ _) ?_)
    | (with_reducible refine at_op (o := ⟨some 9, _, _, _, _, _⟩) ?_; refine wpList_loadI rfl 35 _ rfl 4 33 und_num info_num (w1.heap.size) rfl .u64 (numW 4 v) (Y3) (numW_length _ _) ?_)
    | (go_at_call 48; refine (ref_plus_v u v _ hu hv hs).mono ?_; rintro e w4 ⟨rfl, b4⟩; have R4 := A3.below b4)
    | (with_reducible refine at_op (o := ⟨some 5, _, _, _, _, _⟩) ?_; refine wpList_allocI rfl 35 rfl .u64 4 zero_num ?_; intro w5 A5 s5 b5; have R5 := R4.below b5)
    | (with_reducible refine at_op (o := ⟨_, .store 35 (.tmp 5) _, _, _, _, _⟩) ?_; refine wpList_storeI rfl 35 _ _ rfl 4 info_num (w4.heap.size) rfl .u64 _ (numW 4 (u + v)) rfl (A5) (rfl) (numW_length _ _) ?_; intro D; have hs34 := b4.size; have R6 := R5.rowOther (B' := w4.heap.size) (by omega) ((numW 4 (u + v)).map (Value.int .u64)).toArray; have hbel := Below.setRow (below_then (below_then (below_then (below_then b1 b2) b3) b4) b5) (g := w4.heap.size) (by omega) ((numW 4 (u + v)).map (Value.int .u64)).toArray)
    | (with_reducible refine at_op (o := ⟨some 13, _, _, _, _, _⟩) ?_; refine wpList_loadI rfl 35 _ rfl 4 33 und_num info_num (w4.heap.size) rfl .u64 (numW 4 (u + v)) (D) (numW_length _ _) ?_)
    | (go_at_call 33; refine (ref_cut_v (u + v) _ ⟨hc, hs⟩).mono ?_; rintro e w7 ⟨rfl, b7⟩; have R7 := R6.below b7)
    | (with_reducible refine at_op (o := ⟨_, .store 35 (.tmp 4) _, _, _, _, _⟩) ?_; refine wpList_storeI rfl 35 _ _ rfl 4 info_num (w2.heap.size) rfl .u64 _ (numW 4 ((u + v) % pV)) rfl (R7) (rfl) (numW_length _ _) ?_; intro A9))
  refine bodyPost_ret (results_cellI rfl _ 4 33 und_num info_num (w2.heap.size) rfl .u64 _ A9 (numW_length _ _)) rfl ?_
  exact ⟨rfl, Below.setRow (below_then hbel b7) (by omega) _⟩
end Go.Proofs.YtlhloldjlfcchaaDoor
