/- The reference's difference, and its calls on bytes. -/
import Derived.Test.YtlhloldjlfcchaaDoorFI
namespace Go.Proofs.YtlhloldjlfcchaaDoor
open Go.RowKit Go.Shelf
set_option linter.unusedVariables false
set_option maxRecDepth 8000

theorem ref_minus_ge (u v : Int) (w : World) (hv : 0 ≤ v) (hvu : v ≤ u) (hu : u < 2 ^ 256) : Calls Tryd.prog 49 #[aggI .u64 (numW 4 u), aggI .u64 (numW 4 v)] w fun e w' => e = .returned (.tuple #[aggI .u64 (numW 4 (u - v)), .int .u64 0]) ∧ Below w.heap.size w w' := by
  have h := ref_minus_v u v w ⟨by omega, hu⟩ ⟨hv, by omega⟩
  rw [if_neg (by omega), Int.emod_eq_of_lt (by omega) (by omega)] at h
  exact h
theorem ref_less_yes (u v : Int) (w : World) (hu : 0 ≤ u) (h : u < v) (hv : v < 2 ^ 256) : Calls Tryd.prog 37 #[aggI .u64 (numW 4 u), aggI .u64 (numW 4 v)] w fun e w' => e = .returned (.bool true) ∧ Below w.heap.size w w' := by
  have h1 := ref_less_v u v w ⟨hu, by omega⟩ ⟨by omega, hv⟩
  rw [decide_eq_true h] at h1
  exact h1
theorem ref_less_no (u v : Int) (w : World) (hv : 0 ≤ v) (h : ¬ u < v) (hu : u < 2 ^ 256) : Calls Tryd.prog 37 #[aggI .u64 (numW 4 u), aggI .u64 (numW 4 v)] w fun e w' => e = .returned (.bool false) ∧ Below w.heap.size w w' := by
  have h1 := ref_less_v u v w ⟨by omega, hu⟩ ⟨hv, by omega⟩
  rw [decide_eq_false h] at h1
  exact h1
set_option maxHeartbeats 4000000 in
theorem ref_diff_v (u v : Int) (w : World) (hu : 0 ≤ u ∧ u < pV) (hv : 0 ≤ v ∧ v < pV) :
    Calls Tryd.prog 36 #[aggI .u64 (numW 4 u), aggI .u64 (numW 4 v)] w fun e w' => e = .returned (aggI .u64 (numW 4 ((u - v) % pV))) ∧ Below w.heap.size w w' := by
  have hp := pV_lt
  have hp2 : 2 * pV < 2 ^ 256 := by decide +kernel
  by_cases hlt : u < v
  · have hval : u + pV - v = (u - v) % pV := by rw [← Int.add_emod_right, Int.emod_eq_of_lt (by omega) (by omega)]; omega
    have HV := Lib.hid hval
    clear hval
    have LE := fun W => ref_less_yes u v W hu.1 hlt (by omega)
    have PL := fun W => ref_plus_v u pV W hu.1 hp.1 (by omega)
    have MI := fun W => ref_minus_ge (u + pV) v W hv.1 (by omega) (by omega)
    go_enter Tryd.func36, Tryd.ntmps36
    go_wp2_with (first
    | (with_reducible refine at_op (o := ⟨some 2, _, _, _, _, _⟩) ?_; refine wpList_boxI rfl 35 _ rfl .u64 (numW 4 u) rfl ?_; intro w1 A1 s1 b1)
    | (with_reducible refine at_op (o := ⟨some 3, _, _, _, _, _⟩) ?_; refine wpList_boxI rfl 35 _ rfl .u64 (numW 4 v) rfl ?_; intro w2 A2 s2 b2; have X2 := A1.below b2)
    | (with_reducible refine at_op (o := ⟨some 4, _, _, _, _, _⟩) ?_; refine wpList_allocI rfl 35 rfl .u64 4 zero_num ?_; intro w3 A3 s3 b3; have X3 := X2.below b3; have Y3 := A2.below b3; have B3 := below_then (below_then b1 b2) b3)
    | (with_reducible refine at_op (o := ⟨some 7, _, _, _, _, _⟩) ?_; refine wpList_loadI rfl 35 _ rfl 4 33 und_num info_num (w.heap.size) rfl .u64 (numW 4 u) (X3) (numW_length _ _) ?_)
    | (with_reducible refine at_op (o := ⟨some 8, _, _, _, _, _⟩) ?_; refine wpList_loadI rfl 35 _ rfl 4 33 und_num info_num (w1.heap.size) rfl .u64 (numW 4 v) (Y3) (numW_length _ _) ?_)
    | (go_at_call 37; refine (LE _).mono ?_; rintro e w4 ⟨rfl, b4⟩; have X4 := X3.below b4; have Y4 := Y3.below b4; have R4 := A3.below b4; have B4 := below_then B3 b4))
    refine wp_region_ord [[], [], [0, 1, 1], [2], [3], [3], [4, 2, 0, 1, 2, 3, 4]] [some 11, some 12, some 13, some 10, some 14, some 15, none] 6 (fun b w' => Arr .u64 w' w.heap.size (numW 4 (if b then u + pV else u)) ∧ Arr .u64 w' w1.heap.size (numW 4 v) ∧ Arr .u64 w' w2.heap.size (List.replicate 4 0) ∧ Below w.heap.size w w') (fun opn f _ => match opn with | 0 => f 0 = aggI .u64 (numW 4 u) | 1 => f 1 = aggI .u64 (numW 4 pV) | 2 => f 2 = .tuple #[aggI .u64 (numW 4 (u + pV)), .int .u64 0] | 3 => f 3 = .tuple #[aggI .u64 (numW 4 (u + pV)), .int .u64 0] | 4 => f 4 = aggI .u64 (numW 4 (u + pV)) | 5 => f 5 = .int .u64 0 | 6 => f 6 = undef | _ => True) (fun _ v v' => ∃ cs, v' = v.setRow (w.heap.size) cs) (by kernel_rfl) (by kernel_rfl) (by kernel_rfl) (by kernel_rfl) (fun b v v' hb h => ⟨h.1.below hb, h.2.1.below hb, h.2.2.1.below hb, below_then h.2.2.2 hb⟩) (fun _ _ _ _ _ h => h) (fun _ _ _ _ _ _ _ h => h) ⟨X4.drew, Y4.drew, R4.drew, B4.drew⟩ ?_ ?_
    ·
      refine StepL.other (k := 0) rfl (fun b f W hb hG hH => ?_) ?_
      · -- 0
        obtain rfl := hb rfl
        clear hH
        generalize hA : putL _ _ _ _ = A
        have q2 : A.eval (.tmp 2) = .pointer (some ⟨w.heap.size, 0, none⟩) := by rw [← hA]; exact putL_none rfl rfl rfl rfl
        have r2 : A.tmps[2]?.getD undef = .pointer (some ⟨w.heap.size, 0, none⟩) := slot_get q2
        clear hA
        exact Does.loadI rfl 35 _ rfl 4 33 und_num info_num (w.heap.size) q2 .u64 (numW 4 u) (hG.1) (numW_length _ _) ⟨Below.refl _ _, rfl⟩
      refine StepL.other (k := 1) rfl (fun b f W hb hG hH => ?_) ?_
      · -- 1
        obtain rfl := hb rfl
        clear hH
        generalize hA : putL _ _ _ _ = A
        clear hA
        refine Does.call rfl _ _ (by go_simp) ((ref_P_v W).mono ?_)
        rintro e w' ⟨rfl, hb'⟩
        exact ⟨_, rfl, hb', rfl⟩
      refine StepL.other (k := 2) rfl (fun b f W hb hG hH => ?_) ?_
      · -- 2
        obtain rfl := hb rfl
        obtain ⟨d0, d1, -, -⟩ : (f 0 = aggI .u64 (numW 4 u)) ∧ (f 1 = aggI .u64 (numW 4 pV)) ∧ (f 1 = aggI .u64 (numW 4 pV)) ∧ True := hH
        generalize hA : putL _ _ _ _ = A
        have q11 : A.eval (.tmp 11) = aggI .u64 (numW 4 u) := by rw [← hA]; exact putL_look rfl rfl rfl d0
        have r11 : A.tmps[11]?.getD undef = aggI .u64 (numW 4 u) := slot_get q11
        have q12 : A.eval (.tmp 12) = aggI .u64 (numW 4 pV) := by rw [← hA]; exact putL_look rfl rfl rfl d1
        have r12 : A.tmps[12]?.getD undef = aggI .u64 (numW 4 pV) := slot_get q12
        clear hA
        refine Does.call rfl _ _ (by go_simp) ((PL W).mono ?_)
        rintro e w' ⟨rfl, hb'⟩
        exact ⟨_, rfl, hb', rfl⟩
      refine StepL.other (k := 3) rfl (fun b f W hb hG hH => ?_) ?_
      · -- 3
        obtain rfl := hb rfl
        obtain ⟨d2, -⟩ : (f 2 = .tuple #[aggI .u64 (numW 4 (u + pV)), .int .u64 0]) ∧ True := hH
        generalize hA : putL _ _ _ _ = A
        have q13 : A.eval (.tmp 13) = .tuple #[aggI .u64 (numW 4 (u + pV)), .int .u64 0] := by rw [← hA]; exact putL_look rfl rfl rfl d2
        have r13 : A.tmps[13]?.getD undef = .tuple #[aggI .u64 (numW 4 (u + pV)), .int .u64 0] := slot_get q13
        clear hA
        refine Does.pure rfl (.tuple #[aggI .u64 (numW 4 (u + pV)), .int .u64 0]) ?_ ⟨Below.refl _ _, rfl⟩
        go_simp
      refine StepL.other (k := 4) rfl (fun b f W hb hG hH => ?_) ?_
      · -- 4
        obtain rfl := hb rfl
        obtain ⟨d3, -⟩ : (f 3 = .tuple #[aggI .u64 (numW 4 (u + pV)), .int .u64 0]) ∧ True := hH
        generalize hA : putL _ _ _ _ = A
        have q10 : A.eval (.tmp 10) = .tuple #[aggI .u64 (numW 4 (u + pV)), .int .u64 0] := by rw [← hA]; exact putL_look rfl rfl rfl d3
        have r10 : A.tmps[10]?.getD undef = .tuple #[aggI .u64 (numW 4 (u + pV)), .int .u64 0] := slot_get q10
        clear hA
        refine Does.pure rfl (aggI .u64 (numW 4 (u + pV))) ?_ ⟨Below.refl _ _, rfl⟩
        go_simp
      refine StepL.other (k := 5) rfl (fun b f W hb hG hH => ?_) ?_
      · -- 5
        obtain ⟨d3, -⟩ : (f 3 = .tuple #[aggI .u64 (numW 4 (u + pV)), .int .u64 0]) ∧ True := hH
        generalize hA : putL _ _ _ _ = A
        have q10 : A.eval (.tmp 10) = .tuple #[aggI .u64 (numW 4 (u + pV)), .int .u64 0] := by rw [← hA]; exact putL_look rfl rfl rfl d3
        have r10 : A.tmps[10]?.getD undef = .tuple #[aggI .u64 (numW 4 (u + pV)), .int .u64 0] := slot_get q10
        clear hA
        refine Does.pure rfl (.int .u64 0) ?_ ⟨Below.refl _ _, rfl⟩
        go_simp
      refine StepL.self (k := 6) rfl (fun f W hG hH => ?_) ?_
      · -- 6
        obtain ⟨d4, d2, d0, d1, -, d3, -, -⟩ : (f 4 = aggI .u64 (numW 4 (u + pV))) ∧ (f 2 = .tuple #[aggI .u64 (numW 4 (u + pV)), .int .u64 0]) ∧ (f 0 = aggI .u64 (numW 4 u)) ∧ (f 1 = aggI .u64 (numW 4 pV)) ∧ (f 2 = .tuple #[aggI .u64 (numW 4 (u + pV)), .int .u64 0]) ∧ (f 3 = .tuple #[aggI .u64 (numW 4 (u + pV)), .int .u64 0]) ∧ (f 4 = aggI .u64 (numW 4 (u + pV))) ∧ True := hH
        generalize hA : putL _ _ _ _ = A
        have q2 : A.eval (.tmp 2) = .pointer (some ⟨w.heap.size, 0, none⟩) := by rw [← hA]; exact putL_none rfl rfl rfl rfl
        have r2 : A.tmps[2]?.getD undef = .pointer (some ⟨w.heap.size, 0, none⟩) := slot_get q2
        have q14 : A.eval (.tmp 14) = aggI .u64 (numW 4 (u + pV)) := by rw [← hA]; exact putL_look rfl rfl rfl d4
        have r14 : A.tmps[14]?.getD undef = aggI .u64 (numW 4 (u + pV)) := slot_get q14
        clear hA
        refine Does.storeI rfl 35 _ _ rfl 4 info_num (w.heap.size) q2 .u64 _ _ q14 hG.1 (numW_length _ _) (numW_length _ _) ?_
        intro A9
        exact ⟨⟨_, rfl⟩, ⟨A9, hG.2.1.rowOther (by omega) _, hG.2.2.1.rowOther (by omega) _, Below.setRow hG.2.2.2 (by omega) _⟩, rfl⟩
      exact trivial
    ·
      intro f W hG hH
      obtain ⟨d0, d1, d2, d3, d4, d5, d6, -⟩ : (f 0 = aggI .u64 (numW 4 u)) ∧ (f 1 = aggI .u64 (numW 4 pV)) ∧ (f 2 = .tuple #[aggI .u64 (numW 4 (u + pV)), .int .u64 0]) ∧ (f 3 = .tuple #[aggI .u64 (numW 4 (u + pV)), .int .u64 0]) ∧ (f 4 = aggI .u64 (numW 4 (u + pV))) ∧ (f 5 = .int .u64 0) ∧ (f 6 = undef) ∧ True := hH
      rw [show List.range (List.length [[], [], [0, 1, 1], [2], [3], [3], [4, 2, 0, 1, 2, 3, 4]]) = [0, 1, 2, 3, 4, 5, 6] from rfl]
      simp only [putL, List.getElem?_cons_zero, List.getElem?_cons_succ, Option.join, Option.bind_some, id_eq, Act.put, List.setIfInBounds_toArray, List.set_cons_zero, List.set_cons_succ, d0, d1, d2, d3, d4, d5]
      clear d0 d1 d2 d3 d4 d5 d6
      obtain ⟨AX, AY, AR, hbel⟩ := hG
      have AX : Arr .u64 W w.heap.size (numW 4 (u + pV)) := AX
      have hsz := hbel.size
      have hRW : w2.heap.size < W.heap.size := AR.lt
      go_wp2_with (first
          | (with_reducible refine at_op (o := ⟨some 17, _, _, _, _, _⟩) ?_; refine wpList_loadI rfl 35 _ rfl 4 33 und_num info_num (w.heap.size) rfl .u64 (numW 4 (u + pV)) (AX) (numW_length _ _) ?_)
          | (with_reducible refine at_op (o := ⟨some 18, _, _, _, _, _⟩) ?_; refine wpList_loadI rfl 35 _ rfl 4 33 und_num info_num (w1.heap.size) rfl .u64 (numW 4 v) (AY) (numW_length _ _) ?_)
          | (go_at_call 49; refine (MI _).mono ?_; rintro e w6 ⟨rfl, b6⟩; have R5 := AR.below b6)
          | (with_reducible refine at_op (o := ⟨some 5, _, _, _, _, _⟩) ?_; refine wpList_allocI rfl 35 rfl .u64 4 zero_num ?_; intro w7 A7 s7 b7; have R6 := R5.below b7)
          | (with_reducible refine at_op (o := ⟨_, .store 35 (.tmp 5) _, _, _, _, _⟩) ?_; refine wpList_storeI rfl 35 _ _ rfl 4 info_num (w6.heap.size) rfl .u64 _ (numW 4 ((u + pV) - v)) rfl (A7) (rfl) (numW_length _ _) ?_; intro D; have hs6 := b6.size; have hRW := AR.lt; have hB0 := Below.size hbel; have hs7 : w6.heap.size < w7.heap.size := s7; have R7 := R6.rowOther (B' := w6.heap.size) (by omega) ((numW 4 ((u + pV) - v)).map (Value.int .u64)).toArray; have B7 := Below.setRow (below_then (below_then hbel b6) b7) (g := w6.heap.size) (by omega) ((numW 4 ((u + pV) - v)).map (Value.int .u64)).toArray)
          | (with_reducible refine at_op (o := ⟨some 22, _, _, _, _, _⟩) ?_; refine wpList_loadI rfl 35 _ rfl 4 33 und_num info_num (w6.heap.size) rfl .u64 (numW 4 ((u + pV) - v)) (D) (numW_length _ _) ?_)
          | (with_reducible refine at_op (o := ⟨_, .store 35 (.tmp 4) _, _, _, _, _⟩) ?_; refine wpList_storeI rfl 35 _ _ rfl 4 info_num (w2.heap.size) rfl .u64 _ (numW 4 ((u + pV) - v)) rfl (R7) (rfl) (numW_length _ _) ?_; intro A9))
      refine bodyPost_ret (results_cellI rfl _ 4 33 und_num info_num (w2.heap.size) rfl .u64 _ A9 (numW_length _ _)) rfl ?_
      exact ⟨by rw [HV.out], Below.setRow B7 (by omega) _⟩
  · have hval : u - v = (u - v) % pV := by rw [Int.emod_eq_of_lt (by omega) (by omega)]
    have HV := Lib.hid hval
    clear hval
    have LE := fun W => ref_less_no u v W hv.1 hlt (by omega)
    have MI := fun W => ref_minus_ge u v W hv.1 (by omega) (by omega)
    go_enter Tryd.func36, Tryd.ntmps36
    go_wp2_with (first
    | (with_reducible refine at_op (o := ⟨some 2, _, _, _, _, _⟩) ?_; refine wpList_boxI rfl 35 _ rfl .u64 (numW 4 u) rfl ?_; intro w1 A1 s1 b1)
    | (with_reducible refine at_op (o := ⟨some 3, _, _, _, _, _⟩) ?_; refine wpList_boxI rfl 35 _ rfl .u64 (numW 4 v) rfl ?_; intro w2 A2 s2 b2; have X2 := A1.below b2)
    | (with_reducible refine at_op (o := ⟨some 4, _, _, _, _, _⟩) ?_; refine wpList_allocI rfl 35 rfl .u64 4 zero_num ?_; intro w3 A3 s3 b3; have X3 := X2.below b3; have Y3 := A2.below b3; have B3 := below_then (below_then b1 b2) b3)
    | (with_reducible refine at_op (o := ⟨some 7, _, _, _, _, _⟩) ?_; refine wpList_loadI rfl 35 _ rfl 4 33 und_num info_num (w.heap.size) rfl .u64 (numW 4 u) (X3) (numW_length _ _) ?_)
    | (with_reducible refine at_op (o := ⟨some 8, _, _, _, _, _⟩) ?_; refine wpList_loadI rfl 35 _ rfl 4 33 und_num info_num (w1.heap.size) rfl .u64 (numW 4 v) (Y3) (numW_length _ _) ?_)
    | (go_at_call 37; refine (LE _).mono ?_; rintro e w4 ⟨rfl, b4⟩; have X4 := X3.below b4; have Y4 := Y3.below b4; have R4 := A3.below b4; have B4 := below_then B3 b4)
    | (with_reducible refine at_op (o := ⟨some 17, _, _, _, _, _⟩) ?_; refine wpList_loadI rfl 35 _ rfl 4 33 und_num info_num (w.heap.size) rfl .u64 (numW 4 u) (X4) (numW_length _ _) ?_)
    | (with_reducible refine at_op (o := ⟨some 18, _, _, _, _, _⟩) ?_; refine wpList_loadI rfl 35 _ rfl 4 33 und_num info_num (w1.heap.size) rfl .u64 (numW 4 v) (Y4) (numW_length _ _) ?_)
    | (go_at_call 49; refine (MI _).mono ?_; rintro e w6 ⟨rfl, b6⟩; have R5 := R4.below b6)
    | (with_reducible refine at_op (o := ⟨some 5, _, _, _, _, _⟩) ?_; refine wpList_allocI rfl 35 rfl .u64 4 zero_num ?_; intro w7 A7 s7 b7; have R6 := R5.below b7)
    | (with_reducible refine at_op (o := ⟨_, .store 35 (.tmp 5) _, _, _, _, _⟩) ?_; refine wpList_storeI rfl 35 _ _ rfl 4 info_num (w6.heap.size) rfl .u64 _ (numW 4 (u - v)) rfl (A7) (rfl) (numW_length _ _) ?_; intro D; have hs6 := b6.size; have hRW := R4.lt; have hB0 := Below.size B4; have hs7 : w6.heap.size < w7.heap.size := s7; have R7 := R6.rowOther (B' := w6.heap.size) (by omega) ((numW 4 (u - v)).map (Value.int .u64)).toArray; have B7 := Below.setRow (below_then (below_then B4 b6) b7) (g := w6.heap.size) (by omega) ((numW 4 (u - v)).map (Value.int .u64)).toArray)
    | (with_reducible refine at_op (o := ⟨some 22, _, _, _, _, _⟩) ?_; refine wpList_loadI rfl 35 _ rfl 4 33 und_num info_num (w6.heap.size) rfl .u64 (numW 4 (u - v)) (D) (numW_length _ _) ?_)
    | (with_reducible refine at_op (o := ⟨_, .store 35 (.tmp 4) _, _, _, _, _⟩) ?_; refine wpList_storeI rfl 35 _ _ rfl 4 info_num (w2.heap.size) rfl .u64 _ (numW 4 (u - v)) rfl (R7) (rfl) (numW_length _ _) ?_; intro A9))
    refine bodyPost_ret (results_cellI rfl _ 4 33 und_num info_num (w2.heap.size) rfl .u64 _ A9 (numW_length _ _)) rfl ?_
    exact ⟨by rw [← HV.out], Below.setRow B7 (by omega) _⟩
end Go.Proofs.YtlhloldjlfcchaaDoor
