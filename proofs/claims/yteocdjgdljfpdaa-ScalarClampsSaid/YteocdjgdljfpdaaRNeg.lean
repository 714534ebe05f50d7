/- The reference's Neg. -/
import Derived.Test.YteocdjgdljfpdaaLeft
namespace Go.Proofs.Yteocdjgdljfpdaa
open Go.RowKit Go.Shelf
set_option linter.unusedVariables false
set_option maxRecDepth 8000

theorem World.size_setRow2 (w : World) (g : Nat) (cs : Array Value) : (w.setRow g cs).heap.size = w.heap.size := by simp [World.setRow]
theorem built_a32 : Try.prog.built 23 [] = some ((List.replicate 32 (0 : Int)).map (Value.int .u8)).toArray := by kernel_rfl
theorem num_zero {n : Int} (h0 : 0 ≤ n) (h1 : n < 2 ^ 256) : decide (numW 4 n = [0, 0, 0, 0]) = decide (n = 0) := by
  apply decide_eq_decide.2
  constructor
  · intro h
    rw [← numW_val h0 h1, h]
    rfl
  · rintro rfl
    decide +kernel
set_option maxHeartbeats 4000000 in
theorem ref_neg_v (xb : List Int) (w : World) (hxb : Bytes xb) (hxl : xb.length = 32) :
    Calls Try.prog 13 #[aggI .u8 xb] w fun e w' => e = .returned (aggI .u8 (numB ((-valB xb 32) % ordV))) ∧ Below w.heap.size w w' := by
  have LL : ∀ W, Arr .u8 W w.heap.size xb → Calls Try.prog 23 #[.slice (some ⟨w.heap.size, 0, none⟩) 32 32] W fun e w' => e = .returned (aggI .u64 (numW 4 (valB xb 32 % ordV))) ∧ Below W.heap.size W w' := fun W h => left_v xb _ 32 W h hxb hxl (by omega)
  have hnm := ordV_mod (valB xb 32)
  have HN : (-valB xb 32) % ordV = if valB xb 32 % ordV = 0 then 0 else ordV - valB xb 32 % ordV := by unfold ordV; split <;> omega
  generalize (-valB xb 32) % ordV = g at *
  generalize valB xb 32 % ordV = n at *
  have hn2 : 0 ≤ n ∧ n < 2 ^ 256 := by have := ordV_lt; omega
  have HB := num_zero hn2.1 hn2.2
  have HDF : (ordV - n) % 2 ^ 256 = ordV - n := Int.emod_eq_of_lt (by omega) (by have := ordV_lt; omega)
  have HDF := Lib.hid HDF
  by_cases h0 : n = 0
  · rw [if_pos h0] at HN
    have HB := HB.trans (decide_eq_true h0)
    clear h0
    have hz : (List.replicate 32 (0 : Int)) = numB 0 := by decide +kernel
    have HZ := Lib.hid (show numB g = List.replicate 32 0 by rw [HN, hz])
    clear HN hz
    go_enter Try.func13, Try.ntmps13
    go_wp2_with (first
    | (with_reducible refine at_op (o := ⟨some 1, _, _, _, _, _⟩) ?_; refine wpList_boxI rfl 23 _ rfl .u8 xb rfl ?_; intro w1 A1 s1 b1)
    | (with_reducible refine at_op (o := ⟨some 2, _, _, _, _, _⟩) ?_; refine wpList_allocI rfl 23 rfl .u8 32 zero_a32 ?_; intro w2 A2 s2 b2; have X2 := A1.below b2)
    | (go_at_call 23; refine (LL _ X2).mono ?_; rintro e w3 ⟨rfl, b3⟩; have R3 := A2.below b3)
    | (with_reducible refine at_op (o := ⟨some 3, _, _, _, _, _⟩) ?_; refine wpList_allocI rfl 35 rfl .u64 4 zero_num ?_; intro w4 A4 s4 b4; have R4 := R3.below b4)
    | (with_reducible refine at_op (o := ⟨_, .store 35 _ _, _, _, _, _⟩) ?_; refine wpList_storeI rfl 35 _ _ rfl 4 info_num (w3.heap.size) rfl .u64 _ (numW 4 n) rfl (A4) (rfl) (numW_length _ _) ?_; intro E)
    | (with_reducible refine at_op (o := ⟨some 8, _, _, _, _, _⟩) ?_; refine wpList_loadI rfl 35 _ rfl 4 33 und_num info_num (w3.heap.size) rfl .u64 (numW 4 n) (E) (numW_length _ _) ?_)
    | (with_reducible refine at_op (o := ⟨some 9, _, _, _, _, _⟩) ?_; refine wpList_buildI rfl 35 _ rfl .u64 [0, 0, 0, 0] _ built_num0 rfl ?_)
    | (with_reducible refine at_op (o := ⟨some 10, _, _, _, _, _⟩) ?_; refine wpList_eqlI rfl 35 _ 33 _ _ rfl 4 und_num .u64 .u64 Try.underlying33 (by kernel_rfl) (by kernel_rfl) (numW 4 n) [0, 0, 0, 0] rfl rfl (numW_length _ _) rfl true HB ?_)
    | (with_reducible refine at_op (o := ⟨some 11, _, _, _, _, _⟩) ?_; refine wpList_buildI rfl 23 _ rfl .u8 (List.replicate 32 0) _ built_a32 rfl ?_)
    | (with_reducible refine at_op (o := ⟨_, .store 23 _ _, _, _, _, _⟩) ?_; refine wpList_storeI rfl 23 _ _ rfl 32 info_a32 (w1.heap.size) rfl .u8 _ (List.replicate 32 0) rfl (R4.rowOther (by have := b3.size; omega) _) (rfl) (rfl) ?_; intro A9))
    refine bodyPost_ret (results_cellI rfl _ 32 5 und_a32 info_a32 (w1.heap.size) rfl .u8 _ A9 rfl) rfl ?_
    exact ⟨by rw [HZ.out], Below.setRow (Below.setRow (below_then (below_then (below_then b1 b2) b3) b4) (by have := b3.size; omega) _) (by omega) _⟩
  · rw [if_neg h0] at HN
    have HB := HB.trans (decide_eq_false h0)
    clear h0
    have HN := Lib.hid HN
    go_enter Try.func13, Try.ntmps13
    go_wp2_with (first
    | (with_reducible refine at_op (o := ⟨some 1, _, _, _, _, _⟩) ?_; refine wpList_boxI rfl 23 _ rfl .u8 xb rfl ?_; intro w1 A1 s1 b1)
    | (with_reducible refine at_op (o := ⟨some 2, _, _, _, _, _⟩) ?_; refine wpList_allocI rfl 23 rfl .u8 32 zero_a32 ?_; intro w2 A2 s2 b2; have X2 := A1.below b2)
    | (go_at_call 23; refine (LL _ X2).mono ?_; rintro e w3 ⟨rfl, b3⟩; have R3 := A2.below b3)
    | (with_reducible refine at_op (o := ⟨some 3, _, _, _, _, _⟩) ?_; refine wpList_allocI rfl 35 rfl .u64 4 zero_num ?_; intro w4 A4 s4 b4; have R4 := R3.below b4)
    | (with_reducible refine at_op (o := ⟨_, .store 35 _ _, _, _, _, _⟩) ?_; refine wpList_storeI rfl 35 _ _ rfl 4 info_num (w3.heap.size) rfl .u64 _ (numW 4 n) rfl (A4) (rfl) (numW_length _ _) ?_; intro E)
    | (with_reducible refine at_op (o := ⟨some 8, _, _, _, _, _⟩) ?_; refine wpList_loadI rfl 35 _ rfl 4 33 und_num info_num (w3.heap.size) rfl .u64 (numW 4 n) (E) (numW_length _ _) ?_)
    | (with_reducible refine at_op (o := ⟨some 9, _, _, _, _, _⟩) ?_; refine wpList_buildI rfl 35 _ rfl .u64 [0, 0, 0, 0] _ built_num0 rfl ?_)
    | (with_reducible refine at_op (o := ⟨some 10, _, _, _, _, _⟩) ?_; refine wpList_eqlI rfl 35 _ 33 _ _ rfl 4 und_num .u64 .u64 Try.underlying33 (by kernel_rfl) (by kernel_rfl) (numW 4 n) [0, 0, 0, 0] rfl rfl (numW_length _ _) rfl false HB ?_))
    have hs3 := b3.size
    have R := R4.rowOther (B' := w3.heap.size) (by omega) ((numW 4 n).map (Value.int .u64)).toArray
    have hbel := Below.setRow (below_then (below_then (below_then b1 b2) b3) b4) (g := w3.heap.size) (by omega) ((numW 4 n).map (Value.int .u64)).toArray
    obtain ⟨WB, hWB1, hWs⟩ : ∃ WB, w4.heap.size ≤ WB ∧ WB ≤ (w4.setRow (w3.heap.size) ((numW 4 n).map (Value.int .u64)).toArray).heap.size := ⟨w4.heap.size, Nat.le_refl _, by rw [World.size_setRow2]; exact Nat.le_refl _⟩
    clear HB
    refine wp_region_ord [[], [], [0, 1, 0], [2], [3], [3], [], [6, 4, 2, 0, 1, 2, 3, 4, 6], [5, 7, 0, 1, 2, 3, 4, 5, 6, 7]] [some 13, some 14, some 15, some 12, some 16, some 17, some 4, none, some 5] 7 (fun b w' => Arr .u8 w' w1.heap.size (List.replicate 32 0) ∧ Arr .u64 w' (w3.heap.size) (numW 4 n) ∧ WB ≤ w'.heap.size ∧ Below w.heap.size w w') (fun opn f wo => match opn with | 0 => f 0 = aggI .u64 (numW 4 ordV) | 1 => f 1 = aggI .u64 (numW 4 n) | 2 => f 2 = .tuple #[aggI .u64 (numW 4 ((ordV - n) % 2 ^ 256)), .int .u64 (if ordV < n then 1 else 0)] | 3 => f 3 = .tuple #[aggI .u64 (numW 4 ((ordV - n) % 2 ^ 256)), .int .u64 (if ordV < n then 1 else 0)] | 4 => f 4 = aggI .u64 (numW 4 ((ordV - n) % 2 ^ 256)) | 5 => f 5 = .int .u64 (if ordV < n then 1 else 0) | 6 => ∃ B, f 6 = .pointer (some ⟨B, 0, none⟩) ∧ WB ≤ B ∧ ∃ zs : List Int, zs.length = 4 ∧ Arr .u64 wo B zs | 7 => ∃ B, f 6 = .pointer (some ⟨B, 0, none⟩) ∧ WB ≤ B ∧ Arr .u64 wo B (numW 4 ((ordV - n) % 2 ^ 256)) | 8 => f 8 = .int .u64 (if ordV < n then 1 else 0) | _ => True) (fun f v v' => ∃ B, f 6 = .pointer (some ⟨B, 0, none⟩) ∧ WB ≤ B ∧ ∃ ys : List Int, ys.length = 4 ∧ v' = v.setRow B (ys.map (Value.int .u64)).toArray) (by kernel_rfl) (by kernel_rfl) (by kernel_rfl) (by kernel_rfl) (fun b v v' hb h => ⟨h.1.below hb, h.2.1.below hb, Nat.le_trans h.2.2.1 hb.size, below_then h.2.2.2 hb⟩) (fun opn f v v' hb h => by
        match opn, h with
        | 6, h => obtain ⟨B, h1, h2, zs, h3, h4⟩ := h; exact ⟨B, h1, h2, zs, h3, h4.below hb⟩
        | 7, h => obtain ⟨B, h1, h2, h3⟩ := h; exact ⟨B, h1, h2, h3.below hb⟩
        | 0, h => exact h
        | 1, h => exact h
        | 2, h => exact h
        | 3, h => exact h
        | 4, h => exact h
        | 5, h => exact h
        | 8, h => exact h
        | _ + 9, h => trivial)
      (fun opn f f' v v' hne hS h => by
        obtain ⟨B', -, hB', ys, hys, rfl⟩ := hS
        match opn, hne, h with
        | 6, _, h =>
          obtain ⟨B, h1, h2, zs, h3, h4⟩ := h
          by_cases e : B = B'
          · subst e; exact ⟨B, h1, h2, ys, hys, h4.setRow ys⟩
          · exact ⟨B, h1, h2, zs, h3, h4.rowOther e _⟩
        | 7, hne, _ => exact (hne rfl).elim
        | 0, _, h => exact h
        | 1, _, h => exact h
        | 2, _, h => exact h
        | 3, _, h => exact h
        | 4, _, h => exact h
        | 5, _, h => exact h
        | 8, _, h => exact h
        | _ + 9, _, h => trivial) ⟨R.drew, E.drew, hWs, hbel.drew⟩ ?_ ?_
    ·
      refine StepL.other (k := 0) rfl (fun b f W hb hG hH => ?_) ?_
      · -- 0
        obtain rfl := hb rfl
        clear hH
        generalize hA : putL _ _ _ _ = A
        clear hA
        refine Does.call rfl _ _ (by go_simp) ((ref_L_v W).mono ?_)
        rintro e w' ⟨rfl, hb'⟩
        exact ⟨_, rfl, hb', rfl⟩
      refine StepL.other (k := 1) rfl (fun b f W hb hG hH => ?_) ?_
      · -- 1
        obtain rfl := hb rfl
        clear hH
        generalize hA : putL _ _ _ _ = A
        have q3 : A.eval (.tmp 3) = .pointer (some ⟨w3.heap.size, 0, none⟩) := by rw [← hA]; exact putL_none rfl rfl rfl rfl
        have r3 : A.tmps[3]?.getD undef = .pointer (some ⟨w3.heap.size, 0, none⟩) := slot_get q3
        clear hA
        exact Does.loadI rfl 35 _ rfl 4 33 und_num info_num (w3.heap.size) q3 .u64 (numW 4 n) (hG.2.1) (numW_length _ _) ⟨Below.refl _ _, rfl⟩
      refine StepL.other (k := 2) rfl (fun b f W hb hG hH => ?_) ?_
      · -- 2
        obtain rfl := hb rfl
        obtain ⟨d0, d1, -, -⟩ : (f 0 = aggI .u64 (numW 4 ordV)) ∧ (f 1 = aggI .u64 (numW 4 n)) ∧ (f 0 = aggI .u64 (numW 4 ordV)) ∧ True := hH
        generalize hA : putL _ _ _ _ = A
        have q13 : A.eval (.tmp 13) = aggI .u64 (numW 4 ordV) := by rw [← hA]; exact putL_look rfl rfl rfl d0
        have r13 : A.tmps[13]?.getD undef = aggI .u64 (numW 4 ordV) := slot_get q13
        have q14 : A.eval (.tmp 14) = aggI .u64 (numW 4 n) := by rw [← hA]; exact putL_look rfl rfl rfl d1
        have r14 : A.tmps[14]?.getD undef = aggI .u64 (numW 4 n) := slot_get q14
        clear hA
        refine Does.call rfl _ _ (by go_simp) ((ref_minus_v ordV n W ordV_lt hn2).mono ?_)
        rintro e w' ⟨rfl, hb'⟩
        exact ⟨_, rfl, hb', rfl⟩
      refine StepL.other (k := 3) rfl (fun b f W hb hG hH => ?_) ?_
      · -- 3
        obtain rfl := hb rfl
        obtain ⟨d2, -⟩ : (f 2 = .tuple #[aggI .u64 (numW 4 ((ordV - n) % 2 ^ 256)), .int .u64 (if ordV < n then 1 else 0)]) ∧ True := hH
        generalize hA : putL _ _ _ _ = A
        have q15 : A.eval (.tmp 15) = .tuple #[aggI .u64 (numW 4 ((ordV - n) % 2 ^ 256)), .int .u64 (if ordV < n then 1 else 0)] := by rw [← hA]; exact putL_look rfl rfl rfl d2
        have r15 : A.tmps[15]?.getD undef = .tuple #[aggI .u64 (numW 4 ((ordV - n) % 2 ^ 256)), .int .u64 (if ordV < n then 1 else 0)] := slot_get q15
        clear hA
        refine Does.pure rfl (.tuple #[aggI .u64 (numW 4 ((ordV - n) % 2 ^ 256)), .int .u64 (if ordV < n then 1 else 0)]) ?_ ⟨Below.refl _ _, rfl⟩
        go_simp
      refine StepL.other (k := 4) rfl (fun b f W hb hG hH => ?_) ?_
      · -- 4
        obtain rfl := hb rfl
        obtain ⟨d3, -⟩ : (f 3 = .tuple #[aggI .u64 (numW 4 ((ordV - n) % 2 ^ 256)), .int .u64 (if ordV < n then 1 else 0)]) ∧ True := hH
        generalize hA : putL _ _ _ _ = A
        have q12 : A.eval (.tmp 12) = .tuple #[aggI .u64 (numW 4 ((ordV - n) % 2 ^ 256)), .int .u64 (if ordV < n then 1 else 0)] := by rw [← hA]; exact putL_look rfl rfl rfl d3
        have r12 : A.tmps[12]?.getD undef = .tuple #[aggI .u64 (numW 4 ((ordV - n) % 2 ^ 256)), .int .u64 (if ordV < n then 1 else 0)] := slot_get q12
        clear hA
        refine Does.pure rfl (aggI .u64 (numW 4 ((ordV - n) % 2 ^ 256))) ?_ ⟨Below.refl _ _, rfl⟩
        go_simp
      refine StepL.other (k := 5) rfl (fun b f W hb hG hH => ?_) ?_
      · -- 5
        obtain ⟨d3, -⟩ : (f 3 = .tuple #[aggI .u64 (numW 4 ((ordV - n) % 2 ^ 256)), .int .u64 (if ordV < n then 1 else 0)]) ∧ True := hH
        generalize hA : putL _ _ _ _ = A
        have q12 : A.eval (.tmp 12) = .tuple #[aggI .u64 (numW 4 ((ordV - n) % 2 ^ 256)), .int .u64 (if ordV < n then 1 else 0)] := by rw [← hA]; exact putL_look rfl rfl rfl d3
        have r12 : A.tmps[12]?.getD undef = .tuple #[aggI .u64 (numW 4 ((ordV - n) % 2 ^ 256)), .int .u64 (if ordV < n then 1 else 0)] := slot_get q12
        clear hA
        refine Does.pure rfl (.int .u64 (if ordV < n then 1 else 0)) ?_ ⟨Below.refl _ _, rfl⟩
        go_simp
      refine StepL.other (k := 6) rfl (fun b f W hb hG hH => ?_) ?_
      · -- 6
        obtain rfl := hb rfl
        clear hH
        generalize hA : putL _ _ _ _ = A
        clear hA
        refine Does.allocI rfl 35 rfl .u64 4 zero_num ?_
        intro W1 D1 s1 b1'
        exact ⟨b1', _, rfl, hG.2.2.1, _, by simp, D1⟩
      refine StepL.self (k := 7) rfl (fun f W hG hH => ?_) ?_
      · -- 7
        obtain ⟨d6, d4, d2, d0, d1, -, d3, -, -, -⟩ : (∃ B, f 6 = .pointer (some ⟨B, 0, none⟩) ∧ WB ≤ B ∧ ∃ zs : List Int, zs.length = 4 ∧ Arr .u64 W B zs) ∧ (f 4 = aggI .u64 (numW 4 ((ordV - n) % 2 ^ 256))) ∧ (f 2 = .tuple #[aggI .u64 (numW 4 ((ordV - n) % 2 ^ 256)), .int .u64 (if ordV < n then 1 else 0)]) ∧ (f 0 = aggI .u64 (numW 4 ordV)) ∧ (f 1 = aggI .u64 (numW 4 n)) ∧ (f 2 = .tuple #[aggI .u64 (numW 4 ((ordV - n) % 2 ^ 256)), .int .u64 (if ordV < n then 1 else 0)]) ∧ (f 3 = .tuple #[aggI .u64 (numW 4 ((ordV - n) % 2 ^ 256)), .int .u64 (if ordV < n then 1 else 0)]) ∧ (f 4 = aggI .u64 (numW 4 ((ordV - n) % 2 ^ 256))) ∧ (∃ B, f 6 = .pointer (some ⟨B, 0, none⟩) ∧ WB ≤ B ∧ ∃ zs : List Int, zs.length = 4 ∧ Arr .u64 W B zs) ∧ True := hH
        generalize hA : putL _ _ _ _ = A
        have q4 : A.eval (.tmp 4) = f 6 := by rw [← hA]; exact putL_look rfl rfl rfl rfl
        have r4 : A.tmps[4]?.getD undef = f 6 := slot_get q4
        have q16 : A.eval (.tmp 16) = aggI .u64 (numW 4 ((ordV - n) % 2 ^ 256)) := by rw [← hA]; exact putL_look rfl rfl rfl d4
        have r16 : A.tmps[16]?.getD undef = aggI .u64 (numW 4 ((ordV - n) % 2 ^ 256)) := slot_get q16
        clear hA
        obtain ⟨B, hB, hWB, zs, hzl, hZ⟩ := d6
        rw [hB] at q4
        refine Does.storeI rfl 35 _ _ rfl 4 info_num B q4 .u64 zs _ q16 hZ hzl (numW_length _ _) ?_
        intro A9
        refine ⟨⟨B, hB, hWB, _, numW_length _ _, rfl⟩, ⟨hG.1.rowOther (by omega) _, hG.2.1.rowOther (by omega) _, ?_, Below.setRow hG.2.2.2 (by omega) _⟩, B, hB, hWB, A9⟩
        rw [World.size_setRow2]
        exact hG.2.2.1
      refine StepL.other (k := 8) rfl (fun b f W hb hG hH => ?_) ?_
      · -- 8
        obtain ⟨d5, d7, d0, d1, d2, d3, d4, -, d6, -, -⟩ : (f 5 = .int .u64 (if ordV < n then 1 else 0)) ∧ (∃ B, f 6 = .pointer (some ⟨B, 0, none⟩) ∧ WB ≤ B ∧ Arr .u64 W B (numW 4 ((ordV - n) % 2 ^ 256))) ∧ (f 0 = aggI .u64 (numW 4 ordV)) ∧ (f 1 = aggI .u64 (numW 4 n)) ∧ (f 2 = .tuple #[aggI .u64 (numW 4 ((ordV - n) % 2 ^ 256)), .int .u64 (if ordV < n then 1 else 0)]) ∧ (f 3 = .tuple #[aggI .u64 (numW 4 ((ordV - n) % 2 ^ 256)), .int .u64 (if ordV < n then 1 else 0)]) ∧ (f 4 = aggI .u64 (numW 4 ((ordV - n) % 2 ^ 256))) ∧ (f 5 = .int .u64 (if ordV < n then 1 else 0)) ∧ (∃ B, f 6 = .pointer (some ⟨B, 0, none⟩) ∧ WB ≤ B ∧ ∃ zs : List Int, zs.length = 4 ∧ Arr .u64 W B zs) ∧ (∃ B, f 6 = .pointer (some ⟨B, 0, none⟩) ∧ WB ≤ B ∧ Arr .u64 W B (numW 4 ((ordV - n) % 2 ^ 256))) ∧ True := hH
        generalize hA : putL _ _ _ _ = A
        have q17 : A.eval (.tmp 17) = .int .u64 (if ordV < n then 1 else 0) := by rw [← hA]; exact putL_look rfl rfl rfl d5
        have r17 : A.tmps[17]?.getD undef = .int .u64 (if ordV < n then 1 else 0) := slot_get q17
        clear hA
        refine Does.pure rfl (.int .u64 (if ordV < n then 1 else 0)) ?_ ⟨Below.refl _ _, rfl⟩
        go_simp
      exact trivial
    ·
      intro f W hG hH
      obtain ⟨d0, d1, d2, d3, d4, d5, d6, d7, d8, -⟩ : (f 0 = aggI .u64 (numW 4 ordV)) ∧ (f 1 = aggI .u64 (numW 4 n)) ∧ (f 2 = .tuple #[aggI .u64 (numW 4 ((ordV - n) % 2 ^ 256)), .int .u64 (if ordV < n then 1 else 0)]) ∧ (f 3 = .tuple #[aggI .u64 (numW 4 ((ordV - n) % 2 ^ 256)), .int .u64 (if ordV < n then 1 else 0)]) ∧ (f 4 = aggI .u64 (numW 4 ((ordV - n) % 2 ^ 256))) ∧ (f 5 = .int .u64 (if ordV < n then 1 else 0)) ∧ (∃ B, f 6 = .pointer (some ⟨B, 0, none⟩) ∧ WB ≤ B ∧ ∃ zs : List Int, zs.length = 4 ∧ Arr .u64 W B zs) ∧ (∃ B, f 6 = .pointer (some ⟨B, 0, none⟩) ∧ WB ≤ B ∧ Arr .u64 W B (numW 4 ((ordV - n) % 2 ^ 256))) ∧ (f 8 = .int .u64 (if ordV < n then 1 else 0)) ∧ True := hH
      rw [show List.range (List.length [[], [], [0, 1, 0], [2], [3], [3], [], [6, 4, 2, 0, 1, 2, 3, 4, 6], [5, 7, 0, 1, 2, 3, 4, 5, 6, 7]]) = [0, 1, 2, 3, 4, 5, 6, 7, 8] from rfl]
      simp only [putL, List.getElem?_cons_zero, List.getElem?_cons_succ, Option.join, Option.bind_some, id_eq, Act.put, List.setIfInBounds_toArray, List.set_cons_zero, List.set_cons_succ, d0, d1, d2, d3, d4, d5, d8]
      clear d0 d1 d2 d3 d4 d5 d8
      obtain ⟨R, -, hWs, hbel⟩ := hG
      obtain ⟨B, hB, hWB, D⟩ := d7
      clear d6
      simp only [hB]
      rw [HDF.out] at D
      go_wp2_with (first
          | (with_reducible refine at_op (o := ⟨some 18, _, _, _, _, _⟩) ?_; refine wpList_loadI rfl 35 _ rfl 4 33 und_num info_num (B) rfl .u64 (numW 4 (ordV - n)) (D) (numW_length _ _) ?_)
          | (go_at_call 19; refine (ref_bytes_v _ _).mono ?_; rintro e w12 ⟨rfl, b12⟩; replace R := R.below b12; replace hbel := below_then hbel b12)
          | (with_reducible refine at_op (o := ⟨_, .store 23 _ _, _, _, _, _⟩) ?_; refine wpList_storeI rfl 23 _ _ rfl 32 info_a32 (w1.heap.size) rfl .u8 _ (numB (ordV - n)) rfl (R) (rfl) (numB_length _) ?_; intro A9))
      refine bodyPost_ret (results_cellI rfl _ 32 5 und_a32 info_a32 (w1.heap.size) rfl .u8 _ A9 (numB_length _)) rfl ?_
      exact ⟨by first | rfl | rw [HN.out], Below.setRow hbel (by omega) _⟩
end Go.Proofs.Yteocdjgdljfpdaa
