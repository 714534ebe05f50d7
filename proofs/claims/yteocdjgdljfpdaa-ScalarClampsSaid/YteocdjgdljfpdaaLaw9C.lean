/- The law on what is clamped, walked. -/
import Derived.Test.YteocdjgdljfpdaaAlive9
namespace Go.Proofs.Yteocdjgdljfpdaa
open Go.RowKit Go.Shelf
set_option linter.unusedVariables false
set_option maxRecDepth 8000

theorem at0_clampS (za : List Int) (hl : za.length = 32) (j : Nat) : at0 (clampS za) j = if j = 31 then at0 za 31 % 64 + 64 else if j = 0 then at0 za 0 / 8 * 8 else at0 za j := by
  unfold clampS
  rw [at0_set _ 31 j _ (by simp [hl])]
  by_cases e : j = 31
  · rw [if_pos e, if_pos e]
  · rw [if_neg e, if_neg e, at0_set za 0 j _ (by omega)]
theorem clampS_length (za : List Int) (hl : za.length = 32) : (clampS za).length = 32 := by simp [clampS, hl]
theorem clampS_bytes {za : List Int} (hb : Bytes za) (hl : za.length = 32) : Bytes (clampS za) := by
  intro x hx
  obtain ⟨i, hi, rfl⟩ := List.getElem_of_mem hx
  have h := at0_clampS za hl i
  rw [at0_lt hi] at h
  rw [h]
  have := hb.at i; have := hb.at 0; have := hb.at 31
  split <;> (try split) <;> omega
theorem clampS_twice (za : List Int) (hl : za.length = 32) : clampS (clampS za) = clampS za := by
  have h2 := clampS_length za hl
  apply eq_of_all (by rw [clampS_length _ h2, h2])
  intro j hj
  rw [at0_clampS _ h2, at0_clampS za hl 31, at0_clampS za hl 0, at0_clampS za hl j]
  simp only [if_true, show (0 : Nat) ≠ 31 by decide, if_false]
  split
  · omega
  · split <;> omega
theorem clampS_right {za : List Int} (hb : Bytes za) (hl : za.length = 32) : ltL (clampS za) = false := by
  have hcb := clampS_bytes hb hl
  unfold ltL
  rw [load_eq _ hcb 4, show 8 * 4 = 32 from rfl, ordL_eq, numW_val (valB_32 _ hcb).1 (valB_32 _ hcb).2, numW_val ordV_lt.1 ordV_lt.2]
  have h31 := at0_clampS za hl 31
  rw [if_pos rfl] at h31
  have h1 := valB_lt (clampS za) hcb 31
  have h2 := hb.at 31
  have e : valB (clampS za) 32 = valB (clampS za) 31 + at0 (clampS za) 31 * 2 ^ (8 * 31) := rfl
  rw [e, h31]
  clear e h31 hcb
  apply decide_eq_false
  unfold ordV
  simp only [Nat.reduceMul, Int.reducePow] at *
  omega

set_option maxHeartbeats 4000000 in
theorem law_clamps (za : List Int) (w : World) (hb : Bytes za) (hl : za.length = 32) :
    Calls Try.prog 6 #[aggI .u8 za] w fun e w' => e = .returned (.bool true) ∧ Below w.heap.size w w' := by
  have hcl := clampS_length za hl
  have HC : ∀ W, Calls Try.prog 14 #[aggI .u8 (clampS za)] W fun e w' => e = .returned (aggI .u8 (clampS za)) ∧ Below W.heap.size W w' := by
    intro W
    have h := clamp_any (clampS za) W (clampS_bytes hb hl) hcl
    rw [clampS_twice za hl] at h
    exact h
  have HR : ∀ W, Calls Try.prog 10 #[aggI .u8 (clampS za)] W fun e w' => e = .returned (.bool false) ∧ Below W.heap.size W w' := by
    intro W
    have h := right_any (clampS za) W (clampS_bytes hb hl) hcl
    rw [clampS_right hb hl] at h
    exact h
  have HJ : ∀ j, 1 ≤ j → j < 31 → at0 (clampS za) j = at0 za j := by
    intro j h1 h2
    rw [at0_clampS za hl, if_neg (by omega), if_neg (by omega)]
  have h0 := at0_clampS za hl 0
  have h31 := at0_clampS za hl 31
  rw [if_neg (by decide), if_pos rfl] at h0
  rw [if_pos rfl] at h31
  have p0 := hb.at 0
  have p31 := hb.at 31
  have d0 : at0 (clampS za) 0 / 8 = at0 za 0 / 8 := by omega
  have d1 : at0 (clampS za) 31 % 64 = at0 za 31 % 64 := by omega
  have d2 : at0 (clampS za) 0 % 8 = 0 := by omega
  have d3 : at0 (clampS za) 31 / 64 = 1 := by omega
  have r0 : 0 ≤ at0 (clampS za) 0 ∧ at0 (clampS za) 0 ≤ 255 := by omega
  have r31 : 0 ≤ at0 (clampS za) 31 ∧ at0 (clampS za) 31 ≤ 255 := by omega
  clear h0 h31
  have HJ := Lib.hid HJ
  go_enter Try.func6, Try.ntmps6
  go_wp2_with (first
    | (with_reducible refine at_op (o := ⟨some 1, _, _, _, _, _⟩) ?_; refine wpList_boxI rfl 23 _ rfl .u8 za rfl ?_; intro w1 A1 s1 b1)
    | (go_at_call 7; refine (alive_v _).mono ?_; rintro e w2 ⟨rfl, b2⟩; have X2 := A1.below b2)
    | (with_reducible refine at_op (o := ⟨some 8, _, _, _, _, _⟩) ?_; refine wpList_loadI rfl 23 _ rfl 32 5 und_a32 info_a32 (w.heap.size) rfl .u8 (za) (X2) (hl) ?_)
    | (go_at_call 14; refine (clamp_any za _ hb hl).mono ?_; rintro e w3 ⟨rfl, b3⟩; have X3 := X2.below b3)
    | (with_reducible refine at_op (o := ⟨some 3, _, _, _, _, _⟩) ?_; refine wpList_allocI rfl 23 rfl .u8 32 zero_a32 ?_; intro w4 A4 s4 b4; have X4 := X3.below b4)
    | (with_reducible refine at_op (o := ⟨_, .store 23 _ _, _, _, _, _⟩) ?_; refine wpList_storeI rfl 23 _ _ rfl 32 info_a32 (w3.heap.size) rfl .u8 _ (clampS za) rfl (A4) (rfl) (hcl) ?_; intro C; have hs3 := b3.size; have hs2 := b2.size; have A := X4.rowOther (B' := w3.heap.size) (by omega) ((clampS za).map (Value.int .u8)).toArray; have hbel := Below.setRow (below_then (below_then (below_then b1 b2) b3) b4) (g := w3.heap.size) (by omega) ((clampS za).map (Value.int .u8)).toArray; have c0 := C.cell (k := 0) (by omega); have c31 := C.cell (k := 31) (by omega); have a0 := A.cell (k := 0) (by omega); have a31 := A.cell (k := 31) (by omega)))
  clear c0 c31 a0 a31
  go_loopw [4, 5] (fun sm i wr => ∃ (k : Nat), 1 ≤ k ∧ k ≤ 31 ∧ sm = .bool true ∧ i = .int .i64 k ∧ Arr .u8 wr w.heap.size za ∧ Arr .u8 wr w3.heap.size (clampS za) ∧ Below w.heap.size w wr) (fun _ i _ => 31 - (intOf i).toNat)
  case atStart => exact ⟨1, by omega, by omega, rfl, rfl, A, C, hbel⟩
  case round =>
    clear A C hbel
    obtain ⟨k, hk1, hk, rfl, rfl, A, C, hbel⟩ := hrel
    by_cases hlt : k < 31
    · have e := HJ.out k hk1 hlt
      have c0 := A.cell (k := k) (by omega)
      have c1 := C.cell (k := k) (by omega)
      rw [e] at c1
      clear e
      go_wp2
      go_quiet (fail)
      go_wp2
      exact ⟨⟨k + 1, by omega, by omega, rfl, by go_num, A.drewN _, C.drewN _, below_drewN hbel _⟩, by simp [intOf]; omega⟩
    · obtain rfl : k = 31 := by omega
      go_wp2
      refine wp_region_ord [[], [0], [1], [2, 1, 1], [1], [3, 4, 1], [1, 5], [6, 3], [7], [8, 7], [9, 7], [10, 7], [7, 11], [12, 7], [13], [14, 13], [15, 13], [16, 13], [13, 17], [18, 13], [19], [20, 19, 19], [21, 19], [19, 22], [23, 21, 0, 1, 2, 3, 4, 5, 6, 7, 8, 9, 10, 11, 12, 13, 14, 15, 16, 17, 18, 19, 20, 21, 22, 23]] [some 40, some 41, some 42, some 43, some 44, some 45, some 46, some 47, some 48, some 49, some 50, some 51, some 52, some 53, some 54, some 55, some 56, some 57, some 58, some 59, some 60, some 61, some 62, some 63, some 2] 25 (fun b w' => Arr .u8 w' w.heap.size za ∧ Arr .u8 w' (w3.heap.size) (clampS za) ∧ Below w.heap.size w w') (fun opn f _ => match opn with | 0 => f 0 = .bool true | 1 => f 1 = .bool true | 2 => f 2 = aggI .u8 (clampS za) | 3 => f 3 = aggI .u8 (clampS za) | 4 => f 4 = aggI .u8 (clampS za) | 5 => f 5 = .bool true | 6 => f 6 = .bool true | 7 => f 7 = .bool true | 8 => f 8 = .pointer (some ⟨w3.heap.size, 0, none⟩) | 9 => f 9 = .int .u8 (at0 (clampS za) 0) | 10 => f 10 = .int .u8 0 | 11 => f 11 = .bool true | 12 => f 12 = .bool true | 13 => f 13 = .bool true | 14 => f 14 = .pointer (some ⟨w3.heap.size, 31, none⟩) | 15 => f 15 = .int .u8 (at0 (clampS za) 31) | 16 => f 16 = .int .u8 1 | 17 => f 17 = .bool true | 18 => f 18 = .bool true | 19 => f 19 = .bool true | 20 => f 20 = aggI .u8 (clampS za) | 21 => f 21 = .bool false | 22 => f 22 = .bool true | 23 => f 23 = .bool true | 24 => f 24 = .bool true | _ => True) (fun _ _ _ => True) (by kernel_rfl) (by kernel_rfl) (by kernel_rfl) (by kernel_rfl) (fun b v v' hb h => ⟨h.1.below hb, h.2.1.below hb, below_then h.2.2 hb⟩) (fun _ _ _ _ _ h => h) (fun _ _ _ _ _ _ _ h => h) ⟨A.drew, C.drew, hbel.drew⟩ ?_ ?_
      ·
        refine StepL.other (k := 0) rfl (fun b f W hb hG hH => ?_) ?_
        · -- 0
          clear hH
          generalize hA : putL _ _ _ _ = A
          have q4 : A.eval (.tmp 4) = .bool true := by rw [← hA]; exact putL_none rfl rfl rfl rfl
          have r4 : A.tmps[4]?.getD undef = .bool true := slot_get q4
          clear hA
          refine Does.pure rfl (.bool true) ?_ ⟨Below.refl _ _, rfl⟩
          go_simp
        refine StepL.other (k := 1) rfl (fun b f W hb hG hH => ?_) ?_
        · -- 1
          obtain ⟨d0, -⟩ : (f 0 = .bool true) ∧ True := hH
          generalize hA : putL _ _ _ _ = A
          have q40 : A.eval (.tmp 40) = .bool true := by rw [← hA]; exact putL_look rfl rfl rfl d0
          have r40 : A.tmps[40]?.getD undef = .bool true := slot_get q40
          clear hA
          refine Does.pure rfl (.bool true) ?_ ⟨Below.refl _ _, rfl⟩
          go_simp
        refine StepL.other (k := 2) rfl (fun b f W hb hG hH => ?_) ?_
        · -- 2
          obtain ⟨d1, -⟩ : (f 1 = .bool true) ∧ True := hH
          generalize hA : putL _ _ _ _ = A
          have q3 : A.eval (.tmp 3) = .pointer (some ⟨w3.heap.size, 0, none⟩) := by rw [← hA]; exact putL_none rfl rfl rfl rfl
          have r3 : A.tmps[3]?.getD undef = .pointer (some ⟨w3.heap.size, 0, none⟩) := slot_get q3
          have q41 : A.eval (.tmp 41) = .bool true := by rw [← hA]; exact putL_look rfl rfl rfl d1
          have r41 : A.tmps[41]?.getD undef = .bool true := slot_get q41
          clear hA
          exact Does.loadI (wanted_of (b := true) rfl rfl q41) 23 _ rfl 32 5 und_a32 info_a32 (w3.heap.size) q3 .u8 (clampS za) (hG.2.1) (hcl) ⟨Below.refl _ _, rfl⟩
        refine StepL.other (k := 3) rfl (fun b f W hb hG hH => ?_) ?_
        · -- 3
          obtain ⟨d2, d1, -, -⟩ : (f 2 = aggI .u8 (clampS za)) ∧ (f 1 = .bool true) ∧ (f 1 = .bool true) ∧ True := hH
          generalize hA : putL _ _ _ _ = A
          have q42 : A.eval (.tmp 42) = aggI .u8 (clampS za) := by rw [← hA]; exact putL_look rfl rfl rfl d2
          have r42 : A.tmps[42]?.getD undef = aggI .u8 (clampS za) := slot_get q42
          have q41 : A.eval (.tmp 41) = .bool true := by rw [← hA]; exact putL_look rfl rfl rfl d1
          have r41 : A.tmps[41]?.getD undef = .bool true := slot_get q41
          clear hA
          refine Does.call (wanted_of (b := true) rfl rfl q41) _ _ (by go_simp) ((HC W).mono ?_)
          rintro e w' ⟨rfl, hb'⟩
          exact ⟨_, rfl, hb', rfl⟩
        refine StepL.other (k := 4) rfl (fun b f W hb hG hH => ?_) ?_
        · -- 4
          obtain ⟨d1, -⟩ : (f 1 = .bool true) ∧ True := hH
          generalize hA : putL _ _ _ _ = A
          have q3 : A.eval (.tmp 3) = .pointer (some ⟨w3.heap.size, 0, none⟩) := by rw [← hA]; exact putL_none rfl rfl rfl rfl
          have r3 : A.tmps[3]?.getD undef = .pointer (some ⟨w3.heap.size, 0, none⟩) := slot_get q3
          have q41 : A.eval (.tmp 41) = .bool true := by rw [← hA]; exact putL_look rfl rfl rfl d1
          have r41 : A.tmps[41]?.getD undef = .bool true := slot_get q41
          clear hA
          exact Does.loadI (wanted_of (b := true) rfl rfl q41) 23 _ rfl 32 5 und_a32 info_a32 (w3.heap.size) q3 .u8 (clampS za) (hG.2.1) (hcl) ⟨Below.refl _ _, rfl⟩
        refine StepL.other (k := 5) rfl (fun b f W hb hG hH => ?_) ?_
        · -- 5
          obtain ⟨d3, d4, d1, -⟩ : (f 3 = aggI .u8 (clampS za)) ∧ (f 4 = aggI .u8 (clampS za)) ∧ (f 1 = .bool true) ∧ True := hH
          generalize hA : putL _ _ _ _ = A
          have q43 : A.eval (.tmp 43) = aggI .u8 (clampS za) := by rw [← hA]; exact putL_look rfl rfl rfl d3
          have r43 : A.tmps[43]?.getD undef = aggI .u8 (clampS za) := slot_get q43
          have q44 : A.eval (.tmp 44) = aggI .u8 (clampS za) := by rw [← hA]; exact putL_look rfl rfl rfl d4
          have r44 : A.tmps[44]?.getD undef = aggI .u8 (clampS za) := slot_get q44
          have q41 : A.eval (.tmp 41) = .bool true := by rw [← hA]; exact putL_look rfl rfl rfl d1
          have r41 : A.tmps[41]?.getD undef = .bool true := slot_get q41
          clear hA
          exact Does.eqlI (wanted_of (b := true) rfl rfl q41) 23 _ 5 _ _ rfl 32 und_a32 .u8 .u8 Try.underlying5 (by kernel_rfl) (by kernel_rfl) (clampS za) (clampS za) q43 q44 (hcl) (hcl) true (by simp) ⟨Below.refl _ _, rfl⟩
        refine StepL.other (k := 6) rfl (fun b f W hb hG hH => ?_) ?_
        · -- 6
          obtain ⟨d1, d5, -⟩ : (f 1 = .bool true) ∧ (f 5 = .bool true) ∧ True := hH
          generalize hA : putL _ _ _ _ = A
          have q41 : A.eval (.tmp 41) = .bool true := by rw [← hA]; exact putL_look rfl rfl rfl d1
          have r41 : A.tmps[41]?.getD undef = .bool true := slot_get q41
          have q45 : A.eval (.tmp 45) = .bool true := by rw [← hA]; exact putL_look rfl rfl rfl d5
          have r45 : A.tmps[45]?.getD undef = .bool true := slot_get q45
          clear hA
          refine Does.pure rfl (.bool true) ?_ ⟨Below.refl _ _, rfl⟩
          go_simp
        refine StepL.other (k := 7) rfl (fun b f W hb hG hH => ?_) ?_
        · -- 7
          obtain ⟨d6, d3, -⟩ : (f 6 = .bool true) ∧ (f 3 = aggI .u8 (clampS za)) ∧ True := hH
          generalize hA : putL _ _ _ _ = A
          have q46 : A.eval (.tmp 46) = .bool true := by rw [← hA]; exact putL_look rfl rfl rfl d6
          have r46 : A.tmps[46]?.getD undef = .bool true := slot_get q46
          clear hA
          refine Does.pure rfl (.bool true) ?_ ⟨Below.refl _ _, rfl⟩
          go_simp
        refine StepL.other (k := 8) rfl (fun b f W hb hG hH => ?_) ?_
        · -- 8
          obtain ⟨d7, -⟩ : (f 7 = .bool true) ∧ True := hH
          generalize hA : putL _ _ _ _ = A
          have q3 : A.eval (.tmp 3) = .pointer (some ⟨w3.heap.size, 0, none⟩) := by rw [← hA]; exact putL_none rfl rfl rfl rfl
          have r3 : A.tmps[3]?.getD undef = .pointer (some ⟨w3.heap.size, 0, none⟩) := slot_get q3
          have q47 : A.eval (.tmp 47) = .bool true := by rw [← hA]; exact putL_look rfl rfl rfl d7
          have r47 : A.tmps[47]?.getD undef = .bool true := slot_get q47
          clear hA
          refine Does.pure (wanted_of (b := true) rfl rfl q47) (.pointer (some ⟨w3.heap.size, 0, none⟩)) ?_ ⟨Below.refl _ _, rfl⟩
          go_simp
        refine StepL.other (k := 9) rfl (fun b f W hb hG hH => ?_) ?_
        · -- 9
          obtain ⟨d8, d7, -⟩ : (f 8 = .pointer (some ⟨w3.heap.size, 0, none⟩)) ∧ (f 7 = .bool true) ∧ True := hH
          generalize hA : putL _ _ _ _ = A
          have q48 : A.eval (.tmp 48) = .pointer (some ⟨w3.heap.size, 0, none⟩) := by rw [← hA]; exact putL_look rfl rfl rfl d8
          have r48 : A.tmps[48]?.getD undef = .pointer (some ⟨w3.heap.size, 0, none⟩) := slot_get q48
          have q47 : A.eval (.tmp 47) = .bool true := by rw [← hA]; exact putL_look rfl rfl rfl d7
          have r47 : A.tmps[47]?.getD undef = .bool true := slot_get q47
          clear hA
          have c0 := hG.2.1.cell (k := 0) (by omega)
          refine Does.pure (wanted_of (b := true) rfl rfl q47) (.int .u8 (at0 (clampS za) 0)) ?_ ⟨Below.refl _ _, rfl⟩
          go_simp
        refine StepL.other (k := 10) rfl (fun b f W hb hG hH => ?_) ?_
        · -- 10
          obtain ⟨d9, d7, -⟩ : (f 9 = .int .u8 (at0 (clampS za) 0)) ∧ (f 7 = .bool true) ∧ True := hH
          generalize hA : putL _ _ _ _ = A
          have q49 : A.eval (.tmp 49) = .int .u8 (at0 (clampS za) 0) := by rw [← hA]; exact putL_look rfl rfl rfl d9
          have r49 : A.tmps[49]?.getD undef = .int .u8 (at0 (clampS za) 0) := slot_get q49
          have q47 : A.eval (.tmp 47) = .bool true := by rw [← hA]; exact putL_look rfl rfl rfl d7
          have r47 : A.tmps[47]?.getD undef = .bool true := slot_get q47
          clear hA
          refine Does.pure (wanted_of (b := true) rfl rfl q47) (.int .u8 0) ?_ ⟨Below.refl _ _, rfl⟩
          have e := d2
          have e2 : (at0 (clampS za) 0).tmod 8 = at0 (clampS za) 0 % 8 := Int.tmod_eq_emod_of_nonneg r0.1
          rw [d2] at e2
          go_simp
        refine StepL.other (k := 11) rfl (fun b f W hb hG hH => ?_) ?_
        · -- 11
          obtain ⟨d10, d7, -⟩ : (f 10 = .int .u8 0) ∧ (f 7 = .bool true) ∧ True := hH
          generalize hA : putL _ _ _ _ = A
          have q50 : A.eval (.tmp 50) = .int .u8 0 := by rw [← hA]; exact putL_look rfl rfl rfl d10
          have r50 : A.tmps[50]?.getD undef = .int .u8 0 := slot_get q50
          have q47 : A.eval (.tmp 47) = .bool true := by rw [← hA]; exact putL_look rfl rfl rfl d7
          have r47 : A.tmps[47]?.getD undef = .bool true := slot_get q47
          clear hA
          refine Does.pure (wanted_of (b := true) rfl rfl q47) (.bool true) ?_ ⟨Below.refl _ _, rfl⟩
          go_simp
        refine StepL.other (k := 12) rfl (fun b f W hb hG hH => ?_) ?_
        · -- 12
          obtain ⟨d7, d11, -⟩ : (f 7 = .bool true) ∧ (f 11 = .bool true) ∧ True := hH
          generalize hA : putL _ _ _ _ = A
          have q47 : A.eval (.tmp 47) = .bool true := by rw [← hA]; exact putL_look rfl rfl rfl d7
          have r47 : A.tmps[47]?.getD undef = .bool true := slot_get q47
          have q51 : A.eval (.tmp 51) = .bool true := by rw [← hA]; exact putL_look rfl rfl rfl d11
          have r51 : A.tmps[51]?.getD undef = .bool true := slot_get q51
          clear hA
          refine Does.pure rfl (.bool true) ?_ ⟨Below.refl _ _, rfl⟩
          go_simp
        refine StepL.other (k := 13) rfl (fun b f W hb hG hH => ?_) ?_
        · -- 13
          obtain ⟨d12, d7, -⟩ : (f 12 = .bool true) ∧ (f 7 = .bool true) ∧ True := hH
          generalize hA : putL _ _ _ _ = A
          have q52 : A.eval (.tmp 52) = .bool true := by rw [← hA]; exact putL_look rfl rfl rfl d12
          have r52 : A.tmps[52]?.getD undef = .bool true := slot_get q52
          clear hA
          refine Does.pure rfl (.bool true) ?_ ⟨Below.refl _ _, rfl⟩
          go_simp
        refine StepL.other (k := 14) rfl (fun b f W hb hG hH => ?_) ?_
        · -- 14
          obtain ⟨d13, -⟩ : (f 13 = .bool true) ∧ True := hH
          generalize hA : putL _ _ _ _ = A
          have q3 : A.eval (.tmp 3) = .pointer (some ⟨w3.heap.size, 0, none⟩) := by rw [← hA]; exact putL_none rfl rfl rfl rfl
          have r3 : A.tmps[3]?.getD undef = .pointer (some ⟨w3.heap.size, 0, none⟩) := slot_get q3
          have q53 : A.eval (.tmp 53) = .bool true := by rw [← hA]; exact putL_look rfl rfl rfl d13
          have r53 : A.tmps[53]?.getD undef = .bool true := slot_get q53
          clear hA
          refine Does.pure (wanted_of (b := true) rfl rfl q53) (.pointer (some ⟨w3.heap.size, 31, none⟩)) ?_ ⟨Below.refl _ _, rfl⟩
          go_simp
        refine StepL.other (k := 15) rfl (fun b f W hb hG hH => ?_) ?_
        · -- 15
          obtain ⟨d14, d13, -⟩ : (f 14 = .pointer (some ⟨w3.heap.size, 31, none⟩)) ∧ (f 13 = .bool true) ∧ True := hH
          generalize hA : putL _ _ _ _ = A
          have q54 : A.eval (.tmp 54) = .pointer (some ⟨w3.heap.size, 31, none⟩) := by rw [← hA]; exact putL_look rfl rfl rfl d14
          have r54 : A.tmps[54]?.getD undef = .pointer (some ⟨w3.heap.size, 31, none⟩) := slot_get q54
          have q53 : A.eval (.tmp 53) = .bool true := by rw [← hA]; exact putL_look rfl rfl rfl d13
          have r53 : A.tmps[53]?.getD undef = .bool true := slot_get q53
          clear hA
          have c0 := hG.2.1.cell (k := 31) (by omega)
          refine Does.pure (wanted_of (b := true) rfl rfl q53) (.int .u8 (at0 (clampS za) 31)) ?_ ⟨Below.refl _ _, rfl⟩
          go_simp
        refine StepL.other (k := 16) rfl (fun b f W hb hG hH => ?_) ?_
        · -- 16
          obtain ⟨d15, d13, -⟩ : (f 15 = .int .u8 (at0 (clampS za) 31)) ∧ (f 13 = .bool true) ∧ True := hH
          generalize hA : putL _ _ _ _ = A
          have q55 : A.eval (.tmp 55) = .int .u8 (at0 (clampS za) 31) := by rw [← hA]; exact putL_look rfl rfl rfl d15
          have r55 : A.tmps[55]?.getD undef = .int .u8 (at0 (clampS za) 31) := slot_get q55
          have q53 : A.eval (.tmp 53) = .bool true := by rw [← hA]; exact putL_look rfl rfl rfl d13
          have r53 : A.tmps[53]?.getD undef = .bool true := slot_get q53
          clear hA
          refine Does.pure (wanted_of (b := true) rfl rfl q53) (.int .u8 1) ?_ ⟨Below.refl _ _, rfl⟩
          have e2 : (at0 (clampS za) 31).tdiv 64 = at0 (clampS za) 31 / 64 := Int.tdiv_eq_ediv_of_nonneg r31.1
          rw [d3] at e2
          have e3 : IntKind.u8.wrap 1 = 1 := by decide
          go_simp
        refine StepL.other (k := 17) rfl (fun b f W hb hG hH => ?_) ?_
        · -- 17
          obtain ⟨d16, d13, -⟩ : (f 16 = .int .u8 1) ∧ (f 13 = .bool true) ∧ True := hH
          generalize hA : putL _ _ _ _ = A
          have q56 : A.eval (.tmp 56) = .int .u8 1 := by rw [← hA]; exact putL_look rfl rfl rfl d16
          have r56 : A.tmps[56]?.getD undef = .int .u8 1 := slot_get q56
          have q53 : A.eval (.tmp 53) = .bool true := by rw [← hA]; exact putL_look rfl rfl rfl d13
          have r53 : A.tmps[53]?.getD undef = .bool true := slot_get q53
          clear hA
          refine Does.pure (wanted_of (b := true) rfl rfl q53) (.bool true) ?_ ⟨Below.refl _ _, rfl⟩
          go_simp
        refine StepL.other (k := 18) rfl (fun b f W hb hG hH => ?_) ?_
        · -- 18
          obtain ⟨d13, d17, -⟩ : (f 13 = .bool true) ∧ (f 17 = .bool true) ∧ True := hH
          generalize hA : putL _ _ _ _ = A
          have q53 : A.eval (.tmp 53) = .bool true := by rw [← hA]; exact putL_look rfl rfl rfl d13
          have r53 : A.tmps[53]?.getD undef = .bool true := slot_get q53
          have q57 : A.eval (.tmp 57) = .bool true := by rw [← hA]; exact putL_look rfl rfl rfl d17
          have r57 : A.tmps[57]?.getD undef = .bool true := slot_get q57
          clear hA
          refine Does.pure rfl (.bool true) ?_ ⟨Below.refl _ _, rfl⟩
          go_simp
        refine StepL.other (k := 19) rfl (fun b f W hb hG hH => ?_) ?_
        · -- 19
          obtain ⟨d18, d13, -⟩ : (f 18 = .bool true) ∧ (f 13 = .bool true) ∧ True := hH
          generalize hA : putL _ _ _ _ = A
          have q58 : A.eval (.tmp 58) = .bool true := by rw [← hA]; exact putL_look rfl rfl rfl d18
          have r58 : A.tmps[58]?.getD undef = .bool true := slot_get q58
          clear hA
          refine Does.pure rfl (.bool true) ?_ ⟨Below.refl _ _, rfl⟩
          go_simp
        refine StepL.other (k := 20) rfl (fun b f W hb hG hH => ?_) ?_
        · -- 20
          obtain ⟨d19, -⟩ : (f 19 = .bool true) ∧ True := hH
          generalize hA : putL _ _ _ _ = A
          have q3 : A.eval (.tmp 3) = .pointer (some ⟨w3.heap.size, 0, none⟩) := by rw [← hA]; exact putL_none rfl rfl rfl rfl
          have r3 : A.tmps[3]?.getD undef = .pointer (some ⟨w3.heap.size, 0, none⟩) := slot_get q3
          have q59 : A.eval (.tmp 59) = .bool true := by rw [← hA]; exact putL_look rfl rfl rfl d19
          have r59 : A.tmps[59]?.getD undef = .bool true := slot_get q59
          clear hA
          exact Does.loadI (wanted_of (b := true) rfl rfl q59) 23 _ rfl 32 5 und_a32 info_a32 (w3.heap.size) q3 .u8 (clampS za) (hG.2.1) (hcl) ⟨Below.refl _ _, rfl⟩
        refine StepL.other (k := 21) rfl (fun b f W hb hG hH => ?_) ?_
        · -- 21
          obtain ⟨d20, d19, -, -⟩ : (f 20 = aggI .u8 (clampS za)) ∧ (f 19 = .bool true) ∧ (f 19 = .bool true) ∧ True := hH
          generalize hA : putL _ _ _ _ = A
          have q60 : A.eval (.tmp 60) = aggI .u8 (clampS za) := by rw [← hA]; exact putL_look rfl rfl rfl d20
          have r60 : A.tmps[60]?.getD undef = aggI .u8 (clampS za) := slot_get q60
          have q59 : A.eval (.tmp 59) = .bool true := by rw [← hA]; exact putL_look rfl rfl rfl d19
          have r59 : A.tmps[59]?.getD undef = .bool true := slot_get q59
          clear hA
          refine Does.call (wanted_of (b := true) rfl rfl q59) _ _ (by go_simp) ((HR W).mono ?_)
          rintro e w' ⟨rfl, hb'⟩
          exact ⟨_, rfl, hb', rfl⟩
        refine StepL.other (k := 22) rfl (fun b f W hb hG hH => ?_) ?_
        · -- 22
          obtain ⟨d21, d19, -⟩ : (f 21 = .bool false) ∧ (f 19 = .bool true) ∧ True := hH
          generalize hA : putL _ _ _ _ = A
          have q61 : A.eval (.tmp 61) = .bool false := by rw [← hA]; exact putL_look rfl rfl rfl d21
          have r61 : A.tmps[61]?.getD undef = .bool false := slot_get q61
          have q59 : A.eval (.tmp 59) = .bool true := by rw [← hA]; exact putL_look rfl rfl rfl d19
          have r59 : A.tmps[59]?.getD undef = .bool true := slot_get q59
          clear hA
          refine Does.pure (wanted_of (b := true) rfl rfl q59) (.bool true) ?_ ⟨Below.refl _ _, rfl⟩
          go_simp
        refine StepL.other (k := 23) rfl (fun b f W hb hG hH => ?_) ?_
        · -- 23
          obtain ⟨d19, d22, -⟩ : (f 19 = .bool true) ∧ (f 22 = .bool true) ∧ True := hH
          generalize hA : putL _ _ _ _ = A
          have q59 : A.eval (.tmp 59) = .bool true := by rw [← hA]; exact putL_look rfl rfl rfl d19
          have r59 : A.tmps[59]?.getD undef = .bool true := slot_get q59
          have q62 : A.eval (.tmp 62) = .bool true := by rw [← hA]; exact putL_look rfl rfl rfl d22
          have r62 : A.tmps[62]?.getD undef = .bool true := slot_get q62
          clear hA
          refine Does.pure rfl (.bool true) ?_ ⟨Below.refl _ _, rfl⟩
          go_simp
        refine StepL.other (k := 24) rfl (fun b f W hb hG hH => ?_) ?_
        · -- 24
          obtain ⟨d23, d21, d0, d1, d2, d3, d4, d5, d6, d7, d8, d9, d10, d11, d12, d13, d14, d15, d16, d17, d18, d19, d20, -, d22, -, -⟩ : (f 23 = .bool true) ∧ (f 21 = .bool false) ∧ (f 0 = .bool true) ∧ (f 1 = .bool true) ∧ (f 2 = aggI .u8 (clampS za)) ∧ (f 3 = aggI .u8 (clampS za)) ∧ (f 4 = aggI .u8 (clampS za)) ∧ (f 5 = .bool true) ∧ (f 6 = .bool true) ∧ (f 7 = .bool true) ∧ (f 8 = .pointer (some ⟨w3.heap.size, 0, none⟩)) ∧ (f 9 = .int .u8 (at0 (clampS za) 0)) ∧ (f 10 = .int .u8 0) ∧ (f 11 = .bool true) ∧ (f 12 = .bool true) ∧ (f 13 = .bool true) ∧ (f 14 = .pointer (some ⟨w3.heap.size, 31, none⟩)) ∧ (f 15 = .int .u8 (at0 (clampS za) 31)) ∧ (f 16 = .int .u8 1) ∧ (f 17 = .bool true) ∧ (f 18 = .bool true) ∧ (f 19 = .bool true) ∧ (f 20 = aggI .u8 (clampS za)) ∧ (f 21 = .bool false) ∧ (f 22 = .bool true) ∧ (f 23 = .bool true) ∧ True := hH
          generalize hA : putL _ _ _ _ = A
          have q63 : A.eval (.tmp 63) = .bool true := by rw [← hA]; exact putL_look rfl rfl rfl d23
          have r63 : A.tmps[63]?.getD undef = .bool true := slot_get q63
          clear hA
          refine Does.pure rfl (.bool true) ?_ ⟨Below.refl _ _, rfl⟩
          go_simp
        exact trivial
      ·
        intro f W hG hH
        obtain ⟨d0, d1, d2, d3, d4, d5, d6, d7, d8, d9, d10, d11, d12, d13, d14, d15, d16, d17, d18, d19, d20, d21, d22, d23, d24, -⟩ : (f 0 = .bool true) ∧ (f 1 = .bool true) ∧ (f 2 = aggI .u8 (clampS za)) ∧ (f 3 = aggI .u8 (clampS za)) ∧ (f 4 = aggI .u8 (clampS za)) ∧ (f 5 = .bool true) ∧ (f 6 = .bool true) ∧ (f 7 = .bool true) ∧ (f 8 = .pointer (some ⟨w3.heap.size, 0, none⟩)) ∧ (f 9 = .int .u8 (at0 (clampS za) 0)) ∧ (f 10 = .int .u8 0) ∧ (f 11 = .bool true) ∧ (f 12 = .bool true) ∧ (f 13 = .bool true) ∧ (f 14 = .pointer (some ⟨w3.heap.size, 31, none⟩)) ∧ (f 15 = .int .u8 (at0 (clampS za) 31)) ∧ (f 16 = .int .u8 1) ∧ (f 17 = .bool true) ∧ (f 18 = .bool true) ∧ (f 19 = .bool true) ∧ (f 20 = aggI .u8 (clampS za)) ∧ (f 21 = .bool false) ∧ (f 22 = .bool true) ∧ (f 23 = .bool true) ∧ (f 24 = .bool true) ∧ True := hH
        rw [show List.range (List.length [[], [0], [1], [2, 1, 1], [1], [3, 4, 1], [1, 5], [6, 3], [7], [8, 7], [9, 7], [10, 7], [7, 11], [12, 7], [13], [14, 13], [15, 13], [16, 13], [13, 17], [18, 13], [19], [20, 19, 19], [21, 19], [19, 22], [23, 21, 0, 1, 2, 3, 4, 5, 6, 7, 8, 9, 10, 11, 12, 13, 14, 15, 16, 17, 18, 19, 20, 21, 22, 23]]) = [0, 1, 2, 3, 4, 5, 6, 7, 8, 9, 10, 11, 12, 13, 14, 15, 16, 17, 18, 19, 20, 21, 22, 23, 24] from rfl]
        simp only [putL, List.getElem?_cons_zero, List.getElem?_cons_succ, Option.join, Option.bind_some, id_eq, Act.put, List.setIfInBounds_toArray, List.set_cons_zero, List.set_cons_succ, d0, d1, d2, d3, d4, d5, d6, d7, d8, d9, d10, d11, d12, d13, d14, d15, d16, d17, d18, d19, d20, d21, d22, d23, d24]
        clear d0 d1 d2 d3 d4 d5 d6 d7 d8 d9 d10 d11 d12 d13 d14 d15 d16 d17 d18 d19 d20 d21 d22 d23 d24
        go_wp2
        go_ret
        exact ⟨rfl, hG.2.2⟩
end Go.Proofs.Yteocdjgdljfpdaa
