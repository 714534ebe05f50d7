/- Package scalar's Neg. -/
import Derived.Test.YteocdjgdljfpdaaVal
namespace Go.Proofs.Yteocdjgdljfpdaa
open Go.RowKit Go.Shelf
set_option linter.unusedVariables false
set_option maxRecDepth 8000

theorem pad_num (v : Int) (hv : 0 ≤ v ∧ v < 2 ^ 256) : numW 4 v ++ (List.replicate 8 (0 : Int)).drop (numW 4 v).length = numW 8 v := by
  have h := eq_numW (numW 4 v ++ [0, 0, 0, 0]) (pad_words (numW_words 4 v)) 8 (by simp [numW])
  rw [valW_pad _ (numW_length 4 v), numW_val hv.1 hv.2] at h
  rw [numW_length, ← h]
  rfl
theorem neg_cut (xv : Int) : (if ordV - xv % ordV < ordV then ordV - xv % ordV else ordV - xv % ordV - ordV) = (-xv) % ordV := by
  unfold ordV
  split <;> omega
theorem World.size_setRow (w : World) (g : Nat) (cs : Array Value) : (w.setRow g cs).heap.size = w.heap.size := by simp [World.setRow]

set_option maxHeartbeats 4000000 in
theorem neg_v (xb : List Int) (w : World) (hxb : Bytes xb) (hxl : xb.length = 32) :
    Calls Try.prog 12 #[aggI .u8 xb] w fun e w' => e = .returned (aggI .u8 (numB ((-valB xb 32) % ordV))) ∧ Below w.heap.size w w' := by
  have LX := fun W => load_v xb W hxb hxl
  have hxv := valB_32 xb hxb
  generalize valB xb 32 = xv at *
  have hx8 : 0 ≤ xv ∧ xv < 2 ^ 256 * 2 ^ 256 := by simp only [Int.reducePow] at *; omega
  have hm : 0 ≤ xv % ordV ∧ xv % ordV < 2 ^ 256 := by unfold ordV; simp only [Int.reducePow]; omega
  have hdm : 0 ≤ ordV - xv % ordV ∧ ordV - xv % ordV < 2 ^ 256 := by unfold ordV; simp only [Int.reducePow]; omega
  have hdf : (ordV - xv % ordV) % 2 ^ 256 = ordV - xv % ordV := Int.emod_eq_of_lt hdm.1 hdm.2
  have CV := fun W => cut_v (ordV - xv % ordV) W hdm
  rw [neg_cut xv] at CV
  go_enter Try.func12, Try.ntmps12
  have HDF := Lib.hid hdf
  clear hdf
  go_wp2_with (first
    | (with_reducible refine at_op (o := ⟨some 1, _, _, _, _, _⟩) ?_; refine wpList_boxI rfl 23 _ rfl .u8 xb rfl ?_; intro w1 A1 s1 b1)
    | (with_reducible refine at_op (o := ⟨some 2, _, _, _, _, _⟩) ?_; refine wpList_allocI rfl 23 rfl .u8 32 zero_a32 ?_; intro w2 A2 s2 b2; have X2 := A1.below b2)
    | (with_reducible refine at_op (o := ⟨some 3, _, _, _, _, _⟩) ?_; refine wpList_allocI rfl 38 rfl .u64 8 zero_long ?_; intro w3 A3 s3 b3; have X3 := X2.below b3; have R3 := A2.below b3)
    | (with_reducible refine at_op (o := ⟨some 7, _, _, _, _, _⟩) ?_; refine wpList_loadI rfl 23 _ rfl 32 5 und_a32 info_a32 (w.heap.size) rfl .u8 (xb) (X3) (hxl) ?_)
    | (go_at_call 24; refine (LX _).mono ?_; rintro e w4 ⟨rfl, b4⟩; have R4 := R3.below b4; have L4 := A3.below b4)
    | (with_reducible refine at_op (o := ⟨some 4, _, _, _, _, _⟩) ?_; refine wpList_allocI rfl 39 rfl .u64 4 zero_short ?_; intro w5 A5 s5 b5; have R5 := R4.below b5; have L5 := L4.below b5)
    | (with_reducible refine at_op (o := ⟨_, .store 39 _ _, _, _, _, _⟩) ?_; refine wpList_storeI rfl 39 _ _ rfl 4 info_short (w4.heap.size) rfl .u64 _ (numW 4 xv) rfl (A5) (rfl) (numW_length _ _) ?_; intro E))
  have hs4 := b4.size
  have hdf := HDF.out
  have R := R5.rowOther (B' := w4.heap.size) (by omega) ((numW 4 xv).map (Value.int .u64)).toArray
  have D := L5.rowOther (B' := w4.heap.size) (by omega) ((numW 4 xv).map (Value.int .u64)).toArray
  have hbel := Below.setRow (below_then (below_then (below_then (below_then b1 b2) b3) b4) b5) (g := w4.heap.size) (by omega) ((numW 4 xv).map (Value.int .u64)).toArray
  have hw3 : w3.heap.size ≤ (w5.setRow (w4.heap.size) ((numW 4 xv).map (Value.int .u64)).toArray).heap.size := by rw [World.size_setRow]; omega
  clear hdf
  refine wp_region_ord [[], [], [0, 1]] [some 9, some 10, some 11] 2 (fun b w' => Arr .u8 w' w1.heap.size (List.replicate 32 0) ∧ Arr .u64 w' w2.heap.size (if b then numW 8 xv else List.replicate 8 0) ∧ Arr .u64 w' w4.heap.size (numW 4 xv) ∧ Below w.heap.size w w' ∧ w3.heap.size ≤ w'.heap.size) (fun opn f _ => match opn with | 0 => f 0 = .slice (some ⟨w2.heap.size, 0, none⟩) 8 8 | 1 => f 1 = .slice (some ⟨w4.heap.size, 0, none⟩) 4 4 | 2 => f 2 = goInt 4 | _ => True) (fun _ v v' => ∃ cs, v' = v.setRow (w2.heap.size) cs) (by kernel_rfl) (by kernel_rfl) (by kernel_rfl) (by kernel_rfl) (fun b v v' hb h => ⟨h.1.below hb, h.2.1.below hb, h.2.2.1.below hb, below_then h.2.2.2.1 hb, Nat.le_trans h.2.2.2.2 hb.size⟩) (fun _ _ _ _ _ h => h) (fun _ _ _ _ _ _ _ h => h) ⟨R.drew, D.drew, E.drew, hbel.drew, hw3⟩ ?_ ?_
  ·
    refine StepL.other (k := 0) rfl (fun b f W hb hG hH => ?_) ?_
    · -- 0
      obtain rfl := hb rfl
      clear hH
      generalize hA : putL _ _ _ _ = A
      have q3 : A.eval (.tmp 3) = .pointer (some ⟨w2.heap.size, 0, none⟩) := by rw [← hA]; exact putL_none rfl rfl rfl rfl
      have r3 : A.tmps[3]?.getD undef = .pointer (some ⟨w2.heap.size, 0, none⟩) := slot_get q3
      clear hA
      refine Does.pure rfl (.slice (some ⟨w2.heap.size, 0, none⟩) 8 8) ?_ ⟨Below.refl _ _, rfl⟩
      go_simp
    refine StepL.other (k := 1) rfl (fun b f W hb hG hH => ?_) ?_
    · -- 1
      obtain rfl := hb rfl
      clear hH
      generalize hA : putL _ _ _ _ = A
      have q4 : A.eval (.tmp 4) = .pointer (some ⟨w4.heap.size, 0, none⟩) := by rw [← hA]; exact putL_none rfl rfl rfl rfl
      have r4 : A.tmps[4]?.getD undef = .pointer (some ⟨w4.heap.size, 0, none⟩) := slot_get q4
      clear hA
      refine Does.pure rfl (.slice (some ⟨w4.heap.size, 0, none⟩) 4 4) ?_ ⟨Below.refl _ _, rfl⟩
      go_simp
    refine StepL.self (k := 2) rfl (fun f W hG hH => ?_) ?_
    · -- 2
      obtain ⟨d0, d1, -⟩ : (f 0 = .slice (some ⟨w2.heap.size, 0, none⟩) 8 8) ∧ (f 1 = .slice (some ⟨w4.heap.size, 0, none⟩) 4 4) ∧ True := hH
      generalize hA : putL _ _ _ _ = A
      have q9 : A.eval (.tmp 9) = .slice (some ⟨w2.heap.size, 0, none⟩) 8 8 := by rw [← hA]; exact putL_look rfl rfl rfl d0
      have r9 : A.tmps[9]?.getD undef = .slice (some ⟨w2.heap.size, 0, none⟩) 8 8 := slot_get q9
      have q10 : A.eval (.tmp 10) = .slice (some ⟨w4.heap.size, 0, none⟩) 4 4 := by rw [← hA]; exact putL_look rfl rfl rfl d1
      have r10 : A.tmps[10]?.getD undef = .slice (some ⟨w4.heap.size, 0, none⟩) 4 4 := slot_get q10
      clear hA
      refine Does.copyI rfl _ _ _ _ rfl 33 (by kernel_rfl) (by kernel_rfl) (w2.heap.size) (w4.heap.size) 8 4 8 4 q9 q10 .u64 (List.replicate 8 0) (numW 4 xv) hG.2.1 hG.2.2.1 (by simp) (numW_length _ _) (by omega) ?_
      rw [pad_num xv hxv]
      intro A9
      exact ⟨⟨_, rfl⟩, ⟨hG.1.rowOther (by omega) _, A9, hG.2.2.1.rowOther (by omega) _, Below.setRow hG.2.2.2.1 (by omega) _, by rw [World.size_setRow]; exact hG.2.2.2.2⟩, rfl⟩
    exact trivial
  ·
    intro f W hG hH
    obtain ⟨d0, d1, d2, -⟩ : (f 0 = .slice (some ⟨w2.heap.size, 0, none⟩) 8 8) ∧ (f 1 = .slice (some ⟨w4.heap.size, 0, none⟩) 4 4) ∧ (f 2 = goInt 4) ∧ True := hH
    rw [show List.range (List.length [[], [], [0, 1]]) = [0, 1, 2] from rfl]
    simp only [putL, List.getElem?_cons_zero, List.getElem?_cons_succ, Option.join, Option.bind_some, id_eq, Act.put, List.setIfInBounds_toArray, List.set_cons_zero, List.set_cons_succ, d0, d1, d2]
    clear d0 d1 d2
    obtain ⟨R, D, -, hbel, hw3⟩ := hG
    have D : Arr .u64 W (w2.heap.size) (numW 8 xv) := D
    obtain ⟨WB, hWB1, hWs⟩ : ∃ WB, w3.heap.size ≤ WB ∧ WB ≤ W.heap.size := ⟨w3.heap.size, Nat.le_refl _, hw3⟩
    go_wp2
    refine wp_region_ord [[], [], [1, 0], [0, 2, 2], [3], [4], [4], [], [7, 5, 3, 0, 1, 2, 3, 4, 5, 7], [6, 8, 0, 1, 2, 3, 4, 5, 6, 7, 8]] [some 13, some 14, some 15, some 16, some 12, some 17, some 18, some 5, none, some 6] 8 (fun b w' => Arr .u8 w' w1.heap.size (List.replicate 32 0) ∧ Arr .u64 w' w2.heap.size (numW 8 xv) ∧ WB ≤ w'.heap.size ∧ Below w.heap.size w w') (fun opn f wo => match opn with | 0 => f 0 = aggI .u64 (numW 4 ordV) | 1 => f 1 = aggI .u64 (numW 8 xv) | 2 => f 2 = aggI .u64 (numW 4 (xv % ordV)) | 3 => f 3 = .tuple #[aggI .u64 (numW 4 ((ordV - xv % ordV) % 2 ^ 256)), .int .u64 (if ordV < xv % ordV then 1 else 0)] | 4 => f 4 = .tuple #[aggI .u64 (numW 4 ((ordV - xv % ordV) % 2 ^ 256)), .int .u64 (if ordV < xv % ordV then 1 else 0)] | 5 => f 5 = aggI .u64 (numW 4 ((ordV - xv % ordV) % 2 ^ 256)) | 6 => f 6 = .int .u64 (if ordV < xv % ordV then 1 else 0) | 7 => ∃ B, f 7 = .pointer (some ⟨B, 0, none⟩) ∧ WB ≤ B ∧ ∃ zs : List Int, zs.length = 4 ∧ Arr .u64 wo B zs | 8 => ∃ B, f 7 = .pointer (some ⟨B, 0, none⟩) ∧ WB ≤ B ∧ Arr .u64 wo B (numW 4 ((ordV - xv % ordV) % 2 ^ 256)) | 9 => f 9 = .int .u64 (if ordV < xv % ordV then 1 else 0) | _ => True) (fun f v v' => ∃ B, f 7 = .pointer (some ⟨B, 0, none⟩) ∧ WB ≤ B ∧ ∃ ys : List Int, ys.length = 4 ∧ v' = v.setRow B (ys.map (Value.int .u64)).toArray) (by kernel_rfl) (by kernel_rfl) (by kernel_rfl) (by kernel_rfl) (fun b v v' hb h => ⟨h.1.below hb, h.2.1.below hb, Nat.le_trans h.2.2.1 hb.size, below_then h.2.2.2 hb⟩) (fun opn f v v' hb h => by
        match opn, h with
        | 7, h => obtain ⟨B, h1, h2, zs, h3, h4⟩ := h; exact ⟨B, h1, h2, zs, h3, h4.below hb⟩
        | 8, h => obtain ⟨B, h1, h2, h3⟩ := h; exact ⟨B, h1, h2, h3.below hb⟩
        | 0, h => exact h
        | 1, h => exact h
        | 2, h => exact h
        | 3, h => exact h
        | 4, h => exact h
        | 5, h => exact h
        | 6, h => exact h
        | 9, h => exact h
        | _ + 10, h => trivial)
      (fun opn f f' v v' hne hS h => by
        obtain ⟨B', -, hB', ys, hys, rfl⟩ := hS
        match opn, hne, h with
        | 7, _, h =>
          obtain ⟨B, h1, h2, zs, h3, h4⟩ := h
          by_cases e : B = B'
          · subst e; exact ⟨B, h1, h2, ys, hys, h4.setRow ys⟩
          · exact ⟨B, h1, h2, zs, h3, h4.rowOther e _⟩
        | 8, hne, _ => exact (hne rfl).elim
        | 0, _, h => exact h
        | 1, _, h => exact h
        | 2, _, h => exact h
        | 3, _, h => exact h
        | 4, _, h => exact h
        | 5, _, h => exact h
        | 6, _, h => exact h
        | 9, _, h => exact h
        | _ + 10, _, h => trivial) ⟨R.drew, D.drew, hWs, hbel.drew⟩ ?_ ?_
    ·
      refine StepL.other (k := 0) rfl (fun b f W hb hG hH => ?_) ?_
      · -- 0
        obtain rfl := hb rfl
        clear hH
        generalize hA : putL _ _ _ _ = A
        clear hA
        refine Does.call rfl _ _ (by go_simp) ((order_v W).mono ?_)
        rintro e w' ⟨rfl, hb'⟩
        exact ⟨_, rfl, hb', rfl⟩
      refine StepL.other (k := 1) rfl (fun b f W hb hG hH => ?_) ?_
      · -- 1
        obtain rfl := hb rfl
        clear hH
        generalize hA : putL _ _ _ _ = A
        have q3 : A.eval (.tmp 3) = .pointer (some ⟨w2.heap.size, 0, none⟩) := by rw [← hA]; exact putL_none rfl rfl rfl rfl
        have r3 : A.tmps[3]?.getD undef = .pointer (some ⟨w2.heap.size, 0, none⟩) := slot_get q3
        clear hA
        exact Does.loadI rfl 38 _ rfl 8 33 und_long info_long (w2.heap.size) q3 .u64 (numW 8 xv) (hG.2.1) (numW_length _ _) ⟨Below.refl _ _, rfl⟩
      refine StepL.other (k := 2) rfl (fun b f W hb hG hH => ?_) ?_
      · -- 2
        obtain rfl := hb rfl
        obtain ⟨d1, d0, -⟩ : (f 1 = aggI .u64 (numW 8 xv)) ∧ (f 0 = aggI .u64 (numW 4 ordV)) ∧ True := hH
        generalize hA : putL _ _ _ _ = A
        have q14 : A.eval (.tmp 14) = aggI .u64 (numW 8 xv) := by rw [← hA]; exact putL_look rfl rfl rfl d1
        have r14 : A.tmps[14]?.getD undef = aggI .u64 (numW 8 xv) := slot_get q14
        clear hA
        refine Does.call rfl _ _ (by go_simp) ((reduced_v xv W hx8).mono ?_)
        rintro e w' ⟨rfl, hb'⟩
        exact ⟨_, rfl, hb', rfl⟩
      refine StepL.other (k := 3) rfl (fun b f W hb hG hH => ?_) ?_
      · -- 3
        obtain rfl := hb rfl
        obtain ⟨d0, d2, -, -⟩ : (f 0 = aggI .u64 (numW 4 ordV)) ∧ (f 2 = aggI .u64 (numW 4 (xv % ordV))) ∧ (f 2 = aggI .u64 (numW 4 (xv % ordV))) ∧ True := hH
        generalize hA : putL _ _ _ _ = A
        have q13 : A.eval (.tmp 13) = aggI .u64 (numW 4 ordV) := by rw [← hA]; exact putL_look rfl rfl rfl d0
        have r13 : A.tmps[13]?.getD undef = aggI .u64 (numW 4 ordV) := slot_get q13
        have q15 : A.eval (.tmp 15) = aggI .u64 (numW 4 (xv % ordV)) := by rw [← hA]; exact putL_look rfl rfl rfl d2
        have r15 : A.tmps[15]?.getD undef = aggI .u64 (numW 4 (xv % ordV)) := slot_get q15
        clear hA
        refine Does.call rfl _ _ (by go_simp) ((less_v ordV (xv % ordV) W ordV_lt hm).mono ?_)
        rintro e w' ⟨rfl, hb'⟩
        exact ⟨_, rfl, hb', rfl⟩
      refine StepL.other (k := 4) rfl (fun b f W hb hG hH => ?_) ?_
      · -- 4
        obtain rfl := hb rfl
        obtain ⟨d3, -⟩ : (f 3 = .tuple #[aggI .u64 (numW 4 ((ordV - xv % ordV) % 2 ^ 256)), .int .u64 (if ordV < xv % ordV then 1 else 0)]) ∧ True := hH
        generalize hA : putL _ _ _ _ = A
        have q16 : A.eval (.tmp 16) = .tuple #[aggI .u64 (numW 4 ((ordV - xv % ordV) % 2 ^ 256)), .int .u64 (if ordV < xv % ordV then 1 else 0)] := by rw [← hA]; exact putL_look rfl rfl rfl d3
        have r16 : A.tmps[16]?.getD undef = .tuple #[aggI .u64 (numW 4 ((ordV - xv % ordV) % 2 ^ 256)), .int .u64 (if ordV < xv % ordV then 1 else 0)] := slot_get q16
        clear hA
        refine Does.pure rfl (.tuple #[aggI .u64 (numW 4 ((ordV - xv % ordV) % 2 ^ 256)), .int .u64 (if ordV < xv % ordV then 1 else 0)]) ?_ ⟨Below.refl _ _, rfl⟩
        go_simp
      refine StepL.other (k := 5) rfl (fun b f W hb hG hH => ?_) ?_
      · -- 5
        obtain rfl := hb rfl
        obtain ⟨d4, -⟩ : (f 4 = .tuple #[aggI .u64 (numW 4 ((ordV - xv % ordV) % 2 ^ 256)), .int .u64 (if ordV < xv % ordV then 1 else 0)]) ∧ True := hH
        generalize hA : putL _ _ _ _ = A
        have q12 : A.eval (.tmp 12) = .tuple #[aggI .u64 (numW 4 ((ordV - xv % ordV) % 2 ^ 256)), .int .u64 (if ordV < xv % ordV then 1 else 0)] := by rw [← hA]; exact putL_look rfl rfl rfl d4
        have r12 : A.tmps[12]?.getD undef = .tuple #[aggI .u64 (numW 4 ((ordV - xv % ordV) % 2 ^ 256)), .int .u64 (if ordV < xv % ordV then 1 else 0)] := slot_get q12
        clear hA
        refine Does.pure rfl (aggI .u64 (numW 4 ((ordV - xv % ordV) % 2 ^ 256))) ?_ ⟨Below.refl _ _, rfl⟩
        go_simp
      refine StepL.other (k := 6) rfl (fun b f W hb hG hH => ?_) ?_
      · -- 6
        obtain ⟨d4, -⟩ : (f 4 = .tuple #[aggI .u64 (numW 4 ((ordV - xv % ordV) % 2 ^ 256)), .int .u64 (if ordV < xv % ordV then 1 else 0)]) ∧ True := hH
        generalize hA : putL _ _ _ _ = A
        have q12 : A.eval (.tmp 12) = .tuple #[aggI .u64 (numW 4 ((ordV - xv % ordV) % 2 ^ 256)), .int .u64 (if ordV < xv % ordV then 1 else 0)] := by rw [← hA]; exact putL_look rfl rfl rfl d4
        have r12 : A.tmps[12]?.getD undef = .tuple #[aggI .u64 (numW 4 ((ordV - xv % ordV) % 2 ^ 256)), .int .u64 (if ordV < xv % ordV then 1 else 0)] := slot_get q12
        clear hA
        refine Does.pure rfl (.int .u64 (if ordV < xv % ordV then 1 else 0)) ?_ ⟨Below.refl _ _, rfl⟩
        go_simp
      refine StepL.other (k := 7) rfl (fun b f W hb hG hH => ?_) ?_
      · -- 7
        obtain rfl := hb rfl
        clear hH
        generalize hA : putL _ _ _ _ = A
        clear hA
        refine Does.allocI rfl 39 rfl .u64 4 zero_short ?_
        intro W1 D1 s1 b1'
        exact ⟨b1', _, rfl, hG.2.2.1, _, by simp, D1⟩
      refine StepL.self (k := 8) rfl (fun f W hG hH => ?_) ?_
      · -- 8
        obtain ⟨d7, d5, d3, d0, d1, d2, -, d4, -, -, -⟩ : (∃ B, f 7 = .pointer (some ⟨B, 0, none⟩) ∧ WB ≤ B ∧ ∃ zs : List Int, zs.length = 4 ∧ Arr .u64 W B zs) ∧ (f 5 = aggI .u64 (numW 4 ((ordV - xv % ordV) % 2 ^ 256))) ∧ (f 3 = .tuple #[aggI .u64 (numW 4 ((ordV - xv % ordV) % 2 ^ 256)), .int .u64 (if ordV < xv % ordV then 1 else 0)]) ∧ (f 0 = aggI .u64 (numW 4 ordV)) ∧ (f 1 = aggI .u64 (numW 8 xv)) ∧ (f 2 = aggI .u64 (numW 4 (xv % ordV))) ∧ (f 3 = .tuple #[aggI .u64 (numW 4 ((ordV - xv % ordV) % 2 ^ 256)), .int .u64 (if ordV < xv % ordV then 1 else 0)]) ∧ (f 4 = .tuple #[aggI .u64 (numW 4 ((ordV - xv % ordV) % 2 ^ 256)), .int .u64 (if ordV < xv % ordV then 1 else 0)]) ∧ (f 5 = aggI .u64 (numW 4 ((ordV - xv % ordV) % 2 ^ 256))) ∧ (∃ B, f 7 = .pointer (some ⟨B, 0, none⟩) ∧ WB ≤ B ∧ ∃ zs : List Int, zs.length = 4 ∧ Arr .u64 W B zs) ∧ True := hH
        generalize hA : putL _ _ _ _ = A
        have q5 : A.eval (.tmp 5) = f 7 := by rw [← hA]; exact putL_look rfl rfl rfl rfl
        have r5 : A.tmps[5]?.getD undef = f 7 := slot_get q5
        have q17 : A.eval (.tmp 17) = aggI .u64 (numW 4 ((ordV - xv % ordV) % 2 ^ 256)) := by rw [← hA]; exact putL_look rfl rfl rfl d5
        have r17 : A.tmps[17]?.getD undef = aggI .u64 (numW 4 ((ordV - xv % ordV) % 2 ^ 256)) := slot_get q17
        clear hA
        obtain ⟨B, hB, hWB, zs, hzl, hZ⟩ := d7
        rw [hB] at q5
        refine Does.storeI rfl 39 _ _ rfl 4 info_short B q5 .u64 zs _ q17 hZ hzl (numW_length _ _) ?_
        intro A9
        refine ⟨⟨B, hB, hWB, _, numW_length _ _, rfl⟩, ⟨hG.1.rowOther (by omega) _, hG.2.1.rowOther (by omega) _, ?_, Below.setRow hG.2.2.2 (by omega) _⟩, B, hB, hWB, A9⟩
        rw [World.size_setRow]
        exact hG.2.2.1
      refine StepL.other (k := 9) rfl (fun b f W hb hG hH => ?_) ?_
      · -- 9
        obtain ⟨d6, d8, d0, d1, d2, d3, d4, d5, -, d7, -, -⟩ : (f 6 = .int .u64 (if ordV < xv % ordV then 1 else 0)) ∧ (∃ B, f 7 = .pointer (some ⟨B, 0, none⟩) ∧ WB ≤ B ∧ Arr .u64 W B (numW 4 ((ordV - xv % ordV) % 2 ^ 256))) ∧ (f 0 = aggI .u64 (numW 4 ordV)) ∧ (f 1 = aggI .u64 (numW 8 xv)) ∧ (f 2 = aggI .u64 (numW 4 (xv % ordV))) ∧ (f 3 = .tuple #[aggI .u64 (numW 4 ((ordV - xv % ordV) % 2 ^ 256)), .int .u64 (if ordV < xv % ordV then 1 else 0)]) ∧ (f 4 = .tuple #[aggI .u64 (numW 4 ((ordV - xv % ordV) % 2 ^ 256)), .int .u64 (if ordV < xv % ordV then 1 else 0)]) ∧ (f 5 = aggI .u64 (numW 4 ((ordV - xv % ordV) % 2 ^ 256))) ∧ (f 6 = .int .u64 (if ordV < xv % ordV then 1 else 0)) ∧ (∃ B, f 7 = .pointer (some ⟨B, 0, none⟩) ∧ WB ≤ B ∧ ∃ zs : List Int, zs.length = 4 ∧ Arr .u64 W B zs) ∧ (∃ B, f 7 = .pointer (some ⟨B, 0, none⟩) ∧ WB ≤ B ∧ Arr .u64 W B (numW 4 ((ordV - xv % ordV) % 2 ^ 256))) ∧ True := hH
        generalize hA : putL _ _ _ _ = A
        have q18 : A.eval (.tmp 18) = .int .u64 (if ordV < xv % ordV then 1 else 0) := by rw [← hA]; exact putL_look rfl rfl rfl d6
        have r18 : A.tmps[18]?.getD undef = .int .u64 (if ordV < xv % ordV then 1 else 0) := slot_get q18
        clear hA
        refine Does.pure rfl (.int .u64 (if ordV < xv % ordV then 1 else 0)) ?_ ⟨Below.refl _ _, rfl⟩
        go_simp
      exact trivial
    ·
      intro f W hG hH
      obtain ⟨d0, d1, d2, d3, d4, d5, d6, d7, d8, d9, -⟩ : (f 0 = aggI .u64 (numW 4 ordV)) ∧ (f 1 = aggI .u64 (numW 8 xv)) ∧ (f 2 = aggI .u64 (numW 4 (xv % ordV))) ∧ (f 3 = .tuple #[aggI .u64 (numW 4 ((ordV - xv % ordV) % 2 ^ 256)), .int .u64 (if ordV < xv % ordV then 1 else 0)]) ∧ (f 4 = .tuple #[aggI .u64 (numW 4 ((ordV - xv % ordV) % 2 ^ 256)), .int .u64 (if ordV < xv % ordV then 1 else 0)]) ∧ (f 5 = aggI .u64 (numW 4 ((ordV - xv % ordV) % 2 ^ 256))) ∧ (f 6 = .int .u64 (if ordV < xv % ordV then 1 else 0)) ∧ (∃ B, f 7 = .pointer (some ⟨B, 0, none⟩) ∧ WB ≤ B ∧ ∃ zs : List Int, zs.length = 4 ∧ Arr .u64 W B zs) ∧ (∃ B, f 7 = .pointer (some ⟨B, 0, none⟩) ∧ WB ≤ B ∧ Arr .u64 W B (numW 4 ((ordV - xv % ordV) % 2 ^ 256))) ∧ (f 9 = .int .u64 (if ordV < xv % ordV then 1 else 0)) ∧ True := hH
      rw [show List.range (List.length [[], [], [1, 0], [0, 2, 2], [3], [4], [4], [], [7, 5, 3, 0, 1, 2, 3, 4, 5, 7], [6, 8, 0, 1, 2, 3, 4, 5, 6, 7, 8]]) = [0, 1, 2, 3, 4, 5, 6, 7, 8, 9] from rfl]
      simp only [putL, List.getElem?_cons_zero, List.getElem?_cons_succ, Option.join, Option.bind_some, id_eq, Act.put, List.setIfInBounds_toArray, List.set_cons_zero, List.set_cons_succ, d0, d1, d2, d3, d4, d5, d6, d9]
      clear d0 d1 d2 d3 d4 d5 d6 d9
      obtain ⟨R, -, hWs, hbel⟩ := hG
      obtain ⟨B, hB, hWB, D⟩ := d8
      clear d7
      simp only [hB]
      rw [HDF.out] at D
      go_wp2_with (first
          | (with_reducible refine at_op (o := ⟨some 19, _, _, _, _, _⟩) ?_; refine wpList_loadI rfl 39 _ rfl 4 33 und_short info_short (B) rfl .u64 (numW 4 (ordV - xv % ordV)) (D) (numW_length _ _) ?_)
          | (go_at_call 29; refine (CV _).mono ?_; rintro e w11 ⟨rfl, b11⟩; replace R := R.below b11; replace hbel := below_then hbel b11)
          | (go_at_call 22; refine (bytes_v _ _).mono ?_; rintro e w12 ⟨rfl, b12⟩; replace R := R.below b12; replace hbel := below_then hbel b12)
          | (with_reducible refine at_op (o := ⟨_, .store 23 _ _, _, _, _, _⟩) ?_; refine wpList_storeI rfl 23 _ _ rfl 32 info_a32 (w1.heap.size) rfl .u8 _ (numB ((-xv) % ordV)) rfl (R) (rfl) (numB_length _) ?_; intro A9))
      refine bodyPost_ret (results_cellI rfl _ 32 5 und_a32 info_a32 (w1.heap.size) rfl .u8 _ A9 (numB_length _)) rfl ?_
      exact ⟨rfl, Below.setRow hbel (by omega) _⟩
end Go.Proofs.Yteocdjgdljfpdaa
