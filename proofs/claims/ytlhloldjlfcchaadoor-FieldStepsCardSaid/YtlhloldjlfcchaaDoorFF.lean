/- Numbers of five limbs: the same, odd, negative. -/
import Derived.Test.YtlhloldjlfcchaaDoorFE
namespace Go.Proofs.YtlhloldjlfcchaaDoor
open Go.RowKit Go.Shelf
set_option linter.unusedVariables false
set_option maxRecDepth 8000

theorem fel_mod {xs : List Int} {u : Int} (h : Fel xs u) : 0 ≤ u ∧ u < pV := by rw [← h.val]; exact pV_mod _
theorem pV_lt : (0 : Int) ≤ pV ∧ pV < 2 ^ 256 := by decide +kernel
theorem numB_same {u v : Int} (hu : 0 ≤ u ∧ u < pV) (hv : 0 ≤ v ∧ v < pV) : decide (numB u = numB v) = decide (u = v) := by
  have := pV_lt
  exact decide_eq_decide.2 ⟨fun h => numB_inj ⟨hu.1, by omega⟩ ⟨hv.1, by omega⟩ h, fun h => by rw [h]⟩
theorem bytes_v (xs : List Int) (u : Int) (w : World) (hx : Fel xs u) : Calls Tryd.prog 31 #[aggI .u64 xs] w fun e w' => e = .returned (aggI .u8 (numB u)) ∧ Below w.heap.size w w' := by
  have h := fbytes_any xs w hx.words hx.len
  rw [hx.val] at h
  exact h
set_option maxHeartbeats 2000000 in
theorem same_any (xs ys : List Int) (u v : Int) (w : World) (hx : Fel xs u) (hy : Fel ys v) :
    Calls Tryd.prog 57 #[aggI .u64 xs, aggI .u64 ys] w fun e w' => e = .returned (.bool (decide (u = v))) ∧ Below w.heap.size w w' := by
  have BX := fun W => bytes_v xs u W hx
  have BY := fun W => bytes_v ys v W hy
  have hd := numB_same (fel_mod hx) (fel_mod hy)
  go_enter Tryd.func57, Tryd.ntmps57
  go_wp2_with (first
    | (with_reducible refine at_op (o := ⟨some 2, _, _, _, _, _⟩) ?_; refine wpList_boxI rfl 38 _ rfl .u64 xs rfl ?_; intro w1 A1 s1 b1)
    | (with_reducible refine at_op (o := ⟨some 3, _, _, _, _, _⟩) ?_; refine wpList_boxI rfl 38 _ rfl .u64 ys rfl ?_; intro w2 A2 s2 b2; have X2 := A1.below b2))
  refine wp_region_ord [[], [0], [], [2, 1], [1, 3], [4, 3, 0, 1, 2, 3, 4]] [some 5, some 6, some 7, some 8, some 9, some 4] 6 (fun b w' => Arr .u64 w' w.heap.size xs ∧ Arr .u64 w' w1.heap.size ys ∧ Below w.heap.size w w') (fun opn f _ => match opn with | 0 => f 0 = aggI .u64 xs | 1 => f 1 = aggI .u8 (numB u) | 2 => f 2 = aggI .u64 ys | 3 => f 3 = aggI .u8 (numB v) | 4 => f 4 = .bool (decide (u = v)) | 5 => f 5 = .bool (decide (u = v)) | _ => True) (fun _ _ _ => True) (by kernel_rfl) (by kernel_rfl) (by kernel_rfl) (by kernel_rfl) (fun b v v' hb h => ⟨h.1.below hb, h.2.1.below hb, below_then h.2.2 hb⟩) (fun _ _ _ _ _ h => h) (fun _ _ _ _ _ _ _ h => h) ⟨X2.drew, A2.drew, (below_then b1 b2).drew⟩ ?_ ?_
  ·
    refine StepL.other (k := 0) rfl (fun b f W hb hG hH => ?_) ?_
    · -- 0
      clear hH
      generalize hA : putL _ _ _ _ = A
      have q2 : A.eval (.tmp 2) = .pointer (some ⟨w.heap.size, 0, none⟩) := by rw [← hA]; exact putL_none rfl rfl rfl rfl
      have r2 : A.tmps[2]?.getD undef = .pointer (some ⟨w.heap.size, 0, none⟩) := slot_get q2
      clear hA
      exact Does.loadI rfl 38 _ rfl 5 33 und_limbs info_limbs (w.heap.size) q2 .u64 (xs) (hG.1) (hx.len) ⟨Below.refl _ _, rfl⟩
    refine StepL.other (k := 1) rfl (fun b f W hb hG hH => ?_) ?_
    · -- 1
      obtain ⟨d0, -⟩ : (f 0 = aggI .u64 xs) ∧ True := hH
      generalize hA : putL _ _ _ _ = A
      have q5 : A.eval (.tmp 5) = aggI .u64 xs := by rw [← hA]; exact putL_look rfl rfl rfl d0
      have r5 : A.tmps[5]?.getD undef = aggI .u64 xs := slot_get q5
      clear hA
      refine Does.call rfl _ _ (by go_simp) ((BX W).mono ?_)
      rintro e w' ⟨rfl, hb'⟩
      exact ⟨_, rfl, hb', rfl⟩
    refine StepL.other (k := 2) rfl (fun b f W hb hG hH => ?_) ?_
    · -- 2
      clear hH
      generalize hA : putL _ _ _ _ = A
      have q3 : A.eval (.tmp 3) = .pointer (some ⟨w1.heap.size, 0, none⟩) := by rw [← hA]; exact putL_none rfl rfl rfl rfl
      have r3 : A.tmps[3]?.getD undef = .pointer (some ⟨w1.heap.size, 0, none⟩) := slot_get q3
      clear hA
      exact Does.loadI rfl 38 _ rfl 5 33 und_limbs info_limbs (w1.heap.size) q3 .u64 (ys) (hG.2.1) (hy.len) ⟨Below.refl _ _, rfl⟩
    refine StepL.other (k := 3) rfl (fun b f W hb hG hH => ?_) ?_
    · -- 3
      obtain ⟨d2, d1, -⟩ : (f 2 = aggI .u64 ys) ∧ (f 1 = aggI .u8 (numB u)) ∧ True := hH
      generalize hA : putL _ _ _ _ = A
      have q7 : A.eval (.tmp 7) = aggI .u64 ys := by rw [← hA]; exact putL_look rfl rfl rfl d2
      have r7 : A.tmps[7]?.getD undef = aggI .u64 ys := slot_get q7
      clear hA
      refine Does.call rfl _ _ (by go_simp) ((BY W).mono ?_)
      rintro e w' ⟨rfl, hb'⟩
      exact ⟨_, rfl, hb', rfl⟩
    refine StepL.other (k := 4) rfl (fun b f W hb hG hH => ?_) ?_
    · -- 4
      obtain ⟨d1, d3, -⟩ : (f 1 = aggI .u8 (numB u)) ∧ (f 3 = aggI .u8 (numB v)) ∧ True := hH
      generalize hA : putL _ _ _ _ = A
      have q6 : A.eval (.tmp 6) = aggI .u8 (numB u) := by rw [← hA]; exact putL_look rfl rfl rfl d1
      have r6 : A.tmps[6]?.getD undef = aggI .u8 (numB u) := slot_get q6
      have q8 : A.eval (.tmp 8) = aggI .u8 (numB v) := by rw [← hA]; exact putL_look rfl rfl rfl d3
      have r8 : A.tmps[8]?.getD undef = aggI .u8 (numB v) := slot_get q8
      clear hA
      exact Does.eqlI rfl 22 _ 5 _ _ rfl 32 und_a32 .u8 .u8 Tryd.underlying5 (by kernel_rfl) (by kernel_rfl) (numB u) (numB v) q6 q8 (numB_length _) (numB_length _) (decide (u = v)) (hd) ⟨Below.refl _ _, rfl⟩
    refine StepL.other (k := 5) rfl (fun b f W hb hG hH => ?_) ?_
    · -- 5
      obtain ⟨d4, d3, d0, d1, d2, -, -, -⟩ : (f 4 = .bool (decide (u = v))) ∧ (f 3 = aggI .u8 (numB v)) ∧ (f 0 = aggI .u64 xs) ∧ (f 1 = aggI .u8 (numB u)) ∧ (f 2 = aggI .u64 ys) ∧ (f 3 = aggI .u8 (numB v)) ∧ (f 4 = .bool (decide (u = v))) ∧ True := hH
      generalize hA : putL _ _ _ _ = A
      have q9 : A.eval (.tmp 9) = .bool (decide (u = v)) := by rw [← hA]; exact putL_look rfl rfl rfl d4
      have r9 : A.tmps[9]?.getD undef = .bool (decide (u = v)) := slot_get q9
      clear hA
      refine Does.pure rfl (.bool (decide (u = v))) ?_ ⟨Below.refl _ _, rfl⟩
      go_simp
    exact trivial
  ·
    intro f W hG hH
    obtain ⟨d0, d1, d2, d3, d4, d5, -⟩ : (f 0 = aggI .u64 xs) ∧ (f 1 = aggI .u8 (numB u)) ∧ (f 2 = aggI .u64 ys) ∧ (f 3 = aggI .u8 (numB v)) ∧ (f 4 = .bool (decide (u = v))) ∧ (f 5 = .bool (decide (u = v))) ∧ True := hH
    rw [show List.range (List.length [[], [0], [], [2, 1], [1, 3], [4, 3, 0, 1, 2, 3, 4]]) = [0, 1, 2, 3, 4, 5] from rfl]
    simp only [putL, List.getElem?_cons_zero, List.getElem?_cons_succ, Option.join, Option.bind_some, id_eq, Act.put, List.setIfInBounds_toArray, List.set_cons_zero, List.set_cons_succ, d0, d1, d2, d3, d4, d5]
    clear d0 d1 d2 d3 d4 d5
    go_wp2
    go_ret
    exact ⟨rfl, hG.2.2⟩
set_option maxHeartbeats 2000000 in
theorem odd_any (xs : List Int) (u : Int) (w : World) (hx : Fel xs u) :
    Calls Tryd.prog 58 #[aggI .u64 xs] w fun e w' => e = .returned (.bool (decide (u % 2 = 1))) ∧ Below w.heap.size w w' := by
  have BX := fun W => bytes_v xs u W hx
  have hxl := hx.len
  have hu := fel_mod hx
  have hi := fun W => run_indexI (P := Tryd.prog) (w := W) 22 32 5 und_a32 _ Tryd.underlying5 rfl (by kernel_rfl) .u8 (numB u) (numB_length _) 0 (by omega) (by omega)
  have h0 := at0_numB u 0 (by omega)
  have hb := u8_and_one ((numB_bytes u).at 0)
  have e : at0 (numB u) 0 % 2 = u % 2 := by rw [h0]; simp only [Nat.mul_zero, Int.pow_zero, Int.ediv_one]; omega
  rw [e] at hb
  have hi0 : ∀ W, (Instr.index 22 (aggI .u8 (numB u)) (.int .i64 0)).run Tryd.prog W = .ok (.int .u8 (at0 (numB u) 0)) W := hi
  clear hi h0 e
  generalize at0 (numB u) 0 = q at *
  go_enter Tryd.func58, Tryd.ntmps58
  go_wp2_with (first
    | (with_reducible refine at_op (o := ⟨some 1, _, _, _, _, _⟩) ?_; refine wpList_boxI rfl 38 _ rfl .u64 xs rfl ?_; intro w1 A1 s1 b1)
    | (with_reducible refine at_op (o := ⟨some 3, _, _, _, _, _⟩) ?_; refine wpList_loadI rfl 38 _ rfl 5 33 und_limbs info_limbs (w.heap.size) rfl .u64 (xs) (A1) (hxl) ?_)
    | (go_at_call 31; refine (BX _).mono ?_; rintro e w2 ⟨rfl, b2⟩))
  go_ret
  refine ⟨?_, below_then b1 b2⟩
  by_cases h : u % 2 = 1
  · simp [h]
  · simp [h]
theorem built_limbs0 : Tryd.prog.built 38 [] = some (([0, 0, 0, 0, 0] : List Int).map (Value.int .u64)).toArray := by kernel_rfl
theorem zero_fel : Fel [0, 0, 0, 0, 0] 0 := ⟨rfl, small_of5 (by omega) (by omega) (by omega) (by omega) (by omega), by decide +kernel⟩
set_option maxHeartbeats 2000000 in
theorem negative_any (xs : List Int) (u : Int) (w : World) (hx : Fel xs u) :
    Calls Tryd.prog 59 #[aggI .u64 xs] w fun e w' => e = .returned (aggI .u64 (carriedS (minusL [0, 0, 0, 0, 0] xs))) ∧ Below w.heap.size w w' := by
  have hxl := hx.len
  go_enter Tryd.func59, Tryd.ntmps59
  go_wp2_with (first
    | (with_reducible refine at_op (o := ⟨some 1, _, _, _, _, _⟩) ?_; refine wpList_boxI rfl 38 _ rfl .u64 xs rfl ?_; intro w1 A1 s1 b1)
    | (with_reducible refine at_op (o := ⟨some 2, _, _, _, _, _⟩) ?_; refine wpList_allocI rfl 38 rfl .u64 5 zero_limbs ?_; intro w2 A2 s2 b2; have X2 := A1.below b2)
    | (with_reducible refine at_op (o := ⟨some 3, _, _, _, _, _⟩) ?_; refine wpList_buildI rfl 38 _ rfl .u64 [0, 0, 0, 0, 0] _ built_limbs0 rfl ?_)
    | (with_reducible refine at_op (o := ⟨some 4, _, _, _, _, _⟩) ?_; refine wpList_loadI rfl 38 _ rfl 5 33 und_limbs info_limbs (w.heap.size) rfl .u64 (xs) (X2) (hxl) ?_)
    | (go_at_call 35; refine (minus_any _ _ _ zero_fel.small hx.small rfl hxl).mono ?_; rintro e w3 ⟨rfl, b3⟩; have R3 := A2.below b3)
    | (with_reducible refine at_op (o := ⟨_, .store 38 _ _, _, _, _, _⟩) ?_; refine wpList_storeI rfl 38 _ _ rfl 5 info_limbs (w1.heap.size) rfl .u64 _ (carriedS (minusL [0, 0, 0, 0, 0] xs)) rfl (R3) (rfl) (rfl) ?_; intro A9))
  refine bodyPost_ret (results_cellI rfl _ 5 33 und_limbs info_limbs (w1.heap.size) rfl .u64 _ A9 rfl) rfl ?_
  exact ⟨rfl, Below.setRow (below_then (below_then b1 b2) b3) (by omega) _⟩
end Go.Proofs.YtlhloldjlfcchaaDoor
