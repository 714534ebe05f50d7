/- Merged: Numbers of five limbs: the same, odd, negative. Package field's calls on bytes. Powers and inverses in package field. The reference's p, its cut, sum and difference. The reference's difference, and its calls on bytes. The reference's calls on bytes. -/
import Derived.Test.YtelppapkffjmpaaDoorQMC
section
namespace Go.Proofs.YtelppapkffjmpaaDoor
open Go.RowKit Go.Shelf
set_option linter.unusedVariables false
set_option maxRecDepth 8000

theorem fel_mod {xs : List Int} {u : Int} (h : Fel xs u) : 0 ≤ u ∧ u < pV := by rw [← h.val]; exact pV_mod _
theorem pV_lt : (0 : Int) ≤ pV ∧ pV < 2 ^ 256 := by decide +kernel
theorem numB_same {u v : Int} (hu : 0 ≤ u ∧ u < pV) (hv : 0 ≤ v ∧ v < pV) : decide (numB u = numB v) = decide (u = v) := by
  have := pV_lt
  exact decide_eq_decide.2 ⟨fun h => numB_inj ⟨hu.1, by omega⟩ ⟨hv.1, by omega⟩ h, fun h => by rw [h]⟩
theorem bytes_v (xs : List Int) (u : Int) (w : World) (hx : Fel xs u) : Calls Tryd.prog 75 #[aggI .u64 xs] w fun e w' => e = .returned (aggI .u8 (numB u)) ∧ Below w.heap.size w w' := by
  have h := fbytes_any xs w hx.words hx.len
  rw [hx.val] at h
  exact h
set_option maxHeartbeats 2000000 in
theorem same_any (xs ys : List Int) (u v : Int) (w : World) (hx : Fel xs u) (hy : Fel ys v) :
  Calls Tryd.prog 70 #[aggI .u64 xs, aggI .u64 ys] w fun e w' => e = .returned (.bool (decide (u = v))) ∧ Below w.heap.size w w' := by
 have BX := fun W => bytes_v xs u W hx
 have BY := fun W => bytes_v ys v W hy
 have hd := numB_same (fel_mod hx) (fel_mod hy)
 go_enter Tryd.func70, Tryd.ntmps70
 go_wp2_with (first
  | (with_reducible refine at_n 2 ?_; refine wpList_boxI rfl 42 _ rfl .u64 xs rfl ?_; intro w1 A1 s1 b1)
  | (with_reducible refine at_n 3 ?_; refine wpList_boxI rfl 42 _ rfl .u64 ys rfl ?_; intro w2 A2 s2 b2; have X2 := A1.below b2))
 refine wp_region_ord [[], [0], [], [2, 1], [1, 3], [4, 3, 0, 1, 2, 3, 4]] [some 5, some 6, some 7, some 8, some 9, some 4] 6 (fun b w' => Arr .u64 w' w.heap.size xs ∧ Arr .u64 w' w1.heap.size ys ∧ Below w.heap.size w w') (fun opn f _ => match opn with | 0 => f 0 = aggI .u64 xs | 1 => f 1 = aggI .u8 (numB u) | 2 => f 2 = aggI .u64 ys | 3 => f 3 = aggI .u8 (numB v) | 4 => f 4 = .bool (decide (u = v)) | 5 => f 5 = .bool (decide (u = v)) | _ => True) (fun _ _ _ => True) (by kernel_rfl) (by kernel_rfl) (by kernel_rfl) (by kernel_rfl) (fun b v v' hb h => ⟨h.1.below hb, h.2.1.below hb, below_then h.2.2 hb⟩) (fun _ _ _ _ _ h => h) (fun _ _ _ _ _ _ _ h => h) ⟨X2.drew, A2.drew, (below_then b1 b2).drew⟩ ?_ ?_
 ·
  refine StepL.other (k := 0) rfl (fun b f W hb hG hH => ?_) ?_
  ·
   clear hH
   generalize hA : putL _ _ _ _ = A
   have q2 : A.eval (.tmp 2) = .pointer (some ⟨w.heap.size, 0, none⟩) := putLn hA 2 rfl rfl rfl
   have r2 := slot_get q2
   clear hA
   exact Does.loadI rfl 42 _ rfl 5 34 und_limbs info_limbs (w.heap.size) q2 .u64 (xs) (hG.1) (hx.len) ⟨Below.refl _ _, rfl⟩
  refine StepL.other (k := 1) rfl (fun b f W hb hG hH => ?_) ?_
  ·
   obtain ⟨d0, -⟩ := hH
   generalize hA : putL _ _ _ _ = A
   have q5 := putLl hA 5 d0 rfl rfl
   have r5 := slot_get q5
   clear hA
   refine Does.call rfl _ _ (by go_simp) ((BX W).mono ?_)
   rintro e w' ⟨rfl, hb'⟩
   exact ⟨_, rfl, hb', rfl⟩
  refine StepL.other (k := 2) rfl (fun b f W hb hG hH => ?_) ?_
  ·
   clear hH
   generalize hA : putL _ _ _ _ = A
   have q3 : A.eval (.tmp 3) = .pointer (some ⟨w1.heap.size, 0, none⟩) := putLn hA 3 rfl rfl rfl
   have r3 := slot_get q3
   clear hA
   exact Does.loadI rfl 42 _ rfl 5 34 und_limbs info_limbs (w1.heap.size) q3 .u64 (ys) (hG.2.1) (hy.len) ⟨Below.refl _ _, rfl⟩
  refine StepL.other (k := 3) rfl (fun b f W hb hG hH => ?_) ?_
  ·
   obtain ⟨d2, d1, -⟩ := hH
   generalize hA : putL _ _ _ _ = A
   have q7 := putLl hA 7 d2 rfl rfl
   have r7 := slot_get q7
   clear hA
   refine Does.call rfl _ _ (by go_simp) ((BY W).mono ?_)
   rintro e w' ⟨rfl, hb'⟩
   exact ⟨_, rfl, hb', rfl⟩
  refine StepL.other (k := 4) rfl (fun b f W hb hG hH => ?_) ?_
  ·
   obtain ⟨d1, d3, -⟩ := hH
   generalize hA : putL _ _ _ _ = A
   have q6 := putLl hA 6 d1 rfl rfl
   have r6 := slot_get q6
   have q8 := putLl hA 8 d3 rfl rfl
   have r8 := slot_get q8
   clear hA
   exact Does.eqlI rfl 22 _ 5 _ _ rfl 32 und_a32 .u8 .u8 Tryd.underlying5 (by kernel_rfl) (by kernel_rfl) (numB u) (numB v) q6 q8 (numB_length _) (numB_length _) (decide (u = v)) (hd) ⟨Below.refl _ _, rfl⟩
  refine StepL.other (k := 5) rfl (fun b f W hb hG hH => ?_) ?_
  ·
   obtain ⟨d4, d3, d0, d1, d2, -, -, -⟩ := hH
   generalize hA : putL _ _ _ _ = A
   have q9 := putLl hA 9 d4 rfl rfl
   have r9 := slot_get q9
   clear hA
   refine Does.pure rfl (.bool (decide (u = v))) ?_ ⟨Below.refl _ _, rfl⟩
   go_simp
  exact trivial
 ·
  intro f W hG hH
  obtain ⟨d0, d1, d2, d3, d4, d5, -⟩ : (f 0 = aggI .u64 xs) ∧ (f 1 = aggI .u8 (numB u)) ∧ (f 2 = aggI .u64 ys) ∧ (f 3 = aggI .u8 (numB v)) ∧ (f 4 = .bool (decide (u = v))) ∧ (f 5 = .bool (decide (u = v))) ∧ True := hH
  rw [show List.range (List.length [[], [0], [], [2, 1], [1, 3], [4, 3, 0, 1, 2, 3, 4]]) = [0, 1, 2, 3, 4, 5] from rfl]
  simp only [putL, List.getElem?_cons_zero, List.getElem?_cons_succ, Option.join, Option.bind_some, id_eq, Act.put, List.setIfInBounds_toArray, List.set_cons_zero, List.set_cons_succ, d0, d1, d2, d3, d4, d5]
  clear d0 d1 d2 d3 d4 d5
  go_wp2
  go_ret
  exact ⟨rfl, hG.2.2⟩
set_option maxHeartbeats 2000000 in
theorem odd_any (xs : List Int) (u : Int) (w : World) (hx : Fel xs u) :
    Calls Tryd.prog 76 #[aggI .u64 xs] w fun e w' => e = .returned (.bool (decide (u % 2 = 1))) ∧ Below w.heap.size w w' := by
  have BX := fun W => bytes_v xs u W hx
  have hxl := hx.len
  have hu := fel_mod hx
  have hi := fun W => run_indexI (P := Tryd.prog) (w := W) 22 32 5 und_a32 _ Tryd.underlying5 rfl (by kernel_rfl) .u8 (numB u) (numB_length _) 0 (by omega) (by omega)
  have h0 := at0_numB u 0 (by omega)
  have hb := u8_and_one ((numB_bytes u).at 0)
  have e : at0 (numB u) 0 % 2 = u % 2 := by rw [h0]; simp only [Nat.mul_zero, Int.pow_zero, Int.ediv_one]; omega
  rw [e] at hb
  have hi0 : ∀ W, (Instr.index 22 (aggI .u8 (numB u)) (.int .i64 0)).run Tryd.prog W = .ok (.int .u8 (at0 (numB u) 0)) W := hi
  clear hi h0 e
  generalize at0 (numB u) 0 = q at *
  go_enter Tryd.func76, Tryd.ntmps76
  go_wp2_with (first
    | (with_reducible refine at_n 1 ?_; refine wpList_boxI rfl 42 _ rfl .u64 xs rfl ?_; intro w1 A1 s1 b1)
    | (with_reducible refine at_n 3 ?_; refine wpList_loadI rfl 42 _ rfl 5 34 und_limbs info_limbs (w.heap.size) rfl .u64 (xs) (A1) (hxl) ?_)
    | (go_at_call 75; refine (BX _).mono ?_; rintro e w2 ⟨rfl, b2⟩))
  go_ret
  refine ⟨?_, below_then b1 b2⟩
  by_cases h : u % 2 = 1
  · simp [h]
  · simp [h]
theorem built_limbs0 : Tryd.prog.built 42 [] = some (([0, 0, 0, 0, 0] : List Int).map (Value.int .u64)).toArray := by kernel_rfl
theorem zero_fel : Fel [0, 0, 0, 0, 0] 0 := ⟨rfl, small_of5 (by omega) (by omega) (by omega) (by omega) (by omega), by decide +kernel⟩
set_option maxHeartbeats 2000000 in
theorem negative_any (xs : List Int) (u : Int) (w : World) (hx : Fel xs u) :
    Calls Tryd.prog 62 #[aggI .u64 xs] w fun e w' => e = .returned (aggI .u64 (carriedS (minusL [0, 0, 0, 0, 0] xs))) ∧ Below w.heap.size w w' := by
  have hxl := hx.len
  go_enter Tryd.func62, Tryd.ntmps62
  go_wp2_with (first
    | (with_reducible refine at_n 1 ?_; refine wpList_boxI rfl 42 _ rfl .u64 xs rfl ?_; intro w1 A1 s1 b1)
    | (with_reducible refine at_n 2 ?_; refine wpList_allocI rfl 42 rfl .u64 5 zero_limbs ?_; intro w2 A2 s2 b2; have X2 := A1.below b2)
    | (with_reducible refine at_n 3 ?_; refine wpList_buildI rfl 42 _ rfl .u64 [0, 0, 0, 0, 0] _ built_limbs0 rfl ?_)
    | (with_reducible refine at_n 4 ?_; refine wpList_loadI rfl 42 _ rfl 5 34 und_limbs info_limbs (w.heap.size) rfl .u64 (xs) (X2) (hxl) ?_)
    | (go_at_call 53; refine (minus_any _ _ _ zero_fel.small hx.small rfl hxl).mono ?_; rintro e w3 ⟨rfl, b3⟩; have R3 := A2.below b3)
    | (with_reducible refine at_op (o := ⟨_, .store 42 _ _, _, _, _, _⟩) ?_; refine wpList_storeI rfl 42 _ _ rfl 5 info_limbs (w1.heap.size) rfl .u64 _ (carriedS (minusL [0, 0, 0, 0, 0] xs)) rfl (R3) (rfl) (rfl) ?_; intro A9))
  refine bodyPost_ret (results_cellI rfl _ 5 34 und_limbs info_limbs (w1.heap.size) rfl .u64 _ A9 rfl) rfl ?_
  exact ⟨rfl, Below.setRow (below_then (below_then b1 b2) b3) (by omega) _⟩
end Go.Proofs.YtelppapkffjmpaaDoor
end
section
--@optional
namespace Go.Proofs.YtelppapkffjmpaaDoor
open Go.RowKit Go.Shelf
set_option linter.unusedVariables false
set_option maxRecDepth 8000

theorem numB_valB {xb : List Int} (hb : Bytes xb) (hl : xb.length = 32) : numB (valB xb 32) = xb := by
  apply eq_of_all (by rw [numB_length, hl])
  intro j hj
  rw [numB_length] at hj
  rw [at0_numB _ j hj]
  have key : ∀ n, j < n → valB xb n / 2 ^ (8 * j) % 256 = at0 xb j := by
    intro n
    induction n with
    | zero => omega
    | succ n ih =>
      intro hn
      have hp := pow_pos2 (8 * j)
      by_cases e : j = n
      · have h1 := valB_lt xb hb n
        have h2 := hb.at n
        subst e
        simp only [valB]
        rw [Int.add_mul_ediv_right _ _ (by omega), Int.ediv_eq_zero_of_lt h1.1 h1.2, Int.zero_add, Int.emod_eq_of_lt h2.1 (by omega)]
      · rw [← ih (by omega)]
        simp only [valB]
        obtain ⟨d, hd⟩ : ∃ d, n = j + 1 + d := ⟨n - j - 1, by omega⟩
        have e2 : (2 : Int) ^ (8 * n) = 2 ^ (8 * j) * (256 * 2 ^ (8 * d)) := by
          rw [show (256 : Int) = 2 ^ 8 from rfl, ← Int.pow_add, ← Int.pow_add]; congr 1; omega
        rw [e2]
        generalize at0 xb n = x
        generalize (2 : Int) ^ (8 * d) = q
        generalize (2 : Int) ^ (8 * j) = p at *
        rw [show x * (p * (256 * q)) = (x * q * 256) * p by grind, Int.add_mul_ediv_right _ _ (by omega), Int.add_mul_emod_self_right]
  exact key 32 hj
set_option maxHeartbeats 2000000 in
theorem reduce_v (xb : List Int) (w : World) (hxb : Bytes xb) (hxl : xb.length = 32) :
    Calls Tryd.prog 88 #[aggI .u8 xb] w fun e w' => e = .returned (aggI .u8 (numB (valB xb 32 % pV))) ∧ Below w.heap.size w w' := by
  have LX := fun W => load_any xb W hxb hxl
  have hx := loadL_fel xb hxb
  generalize carriedS (loadL xb) = xs at *
  have BZ := fun W => bytes_v _ _ W hx
  go_enter Tryd.func88, Tryd.ntmps88
  go_wp2_with (first
    | (with_reducible refine at_n 1 ?_; refine wpList_boxI rfl 22 _ rfl .u8 xb rfl ?_; intro w1 A1 s1 b1)
    | (with_reducible refine at_n 2 ?_; refine wpList_allocI rfl 22 rfl .u8 32 zero_a32 ?_; intro w2 A2 s2 b2; have X2 := A1.below b2)
    | (with_reducible refine at_n 3 ?_; refine wpList_loadI rfl 22 _ rfl 32 5 und_a32 info_a32 (w.heap.size) rfl .u8 (xb) (X2) (hxl) ?_)
    | (go_at_call 67; refine (LX _).mono ?_; rintro e w3 ⟨rfl, b3⟩; have R3 := A2.below b3)
    | (go_at_call 75; refine (BZ _).mono ?_; rintro e w4 ⟨rfl, b4⟩; have R4 := R3.below b4)
    | (with_reducible refine at_op (o := ⟨_, .store 22 _ _, _, _, _, _⟩) ?_; refine wpList_storeI rfl 22 _ _ rfl 32 info_a32 (w1.heap.size) rfl .u8 _ (numB (valB xb 32 % pV)) rfl (R4) (rfl) (numB_length _) ?_; intro A9))
  refine bodyPost_ret (results_cellI rfl _ 32 5 und_a32 info_a32 (w1.heap.size) rfl .u8 _ A9 (numB_length _)) rfl ?_
  exact ⟨rfl, Below.setRow (below_then (below_then (below_then b1 b2) b3) b4) (by omega) _⟩
theorem reduced_same {xb : List Int} (hb : Bytes xb) (hl : xb.length = 32) : decide (numB (valB xb 32 % pV) = xb) = decide (valB xb 32 < pV) := by
  have hv := valB_32 xb hb
  have hm := pV_mod (valB xb 32)
  have hp := pV_lt
  refine decide_eq_decide.2 ⟨fun h => ?_, fun h => ?_⟩
  · have h2 : valB xb 32 % pV = valB xb 32 := numB_inj ⟨hm.1, by omega⟩ hv (by rw [h, numB_valB hb hl])
    omega
  · rw [Int.emod_eq_of_lt hv.1 h, numB_valB hb hl]
set_option maxHeartbeats 2000000 in
theorem fright_v (xb : List Int) (w : World) (hxb : Bytes xb) (hxl : xb.length = 32) :
  Calls Tryd.prog 66 #[aggI .u8 xb] w fun e w' => e = .returned (.bool (decide (valB xb 32 < pV))) ∧ Below w.heap.size w w' := by
 have hd := reduced_same hxb hxl
 go_enter Tryd.func66, Tryd.ntmps66
 go_wp2_with (first
  | (with_reducible refine at_n 1 ?_; refine wpList_boxI rfl 22 _ rfl .u8 xb rfl ?_; intro w1 A1 s1 b1))
 refine wp_region_ord [[], [0], [], [1, 2], [3, 1, 0, 1, 2, 3]] [some 3, some 4, some 5, some 6, some 2] 5 (fun b w' => Arr .u8 w' w.heap.size xb ∧ Below w.heap.size w w') (fun opn f _ => match opn with | 0 => f 0 = aggI .u8 xb | 1 => f 1 = aggI .u8 (numB (valB xb 32 % pV)) | 2 => f 2 = aggI .u8 xb | 3 => f 3 = .bool (decide (valB xb 32 < pV)) | 4 => f 4 = .bool (decide (valB xb 32 < pV)) | _ => True) (fun _ _ _ => True) (by kernel_rfl) (by kernel_rfl) (by kernel_rfl) (by kernel_rfl) (fun b v v' hb h => ⟨h.1.below hb, below_then h.2 hb⟩) (fun _ _ _ _ _ h => h) (fun _ _ _ _ _ _ _ h => h) ⟨A1.drew, b1.drew⟩ ?_ ?_
 ·
  refine StepL.other (k := 0) rfl (fun b f W hb hG hH => ?_) ?_
  ·
   clear hH
   generalize hA : putL _ _ _ _ = A
   have q1 : A.eval (.tmp 1) = .pointer (some ⟨w.heap.size, 0, none⟩) := putLn hA 1 rfl rfl rfl
   have r1 := slot_get q1
   clear hA
   exact Does.loadI rfl 22 _ rfl 32 5 und_a32 info_a32 (w.heap.size) q1 .u8 (xb) (hG.1) (hxl) ⟨Below.refl _ _, rfl⟩
  refine StepL.other (k := 1) rfl (fun b f W hb hG hH => ?_) ?_
  ·
   obtain ⟨d0, -⟩ := hH
   generalize hA : putL _ _ _ _ = A
   have q3 := putLl hA 3 d0 rfl rfl
   have r3 := slot_get q3
   clear hA
   refine Does.call rfl _ _ (by go_simp) ((reduce_v xb W hxb hxl).mono ?_)
   rintro e w' ⟨rfl, hb'⟩
   exact ⟨_, rfl, hb', rfl⟩
  refine StepL.other (k := 2) rfl (fun b f W hb hG hH => ?_) ?_
  ·
   clear hH
   generalize hA : putL _ _ _ _ = A
   have q1 : A.eval (.tmp 1) = .pointer (some ⟨w.heap.size, 0, none⟩) := putLn hA 1 rfl rfl rfl
   have r1 := slot_get q1
   clear hA
   exact Does.loadI rfl 22 _ rfl 32 5 und_a32 info_a32 (w.heap.size) q1 .u8 (xb) (hG.1) (hxl) ⟨Below.refl _ _, rfl⟩
  refine StepL.other (k := 3) rfl (fun b f W hb hG hH => ?_) ?_
  ·
   obtain ⟨d1, d2, -⟩ := hH
   generalize hA : putL _ _ _ _ = A
   have q4 := putLl hA 4 d1 rfl rfl
   have r4 := slot_get q4
   have q5 := putLl hA 5 d2 rfl rfl
   have r5 := slot_get q5
   clear hA
   exact Does.eqlI rfl 22 _ 5 _ _ rfl 32 und_a32 .u8 .u8 Tryd.underlying5 (by kernel_rfl) (by kernel_rfl) (numB (valB xb 32 % pV)) (xb) q4 q5 (numB_length _) (hxl) (decide (valB xb 32 < pV)) (hd) ⟨Below.refl _ _, rfl⟩
  refine StepL.other (k := 4) rfl (fun b f W hb hG hH => ?_) ?_
  ·
   obtain ⟨d3, d1, d0, -, d2, -, -⟩ := hH
   generalize hA : putL _ _ _ _ = A
   have q6 := putLl hA 6 d3 rfl rfl
   have r6 := slot_get q6
   clear hA
   refine Does.pure rfl (.bool (decide (valB xb 32 < pV))) ?_ ⟨Below.refl _ _, rfl⟩
   go_simp
  exact trivial
 ·
  intro f W hG hH
  obtain ⟨d0, d1, d2, d3, d4, -⟩ : (f 0 = aggI .u8 xb) ∧ (f 1 = aggI .u8 (numB (valB xb 32 % pV))) ∧ (f 2 = aggI .u8 xb) ∧ (f 3 = .bool (decide (valB xb 32 < pV))) ∧ (f 4 = .bool (decide (valB xb 32 < pV))) ∧ True := hH
  rw [show List.range (List.length [[], [0], [], [1, 2], [3, 1, 0, 1, 2, 3]]) = [0, 1, 2, 3, 4] from rfl]
  simp only [putL, List.getElem?_cons_zero, List.getElem?_cons_succ, Option.join, Option.bind_some, id_eq, Act.put, List.setIfInBounds_toArray, List.set_cons_zero, List.set_cons_succ, d0, d1, d2, d3, d4]
  clear d0 d1 d2 d3 d4
  go_wp2
  go_ret
  exact ⟨rfl, hG.2⟩
end Go.Proofs.YtelppapkffjmpaaDoor
end
section
--@optional
namespace Go.Proofs.YtelppapkffjmpaaDoor
open Go.RowKit Go.Shelf
set_option linter.unusedVariables false
set_option maxRecDepth 8000

theorem powS_last {xs nb : List Int} {u : Int} (hx : Fel xs u) (hn : Bytes nb) : Fel (powS xs nb 256) (u ^ (valB nb 32).toNat % pV) := by
  have h := powS_fel xs nb u hx hn 256 (Nat.le_refl _)
  rw [Nat.sub_self, Int.pow_zero, Int.ediv_one] at h
  exact h
theorem powN_inv : Bytes (powN 235 127) := by intro x hx; revert x; decide
theorem powN_root : Bytes (powN 254 15) := by intro x hx; revert x; decide
set_option maxHeartbeats 2000000 in
theorem inverse_any (xs : List Int) (u : Int) (w : World) (hx : Fel xs u) :
  Calls Tryd.prog 68 #[aggI .u64 xs] w fun e w' => e = .returned (aggI .u64 (powS xs (powN 235 127) 256)) ∧ Below w.heap.size w w' := by
 have hxl := hx.len
 have PW := fun W => power_any xs (powN 235 127) u W hx powN_inv (by simp [powN])
 have hzl := (powS_last hx powN_inv).len
 clear hx
 generalize powS xs (powN 235 127) 256 = zs at *
 go_enter Tryd.func68, Tryd.ntmps68
 go_wp2_with (first
  | (with_reducible refine at_n 1 ?_; refine wpList_boxI rfl 42 _ rfl .u64 xs rfl ?_; intro w1 A1 s1 b1)
  | (with_reducible refine at_n 2 ?_; refine wpList_allocI rfl 42 rfl .u64 5 zero_limbs ?_; intro w2 A2 s2 b2; have X2 := A1.below b2))
 refine wp_region_ord [[], [], [0, 1, 1], [2, 2, 0, 1, 2]] [some 3, some 4, some 5, none] 3 (fun b w' => Arr .u64 w' w.heap.size xs ∧ Arr .u64 w' w1.heap.size (if b then zs else List.replicate 5 0) ∧ Below w.heap.size w w') (fun opn f _ => match opn with | 0 => f 0 = aggI .u64 xs | 1 => f 1 = aggI .u8 (powN 235 127) | 2 => f 2 = aggI .u64 zs | 3 => f 3 = undef | _ => True) (fun _ v v' => ∃ cs, v' = v.setRow (w1.heap.size) cs) (by kernel_rfl) (by kernel_rfl) (by kernel_rfl) (by kernel_rfl) (fun b v v' hb h => ⟨h.1.below hb, h.2.1.below hb, below_then h.2.2 hb⟩) (fun _ _ _ _ _ h => h) (fun _ _ _ _ _ _ _ h => h) ⟨X2.drew, A2.drew, (below_then b1 b2).drew⟩ ?_ ?_
 ·
  refine StepL.other (k := 0) rfl (fun b f W hb hG hH => ?_) ?_
  ·
   obtain rfl := hb rfl
   clear hH
   generalize hA : putL _ _ _ _ = A
   have q1 : A.eval (.tmp 1) = .pointer (some ⟨w.heap.size, 0, none⟩) := putLn hA 1 rfl rfl rfl
   have r1 := slot_get q1
   clear hA
   exact Does.loadI rfl 42 _ rfl 5 34 und_limbs info_limbs (w.heap.size) q1 .u64 (xs) (hG.1) (hxl) ⟨Below.refl _ _, rfl⟩
  refine StepL.other (k := 1) rfl (fun b f W hb hG hH => ?_) ?_
  ·
   obtain rfl := hb rfl
   clear hH
   generalize hA : putL _ _ _ _ = A
   clear hA
   refine Does.call rfl _ _ (by go_simp) ((pow_any 235 127 W).mono ?_)
   rintro e w' ⟨rfl, hb'⟩
   exact ⟨_, rfl, hb', rfl⟩
  refine StepL.other (k := 2) rfl (fun b f W hb hG hH => ?_) ?_
  ·
   obtain rfl := hb rfl
   obtain ⟨d0, d1, -, -⟩ := hH
   generalize hA : putL _ _ _ _ = A
   have q3 := putLl hA 3 d0 rfl rfl
   have r3 := slot_get q3
   have q4 := putLl hA 4 d1 rfl rfl
   have r4 := slot_get q4
   clear hA
   refine Does.call rfl _ _ (by go_simp) ((PW W).mono ?_)
   rintro e w' ⟨rfl, hb'⟩
   exact ⟨_, rfl, hb', rfl⟩
  refine StepL.self (k := 3) rfl (fun f W hG hH => ?_) ?_
  ·
   obtain ⟨d2, -, d0, d1, -, -⟩ := hH
   generalize hA : putL _ _ _ _ = A
   have q2 : A.eval (.tmp 2) = .pointer (some ⟨w1.heap.size, 0, none⟩) := putLn hA 2 rfl rfl rfl
   have r2 := slot_get q2
   have q5 := putLl hA 5 d2 rfl rfl
   have r5 := slot_get q5
   clear hA
   refine Does.storeI rfl 42 _ _ rfl 5 info_limbs (w1.heap.size) q2 .u64 _ _ q5 hG.2.1 rfl hzl ?_
   intro A9
   exact ⟨⟨_, rfl⟩, ⟨hG.1.rowOther (by omega) _, A9, Below.setRow hG.2.2 (by omega) _⟩, rfl⟩
  exact trivial
 ·
  intro f W hG hH
  obtain ⟨d0, d1, d2, d3, -⟩ : (f 0 = aggI .u64 xs) ∧ (f 1 = aggI .u8 (powN 235 127)) ∧ (f 2 = aggI .u64 zs) ∧ (f 3 = undef) ∧ True := hH
  rw [show List.range (List.length [[], [], [0, 1, 1], [2, 2, 0, 1, 2]]) = [0, 1, 2, 3] from rfl]
  simp only [putL, List.getElem?_cons_zero, List.getElem?_cons_succ, Option.join, Option.bind_some, id_eq, Act.put, List.setIfInBounds_toArray, List.set_cons_zero, List.set_cons_succ, d0, d1, d2]
  clear d0 d1 d2 d3
  obtain ⟨-, A9, hbel⟩ := hG
  have A9 : Arr .u64 W (w1.heap.size) zs := A9
  go_wp2
  refine bodyPost_ret (results_cellI rfl _ 5 34 und_limbs info_limbs (w1.heap.size) rfl .u64 _ A9 hzl) rfl ?_
  exact ⟨rfl, hbel⟩
end Go.Proofs.YtelppapkffjmpaaDoor
end
section
namespace Go.Proofs.YtelppapkffjmpaaDoor
open Go.RowKit Go.Shelf
set_option linter.unusedVariables false
set_option maxRecDepth 8000

end Go.Proofs.YtelppapkffjmpaaDoor
end
section
namespace Go.Proofs.YtelppapkffjmpaaDoor
open Go.RowKit Go.Shelf
set_option linter.unusedVariables false
set_option maxRecDepth 8000

end Go.Proofs.YtelppapkffjmpaaDoor
end
section
--@optional
namespace Go.Proofs.YtelppapkffjmpaaDoor
open Go.RowKit Go.Shelf
set_option linter.unusedVariables false
set_option maxRecDepth 8000

end Go.Proofs.YtelppapkffjmpaaDoor
end
