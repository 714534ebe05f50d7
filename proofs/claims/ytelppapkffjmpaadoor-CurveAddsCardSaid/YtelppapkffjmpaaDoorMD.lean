/- Merged: Numbers of five limbs: the same, odd, negative. Package field's calls on bytes. Powers and inverses in package field. The reference's p, its cut, sum and difference. The reference's difference, and its calls on bytes. The reference's calls on bytes. -/
import Derived.Test.YtelppapkffjmpaaDoorMC
section
namespace Go.Proofs.YtelppapkffjmpaaDoor
open Go.RowKit Go.Shelf
set_option linter.unusedVariables false
set_option maxRecDepth 8000

theorem fel_mod {xs : List Int} {u : Int} (h : Fel xs u) : 0 ≤ u ∧ u < pV := by rw [← h.val]; exact pV_mod _
theorem pV_lt : (0 : Int) ≤ pV ∧ pV < 2 ^ 256 := by decide +kernel
theorem numB_same {u v : Int} (hu : 0 ≤ u ∧ u < pV) (hv : 0 ≤ v ∧ v < pV) : decide (numB u = numB v) = decide (u = v) := by
  have := pV_lt
  exact decide_eq_decide.2 ⟨fun h => numB_inj ⟨hu.1, by omega⟩ ⟨hv.1, by omega⟩ h, fun h => by rw [h]⟩
theorem bytes_v (xs : List Int) (u : Int) (w : World) (hx : Fel xs u) : Calls Tryd.prog 75 #[aggI .u64 xs] w fun e w' => e = .returned (aggI .u8 (numB u)) ∧ Below w.heap.size w w' := by
  have h := fbytes_any xs w hx.words hx.len
  rw [hx.val] at h
  exact h
set_option maxHeartbeats 2000000 in
theorem same_any (xs ys : List Int) (u v : Int) (w : World) (hx : Fel xs u) (hy : Fel ys v) :
  Calls Tryd.prog 70 #[aggI .u64 xs, aggI .u64 ys] w fun e w' => e = .returned (.bool (decide (u = v))) ∧ Below w.heap.size w w' := by
 have BX := fun W => bytes_v xs u W hx
 have BY := fun W => bytes_v ys v W hy
 have hd := numB_same (fel_mod hx) (fel_mod hy)
 go_enter Tryd.func70, Tryd.ntmps70
 go_wp2_with (first
  | (with_reducible refine at_n 2 ?_; refine wpList_boxI rfl 42 _ rfl .u64 xs rfl ?_; intro w1 A1 s1 b1)
  | (with_reducible refine at_n 3 ?_; refine wpList_boxI rfl 42 _ rfl .u64 ys rfl ?_; intro w2 A2 s2 b2; have X2 := A1.below b2))
 refine wp_region_ord [[], [0], [], [2, 1], [1, 3], [4, 3, 0, 1, 2, 3, 4]] [some 5, some 6, some 7, some 8, some 9, some 4] 6 (fun b w' => Arr .u64 w' w.heap.size xs ∧ Arr .u64 w' w1.heap.size ys ∧ Below w.heap.size w w') (fun opn f _ => match opn with | 0 => f 0 = aggI .u64 xs | 1 => f 1 = aggI .u8 (numB u) | 2 => f 2 = aggI .u64 ys | 3 => f 3 = aggI .u8 (numB v) | 4 => f 4 = .bool (decide (u = v)) | 5 => f 5 = .bool (decide (u = v)) | _ => True) (fun _ _ _ => True) (by kernel_rfl) (by kernel_rfl) (by kernel_rfl) (by kernel_rfl) (fun b v v' hb h => ⟨h.1.below hb, h.2.1.below hb, below_then h.2.2 hb⟩) (fun _ _ _ _ _ h => h) (fun _ _ _ _ _ _ _ h => h) ⟨X2.drew, A2.drew, (below_then b1 b2).drew⟩ ?_ ?_
 ·
  refine StepL.other (k := 0) rfl (fun b f W hb hG hH => ?_) ?_
  ·
   clear hH
   generalize hA : putL _ _ _ _ = A
   have q2 : A.eval (.tmp 2) = .pointer (some ⟨w.heap.size, 0, none⟩) := putLn hA 2 rfl rfl rfl
   have r2 := slot_get q2
   clear hA
   exact Does.loadI rfl 42 _ rfl 5 34 und_limbs info_limbs (w.heap.size) q2 .u64 (xs) (hG.1) (hx.len) ⟨Below.refl _ _, rfl⟩
  refine StepL.other (k := 1) rfl (fun b f W hb hG hH => ?_) ?_
  ·
   obtain ⟨d0, -⟩ := hH
   generalize hA : putL _ _ _ _ = A
   have q5 := putLl hA 5 d0 rfl rfl
   have r5 := slot_get q5
   clear hA
   refine Does.call rfl _ _ (by go_simp) ((BX W).mono ?_)
   rintro e w' ⟨rfl, hb'⟩
   exact ⟨_, rfl, hb', rfl⟩
  refine StepL.other (k := 2) rfl (fun b f W hb hG hH => ?_) ?_
  ·
   clear hH
   generalize hA : putL _ _ _ _ = A
   have q3 : A.eval (.tmp 3) = .pointer (some ⟨w1.heap.size, 0, none⟩) := putLn hA 3 rfl rfl rfl
   have r3 := slot_get q3
   clear hA
   exact Does.loadI rfl 42 _ rfl 5 34 und_limbs info_limbs (w1.heap.size) q3 .u64 (ys) (hG.2.1) (hy.len) ⟨Below.refl _ _, rfl⟩
  refine StepL.other (k := 3) rfl (fun b f W hb hG hH => ?_) ?_
  ·
   obtain ⟨d2, d1, -⟩ := hH
   generalize hA : putL _ _ _ _ = A
   have q7 := putLl hA 7 d2 rfl rfl
   have r7 := slot_get q7
   clear hA
   refine Does.call rfl _ _ (by go_simp) ((BY W).mono ?_)
   rintro e w' ⟨rfl, hb'⟩
   exact ⟨_, rfl, hb', rfl⟩
  refine StepL.other (k := 4) rfl (fun b f W hb hG hH => ?_) ?_
  ·
   obtain ⟨d1, d3, -⟩ := hH
   generalize hA : putL _ _ _ _ = A
   have q6 := putLl hA 6 d1 rfl rfl
   have r6 := slot_get q6
   have q8 := putLl hA 8 d3 rfl rfl
   have r8 := slot_get q8
   clear hA
   exact Does.eqlI rfl 22 _ 5 _ _ rfl 32 und_a32 .u8 .u8 Tryd.underlying5 (by kernel_rfl) (by kernel_rfl) (numB u) (numB v) q6 q8 (numB_length _) (numB_length _) (decide (u = v)) (hd) ⟨Below.refl _ _, rfl⟩
  refine StepL.other (k := 5) rfl (fun b f W hb hG hH => ?_) ?_
  ·
   obtain ⟨d4, d3, d0, d1, d2, -, -, -⟩ := hH
   generalize hA : putL _ _ _ _ = A
   have q9 := putLl hA 9 d4 rfl rfl
   have r9 := slot_get q9
   clear hA
   refine Does.pure rfl (.bool (decide (u = v))) ?_ ⟨Below.refl _ _, rfl⟩
   go_simp
  exact trivial
 ·
  intro f W hG hH
  obtain ⟨d0, d1, d2, d3, d4, d5, -⟩ : (f 0 = aggI .u64 xs) ∧ (f 1 = aggI .u8 (numB u)) ∧ (f 2 = aggI .u64 ys) ∧ (f 3 = aggI .u8 (numB v)) ∧ (f 4 = .bool (decide (u = v))) ∧ (f 5 = .bool (decide (u = v))) ∧ True := hH
  rw [show List.range (List.length [[], [0], [], [2, 1], [1, 3], [4, 3, 0, 1, 2, 3, 4]]) = [0, 1, 2, 3, 4, 5] from rfl]
  simp only [putL, List.getElem?_cons_zero, List.getElem?_cons_succ, Option.join, Option.bind_some, id_eq, Act.put, List.setIfInBounds_toArray, List.set_cons_zero, List.set_cons_succ, d0, d1, d2, d3, d4, d5]
  clear d0 d1 d2 d3 d4 d5
  go_wp2
  go_ret
  exact ⟨rfl, hG.2.2⟩
set_option maxHeartbeats 2000000 in
theorem odd_any (xs : List Int) (u : Int) (w : World) (hx : Fel xs u) :
    Calls Tryd.prog 76 #[aggI .u64 xs] w fun e w' => e = .returned (.bool (decide (u % 2 = 1))) ∧ Below w.heap.size w w' := by
  have BX := fun W => bytes_v xs u W hx
  have hxl := hx.len
  have hu := fel_mod hx
  have hi := fun W => run_indexI (P := Tryd.prog) (w := W) 22 32 5 und_a32 _ Tryd.underlying5 rfl (by kernel_rfl) .u8 (numB u) (numB_length _) 0 (by omega) (by omega)
  have h0 := at0_numB u 0 (by omega)
  have hb := u8_and_one ((numB_bytes u).at 0)
  have e : at0 (numB u) 0 % 2 = u % 2 := by rw [h0]; simp only [Nat.mul_zero, Int.pow_zero, Int.ediv_one]; omega
  rw [e] at hb
  have hi0 : ∀ W, (Instr.index 22 (aggI .u8 (numB u)) (.int .i64 0)).run Tryd.prog W = .ok (.int .u8 (at0 (numB u) 0)) W := hi
  clear hi h0 e
  generalize at0 (numB u) 0 = q at *
  go_enter Tryd.func76, Tryd.ntmps76
  go_wp2_with (first
    | (with_reducible refine at_n 1 ?_; refine wpList_boxI rfl 42 _ rfl .u64 xs rfl ?_; intro w1 A1 s1 b1)
    | (with_reducible refine at_n 3 ?_; refine wpList_loadI rfl 42 _ rfl 5 34 und_limbs info_limbs (w.heap.size) rfl .u64 (xs) (A1) (hxl) ?_)
    | (go_at_call 75; refine (BX _).mono ?_; rintro e w2 ⟨rfl, b2⟩))
  go_ret
  refine ⟨?_, below_then b1 b2⟩
  by_cases h : u % 2 = 1
  · simp [h]
  · simp [h]
theorem built_limbs0 : Tryd.prog.built 42 [] = some (([0, 0, 0, 0, 0] : List Int).map (Value.int .u64)).toArray := by kernel_rfl
theorem zero_fel : Fel [0, 0, 0, 0, 0] 0 := ⟨rfl, small_of5 (by omega) (by omega) (by omega) (by omega) (by omega), by decide +kernel⟩
set_option maxHeartbeats 2000000 in
theorem negative_any (xs : List Int) (u : Int) (w : World) (hx : Fel xs u) :
    Calls Tryd.prog 62 #[aggI .u64 xs] w fun e w' => e = .returned (aggI .u64 (carriedS (minusL [0, 0, 0, 0, 0] xs))) ∧ Below w.heap.size w w' := by
  have hxl := hx.len
  go_enter Tryd.func62, Tryd.ntmps62
  go_wp2_with (first
    | (with_reducible refine at_n 1 ?_; refine wpList_boxI rfl 42 _ rfl .u64 xs rfl ?_; intro w1 A1 s1 b1)
    | (with_reducible refine at_n 2 ?_; refine wpList_allocI rfl 42 rfl .u64 5 zero_limbs ?_; intro w2 A2 s2 b2; have X2 := A1.below b2)
    | (with_reducible refine at_n 3 ?_; refine wpList_buildI rfl 42 _ rfl .u64 [0, 0, 0, 0, 0] _ built_limbs0 rfl ?_)
    | (with_reducible refine at_n 4 ?_; refine wpList_loadI rfl 42 _ rfl 5 34 und_limbs info_limbs (w.heap.size) rfl .u64 (xs) (X2) (hxl) ?_)
    | (go_at_call 53; refine (minus_any _ _ _ zero_fel.small hx.small rfl hxl).mono ?_; rintro e w3 ⟨rfl, b3⟩; have R3 := A2.below b3)
    | (with_reducible refine at_op (o := ⟨_, .store 42 _ _, _, _, _, _⟩) ?_; refine wpList_storeI rfl 42 _ _ rfl 5 info_limbs (w1.heap.size) rfl .u64 _ (carriedS (minusL [0, 0, 0, 0, 0] xs)) rfl (R3) (rfl) (rfl) ?_; intro A9))
  refine bodyPost_ret (results_cellI rfl _ 5 34 und_limbs info_limbs (w1.heap.size) rfl .u64 _ A9 rfl) rfl ?_
  exact ⟨rfl, Below.setRow (below_then (below_then b1 b2) b3) (by omega) _⟩
end Go.Proofs.YtelppapkffjmpaaDoor
end
section
--@optional
namespace Go.Proofs.YtelppapkffjmpaaDoor
open Go.RowKit Go.Shelf
set_option linter.unusedVariables false
set_option maxRecDepth 8000

theorem numB_valB {xb : List Int} (hb : Bytes xb) (hl : xb.length = 32) : numB (valB xb 32) = xb := by
  apply eq_of_all (by rw [numB_length, hl])
  intro j hj
  rw [numB_length] at hj
  rw [at0_numB _ j hj]
  have key : ∀ n, j < n → valB xb n / 2 ^ (8 * j) % 256 = at0 xb j := by
    intro n
    induction n with
    | zero => omega
    | succ n ih =>
      intro hn
      have hp := pow_pos2 (8 * j)
      by_cases e : j = n
      · have h1 := valB_lt xb hb n
        have h2 := hb.at n
        subst e
        simp only [valB]
        rw [Int.add_mul_ediv_right _ _ (by omega), Int.ediv_eq_zero_of_lt h1.1 h1.2, Int.zero_add, Int.emod_eq_of_lt h2.1 (by omega)]
      · rw [← ih (by omega)]
        simp only [valB]
        obtain ⟨d, hd⟩ : ∃ d, n = j + 1 + d := ⟨n - j - 1, by omega⟩
        have e2 : (2 : Int) ^ (8 * n) = 2 ^ (8 * j) * (256 * 2 ^ (8 * d)) := by
          rw [show (256 : Int) = 2 ^ 8 from rfl, ← Int.pow_add, ← Int.pow_add]; congr 1; omega
        rw [e2]
        generalize at0 xb n = x
        generalize (2 : Int) ^ (8 * d) = q
        generalize (2 : Int) ^ (8 * j) = p at *
        rw [show x * (p * (256 * q)) = (x * q * 256) * p by grind, Int.add_mul_ediv_right _ _ (by omega), Int.add_mul_emod_self_right]
  exact key 32 hj
set_option maxHeartbeats 2000000 in
theorem reduce_v (xb : List Int) (w : World) (hxb : Bytes xb) (hxl : xb.length = 32) :
    Calls Tryd.prog 88 #[aggI .u8 xb] w fun e w' => e = .returned (aggI .u8 (numB (valB xb 32 % pV))) ∧ Below w.heap.size w w' := by
  have LX := fun W => load_any xb W hxb hxl
  have hx := loadL_fel xb hxb
  generalize carriedS (loadL xb) = xs at *
  have BZ := fun W => bytes_v _ _ W hx
  go_enter Tryd.func88, Tryd.ntmps88
  go_wp2_with (first
    | (with_reducible refine at_n 1 ?_; refine wpList_boxI rfl 22 _ rfl .u8 xb rfl ?_; intro w1 A1 s1 b1)
    | (with_reducible refine at_n 2 ?_; refine wpList_allocI rfl 22 rfl .u8 32 zero_a32 ?_; intro w2 A2 s2 b2; have X2 := A1.below b2)
    | (with_reducible refine at_n 3 ?_; refine wpList_loadI rfl 22 _ rfl 32 5 und_a32 info_a32 (w.heap.size) rfl .u8 (xb) (X2) (hxl) ?_)
    | (go_at_call 67; refine (LX _).mono ?_; rintro e w3 ⟨rfl, b3⟩; have R3 := A2.below b3)
    | (go_at_call 75; refine (BZ _).mono ?_; rintro e w4 ⟨rfl, b4⟩; have R4 := R3.below b4)
    | (with_reducible refine at_op (o := ⟨_, .store 22 _ _, _, _, _, _⟩) ?_; refine wpList_storeI rfl 22 _ _ rfl 32 info_a32 (w1.heap.size) rfl .u8 _ (numB (valB xb 32 % pV)) rfl (R4) (rfl) (numB_length _) ?_; intro A9))
  refine bodyPost_ret (results_cellI rfl _ 32 5 und_a32 info_a32 (w1.heap.size) rfl .u8 _ A9 (numB_length _)) rfl ?_
  exact ⟨rfl, Below.setRow (below_then (below_then (below_then b1 b2) b3) b4) (by omega) _⟩
theorem reduced_same {xb : List Int} (hb : Bytes xb) (hl : xb.length = 32) : decide (numB (valB xb 32 % pV) = xb) = decide (valB xb 32 < pV) := by
  have hv := valB_32 xb hb
  have hm := pV_mod (valB xb 32)
  have hp := pV_lt
  refine decide_eq_decide.2 ⟨fun h => ?_, fun h => ?_⟩
  · have h2 : valB xb 32 % pV = valB xb 32 := numB_inj ⟨hm.1, by omega⟩ hv (by rw [h, numB_valB hb hl])
    omega
  · rw [Int.emod_eq_of_lt hv.1 h, numB_valB hb hl]
set_option maxHeartbeats 2000000 in
theorem fright_v (xb : List Int) (w : World) (hxb : Bytes xb) (hxl : xb.length = 32) :
  Calls Tryd.prog 66 #[aggI .u8 xb] w fun e w' => e = .returned (.bool (decide (valB xb 32 < pV))) ∧ Below w.heap.size w w' := by
 have hd := reduced_same hxb hxl
 go_enter Tryd.func66, Tryd.ntmps66
 go_wp2_with (first
  | (with_reducible refine at_n 1 ?_; refine wpList_boxI rfl 22 _ rfl .u8 xb rfl ?_; intro w1 A1 s1 b1))
 refine wp_region_ord [[], [0], [], [1, 2], [3, 1, 0, 1, 2, 3]] [some 3, some 4, some 5, some 6, some 2] 5 (fun b w' => Arr .u8 w' w.heap.size xb ∧ Below w.heap.size w w') (fun opn f _ => match opn with | 0 => f 0 = aggI .u8 xb | 1 => f 1 = aggI .u8 (numB (valB xb 32 % pV)) | 2 => f 2 = aggI .u8 xb | 3 => f 3 = .bool (decide (valB xb 32 < pV)) | 4 => f 4 = .bool (decide (valB xb 32 < pV)) | _ => True) (fun _ _ _ => True) (by kernel_rfl) (by kernel_rfl) (by kernel_rfl) (by kernel_rfl) (fun b v v' hb h => ⟨h.1.below hb, below_then h.2 hb⟩) (fun _ _ _ _ _ h => h) (fun _ _ _ _ _ _ _ h => h) ⟨A1.drew, b1.drew⟩ ?_ ?_
 ·
  refine StepL.other (k := 0) rfl (fun b f W hb hG hH => ?_) ?_
  ·
   clear hH
   generalize hA : putL _ _ _ _ = A
   have q1 : A.eval (.tmp 1) = .pointer (some ⟨w.heap.size, 0, none⟩) := putLn hA 1 rfl rfl rfl
   have r1 := slot_get q1
   clear hA
   exact Does.loadI rfl 22 _ rfl 32 5 und_a32 info_a32 (w.heap.size) q1 .u8 (xb) (hG.1) (hxl) ⟨Below.refl _ _, rfl⟩
  refine StepL.other (k := 1) rfl (fun b f W hb hG hH => ?_) ?_
  ·
   obtain ⟨d0, -⟩ := hH
   generalize hA : putL _ _ _ _ = A
   have q3 := putLl hA 3 d0 rfl rfl
   have r3 := slot_get q3
   clear hA
   refine Does.call rfl _ _ (by go_simp) ((reduce_v xb W hxb hxl).mono ?_)
   rintro e w' ⟨rfl, hb'⟩
   exact ⟨_, rfl, hb', rfl⟩
  refine StepL.other (k := 2) rfl (fun b f W hb hG hH => ?_) ?_
  ·
   clear hH
   generalize hA : putL _ _ _ _ = A
   have q1 : A.eval (.tmp 1) = .pointer (some ⟨w.heap.size, 0, none⟩) := putLn hA 1 rfl rfl rfl
   have r1 := slot_get q1
   clear hA
   exact Does.loadI rfl 22 _ rfl 32 5 und_a32 info_a32 (w.heap.size) q1 .u8 (xb) (hG.1) (hxl) ⟨Below.refl _ _, rfl⟩
  refine StepL.other (k := 3) rfl (fun b f W hb hG hH => ?_) ?_
  ·
   obtain ⟨d1, d2, -⟩ := hH
   generalize hA : putL _ _ _ _ = A
   have q4 := putLl hA 4 d1 rfl rfl
   have r4 := slot_get q4
   have q5 := putLl hA 5 d2 rfl rfl
   have r5 := slot_get q5
   clear hA
   exact Does.eqlI rfl 22 _ 5 _ _ rfl 32 und_a32 .u8 .u8 Tryd.underlying5 (by kernel_rfl) (by kernel_rfl) (numB (valB xb 32 % pV)) (xb) q4 q5 (numB_length _) (hxl) (decide (valB xb 32 < pV)) (hd) ⟨Below.refl _ _, rfl⟩
  refine StepL.other (k := 4) rfl (fun b f W hb hG hH => ?_) ?_
  ·
   obtain ⟨d3, d1, d0, -, d2, -, -⟩ := hH
   generalize hA : putL _ _ _ _ = A
   have q6 := putLl hA 6 d3 rfl rfl
   have r6 := slot_get q6
   clear hA
   refine Does.pure rfl (.bool (decide (valB xb 32 < pV))) ?_ ⟨Below.refl _ _, rfl⟩
   go_simp
  exact trivial
 ·
  intro f W hG hH
  obtain ⟨d0, d1, d2, d3, d4, -⟩ : (f 0 = aggI .u8 xb) ∧ (f 1 = aggI .u8 (numB (valB xb 32 % pV))) ∧ (f 2 = aggI .u8 xb) ∧ (f 3 = .bool (decide (valB xb 32 < pV))) ∧ (f 4 = .bool (decide (valB xb 32 < pV))) ∧ True := hH
  rw [show List.range (List.length [[], [0], [], [1, 2], [3, 1, 0, 1, 2, 3]]) = [0, 1, 2, 3, 4] from rfl]
  simp only [putL, List.getElem?_cons_zero, List.getElem?_cons_succ, Option.join, Option.bind_some, id_eq, Act.put, List.setIfInBounds_toArray, List.set_cons_zero, List.set_cons_succ, d0, d1, d2, d3, d4]
  clear d0 d1 d2 d3 d4
  go_wp2
  go_ret
  exact ⟨rfl, hG.2⟩
end Go.Proofs.YtelppapkffjmpaaDoor
end
section
--@optional
namespace Go.Proofs.YtelppapkffjmpaaDoor
open Go.RowKit Go.Shelf
set_option linter.unusedVariables false
set_option maxRecDepth 8000

theorem powS_last {xs nb : List Int} {u : Int} (hx : Fel xs u) (hn : Bytes nb) : Fel (powS xs nb 256) (u ^ (valB nb 32).toNat % pV) := by
  have h := powS_fel xs nb u hx hn 256 (Nat.le_refl _)
  rw [Nat.sub_self, Int.pow_zero, Int.ediv_one] at h
  exact h
theorem powN_inv : Bytes (powN 235 127) := by intro x hx; revert x; decide
theorem powN_root : Bytes (powN 254 15) := by intro x hx; revert x; decide
set_option maxHeartbeats 2000000 in
theorem inverse_any (xs : List Int) (u : Int) (w : World) (hx : Fel xs u) :
  Calls Tryd.prog 68 #[aggI .u64 xs] w fun e w' => e = .returned (aggI .u64 (powS xs (powN 235 127) 256)) ∧ Below w.heap.size w w' := by
 have hxl := hx.len
 have PW := fun W => power_any xs (powN 235 127) u W hx powN_inv (by simp [powN])
 have hzl := (powS_last hx powN_inv).len
 clear hx
 generalize powS xs (powN 235 127) 256 = zs at *
 go_enter Tryd.func68, Tryd.ntmps68
 go_wp2_with (first
  | (with_reducible refine at_n 1 ?_; refine wpList_boxI rfl 42 _ rfl .u64 xs rfl ?_; intro w1 A1 s1 b1)
  | (with_reducible refine at_n 2 ?_; refine wpList_allocI rfl 42 rfl .u64 5 zero_limbs ?_; intro w2 A2 s2 b2; have X2 := A1.below b2))
 refine wp_region_ord [[], [], [0, 1, 1], [2, 2, 0, 1, 2]] [some 3, some 4, some 5, none] 3 (fun b w' => Arr .u64 w' w.heap.size xs ∧ Arr .u64 w' w1.heap.size (if b then zs else List.replicate 5 0) ∧ Below w.heap.size w w') (fun opn f _ => match opn with | 0 => f 0 = aggI .u64 xs | 1 => f 1 = aggI .u8 (powN 235 127) | 2 => f 2 = aggI .u64 zs | 3 => f 3 = undef | _ => True) (fun _ v v' => ∃ cs, v' = v.setRow (w1.heap.size) cs) (by kernel_rfl) (by kernel_rfl) (by kernel_rfl) (by kernel_rfl) (fun b v v' hb h => ⟨h.1.below hb, h.2.1.below hb, below_then h.2.2 hb⟩) (fun _ _ _ _ _ h => h) (fun _ _ _ _ _ _ _ h => h) ⟨X2.drew, A2.drew, (below_then b1 b2).drew⟩ ?_ ?_
 ·
  refine StepL.other (k := 0) rfl (fun b f W hb hG hH => ?_) ?_
  ·
   obtain rfl := hb rfl
   clear hH
   generalize hA : putL _ _ _ _ = A
   have q1 : A.eval (.tmp 1) = .pointer (some ⟨w.heap.size, 0, none⟩) := putLn hA 1 rfl rfl rfl
   have r1 := slot_get q1
   clear hA
   exact Does.loadI rfl 42 _ rfl 5 34 und_limbs info_limbs (w.heap.size) q1 .u64 (xs) (hG.1) (hxl) ⟨Below.refl _ _, rfl⟩
  refine StepL.other (k := 1) rfl (fun b f W hb hG hH => ?_) ?_
  ·
   obtain rfl := hb rfl
   clear hH
   generalize hA : putL _ _ _ _ = A
   clear hA
   refine Does.call rfl _ _ (by go_simp) ((pow_any 235 127 W).mono ?_)
   rintro e w' ⟨rfl, hb'⟩
   exact ⟨_, rfl, hb', rfl⟩
  refine StepL.other (k := 2) rfl (fun b f W hb hG hH => ?_) ?_
  ·
   obtain rfl := hb rfl
   obtain ⟨d0, d1, -, -⟩ := hH
   generalize hA : putL _ _ _ _ = A
   have q3 := putLl hA 3 d0 rfl rfl
   have r3 := slot_get q3
   have q4 := putLl hA 4 d1 rfl rfl
   have r4 := slot_get q4
   clear hA
   refine Does.call rfl _ _ (by go_simp) ((PW W).mono ?_)
   rintro e w' ⟨rfl, hb'⟩
   exact ⟨_, rfl, hb', rfl⟩
  refine StepL.self (k := 3) rfl (fun f W hG hH => ?_) ?_
  ·
   obtain ⟨d2, -, d0, d1, -, -⟩ := hH
   generalize hA : putL _ _ _ _ = A
   have q2 : A.eval (.tmp 2) = .pointer (some ⟨w1.heap.size, 0, none⟩) := putLn hA 2 rfl rfl rfl
   have r2 := slot_get q2
   have q5 := putLl hA 5 d2 rfl rfl
   have r5 := slot_get q5
   clear hA
   refine Does.storeI rfl 42 _ _ rfl 5 info_limbs (w1.heap.size) q2 .u64 _ _ q5 hG.2.1 rfl hzl ?_
   intro A9
   exact ⟨⟨_, rfl⟩, ⟨hG.1.rowOther (by omega) _, A9, Below.setRow hG.2.2 (by omega) _⟩, rfl⟩
  exact trivial
 ·
  intro f W hG hH
  obtain ⟨d0, d1, d2, d3, -⟩ : (f 0 = aggI .u64 xs) ∧ (f 1 = aggI .u8 (powN 235 127)) ∧ (f 2 = aggI .u64 zs) ∧ (f 3 = undef) ∧ True := hH
  rw [show List.range (List.length [[], [], [0, 1, 1], [2, 2, 0, 1, 2]]) = [0, 1, 2, 3] from rfl]
  simp only [putL, List.getElem?_cons_zero, List.getElem?_cons_succ, Option.join, Option.bind_some, id_eq, Act.put, List.setIfInBounds_toArray, List.set_cons_zero, List.set_cons_succ, d0, d1, d2]
  clear d0 d1 d2 d3
  obtain ⟨-, A9, hbel⟩ := hG
  have A9 : Arr .u64 W (w1.heap.size) zs := A9
  go_wp2
  refine bodyPost_ret (results_cellI rfl _ 5 34 und_limbs info_limbs (w1.heap.size) rfl .u64 _ A9 hzl) rfl ?_
  exact ⟨rfl, hbel⟩
end Go.Proofs.YtelppapkffjmpaaDoor
end
section
namespace Go.Proofs.YtelppapkffjmpaaDoor
open Go.RowKit Go.Shelf
set_option linter.unusedVariables false
set_option maxRecDepth 8000

theorem built_num4 (a b c d : Int) : Tryd.prog.built 36 [(0, .int .u64 a), (1, .int .u64 b), (2, .int .u64 c), (3, .int .u64 d)] = some (([a, b, c, d] : List Int).map (Value.int .u64)).toArray := by kernel_rfl
theorem pV_num : numW 4 pV = [18446744073709551597, 18446744073709551615, 18446744073709551615, 9223372036854775807] := by decide +kernel
set_option maxHeartbeats 2000000 in
theorem ref_P_v (w : World) : Calls Tryd.prog 56 #[] w fun e w' => e = .returned (aggI .u64 (numW 4 pV)) ∧ Below w.heap.size w w' := by
  rw [pV_num]
  go_enter Tryd.func56, Tryd.ntmps56
  go_wp2_with (first
    | (with_reducible refine at_n 0 ?_; refine wpList_allocI rfl 36 rfl .u64 4 zero_num ?_; intro w1 A1 s1 b1)
    | (with_reducible refine at_n 1 ?_; refine wpList_buildI rfl 36 _ rfl .u64 [18446744073709551597, 18446744073709551615, 18446744073709551615, 9223372036854775807] _ (built_num4 _ _ _ _) rfl ?_)
    | (with_reducible refine at_op (o := ⟨_, .store 36 _ _, _, _, _, _⟩) ?_; refine wpList_storeI rfl 36 _ _ rfl 4 info_num (w.heap.size) rfl .u64 _ ([18446744073709551597, 18446744073709551615, 18446744073709551615, 9223372036854775807]) rfl (A1) (rfl) (rfl) ?_; intro A9))
  refine bodyPost_ret (results_cellI rfl _ 4 34 und_num info_num (w.heap.size) rfl .u64 _ A9 (rfl)) rfl ?_
  exact ⟨rfl, Below.setRow b1 (Nat.le_refl _) _⟩
theorem cut_mod {u v : Int} (h : u % pV = v % pV) : (u - pV) % pV = v % pV := by rw [Int.sub_emod_right]; exact h
theorem pV_three : (2 : Int) ^ 256 < 3 * pV := by decide +kernel
set_option maxHeartbeats 4000000 in
theorem ref_cut_v (v : Int) (w : World) (hv : 0 ≤ v ∧ v < 2 ^ 256) :
  Calls Tryd.prog 85 #[aggI .u64 (numW 4 v)] w fun e w' => e = .returned (aggI .u64 (numW 4 (v % pV))) ∧ Below w.heap.size w w' := by
 have hp := pV_lt
 have hp3 := pV_three
 go_enter Tryd.func85, Tryd.ntmps85
 go_wp2_with (first
  | (with_reducible refine at_n 1 ?_; refine wpList_boxI rfl 36 _ rfl .u64 (numW 4 v) rfl ?_; intro w1 A1 s1 b1)
  | (with_reducible refine at_n 2 ?_; refine wpList_allocI rfl 36 rfl .u64 4 zero_num ?_; intro w2 A2 s2 b2; have X2 := A1.below b2))
 go_loopw [3] (fun i wr => ∃ (k : Nat) (u : Int), k ≤ 3 ∧ i = .int .i64 k ∧ Arr .u64 wr w.heap.size (numW 4 u) ∧ Arr .u64 wr w1.heap.size (List.replicate 4 0) ∧ (0 ≤ u ∧ u < 2 ^ 256) ∧ u % pV = v % pV ∧ (u < pV ∨ u + k * pV = v) ∧ Below w.heap.size w wr) (fun i _ => 3 - (intOf i).toNat)
 case atStart => exact ⟨0, v, by omega, rfl, X2, A2, hv, rfl, Or.inr (by simp), below_then b1 b2⟩
 case round =>
  obtain ⟨k, u, hk, rfl, A, R, hu, hmod, hor, hbel⟩ := hrel
  by_cases hlt : k < 3
  ·
   have hk1 : ((k + 1 : Nat) : Int) * pV = k * pV + pV := by rw [Int.natCast_add, Int.add_mul]; omega
   go_wp2
   refine wp_region_ord [[], [], [0, 1, 1], [2]] [some 8, some 9, some 10, some 11] 4 (fun b w' => Arr .u64 w' w.heap.size (numW 4 u) ∧ Arr .u64 w' w1.heap.size (List.replicate 4 0) ∧ Below w.heap.size w w') (fun opn f _ => match opn with | 0 => f 0 = aggI .u64 (numW 4 u) | 1 => f 1 = aggI .u64 (numW 4 pV) | 2 => f 2 = .bool (decide (u < pV)) | 3 => f 3 = .bool (!(decide (u < pV))) | _ => True) (fun _ _ _ => True) (by kernel_rfl) (by kernel_rfl) (by kernel_rfl) (by kernel_rfl) (fun b v v' hb h => ⟨h.1.below hb, h.2.1.below hb, below_then h.2.2 hb⟩) (fun _ _ _ _ _ h => h) (fun _ _ _ _ _ _ _ h => h) ⟨A.drew, R.drew, hbel.drew⟩ ?_ ?_
   ·
    refine StepL.other (k := 0) rfl (fun b f W hb hG hH => ?_) ?_
    ·
     clear hH
     generalize hA : putL _ _ _ _ = A
     have q1 : A.eval (.tmp 1) = .pointer (some ⟨w.heap.size, 0, none⟩) := putLn hA 1 rfl rfl rfl
     have r1 := slot_get q1
     clear hA
     exact Does.loadI rfl 36 _ rfl 4 34 und_num info_num (w.heap.size) q1 .u64 (numW 4 u) (hG.1) (numW_length _ _) ⟨Below.refl _ _, rfl⟩
    refine StepL.other (k := 1) rfl (fun b f W hb hG hH => ?_) ?_
    ·
     clear hH
     generalize hA : putL _ _ _ _ = A
     clear hA
     refine Does.call rfl _ _ (by go_simp) ((ref_P_v W).mono ?_)
     rintro e w' ⟨rfl, hb'⟩
     exact ⟨_, rfl, hb', rfl⟩
    refine StepL.other (k := 2) rfl (fun b f W hb hG hH => ?_) ?_
    ·
     obtain ⟨d0, d1, -, -⟩ := hH
     generalize hA : putL _ _ _ _ = A
     have q8 := putLl hA 8 d0 rfl rfl
     have r8 := slot_get q8
     have q9 := putLl hA 9 d1 rfl rfl
     have r9 := slot_get q9
     clear hA
     refine Does.call rfl _ _ (by go_simp) ((ref_less_v u pV W hu pV_lt).mono ?_)
     rintro e w' ⟨rfl, hb'⟩
     exact ⟨_, rfl, hb', rfl⟩
    refine StepL.other (k := 3) rfl (fun b f W hb hG hH => ?_) ?_
    ·
     obtain ⟨d2, -⟩ := hH
     generalize hA : putL _ _ _ _ = A
     have q10 := putLl hA 10 d2 rfl rfl
     have r10 := slot_get q10
     clear hA
     refine Does.pure rfl (.bool (!(decide (u < pV)))) ?_ ⟨Below.refl _ _, rfl⟩
     go_simp
    exact trivial
   ·
    intro f W hG hH
    obtain ⟨d0, d1, d2, d3, -⟩ : (f 0 = aggI .u64 (numW 4 u)) ∧ (f 1 = aggI .u64 (numW 4 pV)) ∧ (f 2 = .bool (decide (u < pV))) ∧ (f 3 = .bool (!(decide (u < pV)))) ∧ True := hH
    rw [show List.range (List.length [[], [], [0, 1, 1], [2]]) = [0, 1, 2, 3] from rfl]
    simp only [putL, List.getElem?_cons_zero, List.getElem?_cons_succ, Option.join, Option.bind_some, id_eq, Act.put, List.setIfInBounds_toArray, List.set_cons_zero, List.set_cons_succ, d0, d1, d2, d3]
    clear d0 d1 d2 d3
    obtain ⟨A, R, hbel⟩ := hG
    by_cases hlt : u < pV
    ·
     simp only [hlt, decide_true, Bool.not_true]
     go_wp2
     exact ⟨⟨k + 1, u, by omega, by go_num, A, R, hu, hmod, Or.inl hlt, hbel⟩, by simp [intOf]; omega⟩
    ·
     have hdf : (u - pV) % 2 ^ 256 = u - pV := Int.emod_eq_of_lt (by omega) (by omega)
     simp only [hlt, decide_false, Bool.not_false]
     go_wp2
     refine wp_region_ord [[], [], [0, 1, 1], [2], [3], [3], [4, 2, 0, 1, 2, 3, 4]] [some 13, some 14, some 15, some 12, some 16, some 17, none] 6 (fun b w' => Arr .u64 w' w.heap.size (numW 4 (if b then u - pV else u)) ∧ Arr .u64 w' w1.heap.size (List.replicate 4 0) ∧ Below w.heap.size w w') (fun opn f _ => match opn with | 0 => f 0 = aggI .u64 (numW 4 u) | 1 => f 1 = aggI .u64 (numW 4 pV) | 2 => f 2 = .tuple #[aggI .u64 (numW 4 ((u - pV) % 2 ^ 256)), .int .u64 (if u < pV then 1 else 0)] | 3 => f 3 = .tuple #[aggI .u64 (numW 4 ((u - pV) % 2 ^ 256)), .int .u64 (if u < pV then 1 else 0)] | 4 => f 4 = aggI .u64 (numW 4 ((u - pV) % 2 ^ 256)) | 5 => f 5 = .int .u64 (if u < pV then 1 else 0) | 6 => f 6 = undef | _ => True) (fun _ v v' => ∃ cs, v' = v.setRow (w.heap.size) cs) (by kernel_rfl) (by kernel_rfl) (by kernel_rfl) (by kernel_rfl) (fun b v v' hb h => ⟨h.1.below hb, h.2.1.below hb, below_then h.2.2 hb⟩) (fun _ _ _ _ _ h => h) (fun _ _ _ _ _ _ _ h => h) ⟨A.drew, R.drew, hbel.drew⟩ ?_ ?_
     ·
      refine StepL.other (k := 0) rfl (fun b f W hb hG hH => ?_) ?_
      ·
       obtain rfl := hb rfl
       clear hH
       generalize hA : putL _ _ _ _ = A
       have q1 : A.eval (.tmp 1) = .pointer (some ⟨w.heap.size, 0, none⟩) := putLn hA 1 rfl rfl rfl
       have r1 := slot_get q1
       clear hA
       exact Does.loadI rfl 36 _ rfl 4 34 und_num info_num (w.heap.size) q1 .u64 (numW 4 u) (hG.1) (numW_length _ _) ⟨Below.refl _ _, rfl⟩
      refine StepL.other (k := 1) rfl (fun b f W hb hG hH => ?_) ?_
      ·
       obtain rfl := hb rfl
       clear hH
       generalize hA : putL _ _ _ _ = A
       clear hA
       refine Does.call rfl _ _ (by go_simp) ((ref_P_v W).mono ?_)
       rintro e w' ⟨rfl, hb'⟩
       exact ⟨_, rfl, hb', rfl⟩
      refine StepL.other (k := 2) rfl (fun b f W hb hG hH => ?_) ?_
      ·
       obtain rfl := hb rfl
       obtain ⟨d0, d1, -, -⟩ := hH
       generalize hA : putL _ _ _ _ = A
       have q13 := putLl hA 13 d0 rfl rfl
       have r13 := slot_get q13
       have q14 := putLl hA 14 d1 rfl rfl
       have r14 := slot_get q14
       clear hA
       refine Does.call rfl _ _ (by go_simp) ((ref_minus_v u pV W hu pV_lt).mono ?_)
       rintro e w' ⟨rfl, hb'⟩
       exact ⟨_, rfl, hb', rfl⟩
      refine StepL.other (k := 3) rfl (fun b f W hb hG hH => ?_) ?_
      ·
       obtain rfl := hb rfl
       obtain ⟨d2, -⟩ := hH
       generalize hA : putL _ _ _ _ = A
       have q15 := putLl hA 15 d2 rfl rfl
       have r15 := slot_get q15
       clear hA
       refine Does.pure rfl (.tuple #[aggI .u64 (numW 4 ((u - pV) % 2 ^ 256)), .int .u64 (if u < pV then 1 else 0)]) ?_ ⟨Below.refl _ _, rfl⟩
       go_simp
      refine StepL.other (k := 4) rfl (fun b f W hb hG hH => ?_) ?_
      ·
       obtain rfl := hb rfl
       obtain ⟨d3, -⟩ := hH
       generalize hA : putL _ _ _ _ = A
       have q12 := putLl hA 12 d3 rfl rfl
       have r12 := slot_get q12
       clear hA
       refine Does.pure rfl (aggI .u64 (numW 4 ((u - pV) % 2 ^ 256))) ?_ ⟨Below.refl _ _, rfl⟩
       go_simp
      refine StepL.other (k := 5) rfl (fun b f W hb hG hH => ?_) ?_
      ·
       obtain ⟨d3, -⟩ := hH
       generalize hA : putL _ _ _ _ = A
       have q12 := putLl hA 12 d3 rfl rfl
       have r12 := slot_get q12
       clear hA
       refine Does.pure rfl (.int .u64 (if u < pV then 1 else 0)) ?_ ⟨Below.refl _ _, rfl⟩
       go_simp
      refine StepL.self (k := 6) rfl (fun f W hG hH => ?_) ?_
      ·
       obtain ⟨d4, d2, d0, d1, -, d3, -, -⟩ := hH
       generalize hA : putL _ _ _ _ = A
       have q1 : A.eval (.tmp 1) = .pointer (some ⟨w.heap.size, 0, none⟩) := putLn hA 1 rfl rfl rfl
       have r1 := slot_get q1
       have q16 := putLl hA 16 d4 rfl rfl
       have r16 := slot_get q16
       clear hA
       refine Does.storeI rfl 36 _ _ rfl 4 info_num (w.heap.size) q1 .u64 _ _ q16 hG.1 (numW_length _ _) (numW_length _ _) ?_
       intro A9
       rw [hdf] at A9 ⊢
       exact ⟨⟨_, rfl⟩, ⟨A9, hG.2.1.rowOther (by omega) _, Below.setRow hG.2.2 (by omega) _⟩, rfl⟩
      exact trivial
     ·
      intro f W hG hH
      obtain ⟨d0, d1, d2, d3, d4, d5, d6, -⟩ : (f 0 = aggI .u64 (numW 4 u)) ∧ (f 1 = aggI .u64 (numW 4 pV)) ∧ (f 2 = .tuple #[aggI .u64 (numW 4 ((u - pV) % 2 ^ 256)), .int .u64 (if u < pV then 1 else 0)]) ∧ (f 3 = .tuple #[aggI .u64 (numW 4 ((u - pV) % 2 ^ 256)), .int .u64 (if u < pV then 1 else 0)]) ∧ (f 4 = aggI .u64 (numW 4 ((u - pV) % 2 ^ 256))) ∧ (f 5 = .int .u64 (if u < pV then 1 else 0)) ∧ (f 6 = undef) ∧ True := hH
      rw [show List.range (List.length [[], [], [0, 1, 1], [2], [3], [3], [4, 2, 0, 1, 2, 3, 4]]) = [0, 1, 2, 3, 4, 5, 6] from rfl]
      simp only [putL, List.getElem?_cons_zero, List.getElem?_cons_succ, Option.join, Option.bind_some, id_eq, Act.put, List.setIfInBounds_toArray, List.set_cons_zero, List.set_cons_succ, d0, d1, d2, d3, d4, d5]
      clear d0 d1 d2 d3 d4 d5 d6
      obtain ⟨A, R, hbel⟩ := hG
      have A : Arr .u64 W w.heap.size (numW 4 (u - pV)) := A
      go_wp2
      exact ⟨⟨k + 1, u - pV, by omega, by go_num, A, R, by omega, cut_mod hmod, by omega, hbel⟩, by simp [intOf]; omega⟩
  ·
   obtain rfl : k = 3 := by omega
   have hu2 : u = v % pV := by
    rw [← hmod, Int.emod_eq_of_lt hu.1 (by omega)]
   go_wp2_with (first
  | (with_reducible refine at_n 18 ?_; refine wpList_loadI rfl 36 _ rfl 4 34 und_num info_num (w.heap.size) rfl .u64 (numW 4 u) (A) (numW_length _ _) ?_)
  | (with_reducible refine at_op (o := ⟨_, .store 36 _ _, _, _, _, _⟩) ?_; refine wpList_storeI rfl 36 _ _ rfl 4 info_num (w1.heap.size) rfl .u64 _ (numW 4 u) rfl (R) (rfl) (numW_length _ _) ?_; intro A9))
   refine bodyPost_ret (results_cellI rfl _ 4 34 und_num info_num (w1.heap.size) rfl .u64 _ A9 (numW_length _ _)) rfl ?_
   exact ⟨by rw [hu2], Below.setRow hbel (by omega) _⟩
set_option maxHeartbeats 4000000 in
theorem ref_sum_v (u v : Int) (w : World) (hu : 0 ≤ u) (hv : 0 ≤ v) (hs : u + v < 2 ^ 256) :
    Calls Tryd.prog 58 #[aggI .u64 (numW 4 u), aggI .u64 (numW 4 v)] w fun e w' => e = .returned (aggI .u64 (numW 4 ((u + v) % pV))) ∧ Below w.heap.size w w' := by
  have hc : 0 ≤ u + v := by omega
  go_enter Tryd.func58, Tryd.ntmps58
  go_wp2_with (first
    | (with_reducible refine at_n 2 ?_; refine wpList_boxI rfl 36 _ rfl .u64 (numW 4 u) rfl ?_; intro w1 A1 s1 b1)
    | (with_reducible refine at_n 3 ?_; refine wpList_boxI rfl 36 _ rfl .u64 (numW 4 v) rfl ?_; intro w2 A2 s2 b2; have X2 := A1.below b2)
    | (with_reducible refine at_n 4 ?_; refine wpList_allocI rfl 36 rfl .u64 4 zero_num ?_; intro w3 A3 s3 b3; have X3 := X2.below b3; have Y3 := A2.below b3)
    | (with_reducible refine at_n 8 ?_; refine wpList_loadI rfl 36 _ rfl 4 34 und_num info_num (w.heap.size) rfl .u64 (numW 4 u) (X3) (numW_length _ _) ?_)
    | (with_reducible refine at_n 9 ?_; refine wpList_loadI rfl 36 _ rfl 4 34 und_num info_num (w1.heap.size) rfl .u64 (numW 4 v) (Y3) (numW_length _ _) ?_)
    | (go_at_call 64; refine (ref_plus_v u v _ hu hv hs).mono ?_; rintro e w4 ⟨rfl, b4⟩; have R4 := A3.below b4)
    | (with_reducible refine at_n 5 ?_; refine wpList_allocI rfl 36 rfl .u64 4 zero_num ?_; intro w5 A5 s5 b5; have R5 := R4.below b5)
    | (with_reducible refine at_op (o := ⟨_, .store 36 (.tmp 5) _, _, _, _, _⟩) ?_; refine wpList_storeI rfl 36 _ _ rfl 4 info_num (w4.heap.size) rfl .u64 _ (numW 4 (u + v)) rfl (A5) (rfl) (numW_length _ _) ?_; intro D; have hs34 := b4.size; have R6 := R5.rowOther (B' := w4.heap.size) (by omega) ((numW 4 (u + v)).map (Value.int .u64)).toArray; have hbel := Below.setRow (below_then (below_then (below_then (below_then b1 b2) b3) b4) b5) (g := w4.heap.size) (by omega) ((numW 4 (u + v)).map (Value.int .u64)).toArray)
    | (with_reducible refine at_n 13 ?_; refine wpList_loadI rfl 36 _ rfl 4 34 und_num info_num (w4.heap.size) rfl .u64 (numW 4 (u + v)) (D) (numW_length _ _) ?_)
    | (go_at_call 85; refine (ref_cut_v (u + v) _ ⟨hc, hs⟩).mono ?_; rintro e w7 ⟨rfl, b7⟩; have R7 := R6.below b7)
    | (with_reducible refine at_op (o := ⟨_, .store 36 (.tmp 4) _, _, _, _, _⟩) ?_; refine wpList_storeI rfl 36 _ _ rfl 4 info_num (w2.heap.size) rfl .u64 _ (numW 4 ((u + v) % pV)) rfl (R7) (rfl) (numW_length _ _) ?_; intro A9))
  refine bodyPost_ret (results_cellI rfl _ 4 34 und_num info_num (w2.heap.size) rfl .u64 _ A9 (numW_length _ _)) rfl ?_
  exact ⟨rfl, Below.setRow (below_then hbel b7) (by omega) _⟩
end Go.Proofs.YtelppapkffjmpaaDoor
end
section
namespace Go.Proofs.YtelppapkffjmpaaDoor
open Go.RowKit Go.Shelf
set_option linter.unusedVariables false
set_option maxRecDepth 8000

theorem ref_minus_ge (u v : Int) (w : World) (hv : 0 ≤ v) (hvu : v ≤ u) (hu : u < 2 ^ 256) : Calls Tryd.prog 65 #[aggI .u64 (numW 4 u), aggI .u64 (numW 4 v)] w fun e w' => e = .returned (.tuple #[aggI .u64 (numW 4 (u - v)), .int .u64 0]) ∧ Below w.heap.size w w' := by
  have h := ref_minus_v u v w ⟨by omega, hu⟩ ⟨hv, by omega⟩
  rw [if_neg (by omega), Int.emod_eq_of_lt (by omega) (by omega)] at h
  exact h
theorem ref_less_yes (u v : Int) (w : World) (hu : 0 ≤ u) (h : u < v) (hv : v < 2 ^ 256) : Calls Tryd.prog 55 #[aggI .u64 (numW 4 u), aggI .u64 (numW 4 v)] w fun e w' => e = .returned (.bool true) ∧ Below w.heap.size w w' := by
  have h1 := ref_less_v u v w ⟨hu, by omega⟩ ⟨by omega, hv⟩
  rw [decide_eq_true h] at h1
  exact h1
theorem ref_less_no (u v : Int) (w : World) (hv : 0 ≤ v) (h : ¬ u < v) (hu : u < 2 ^ 256) : Calls Tryd.prog 55 #[aggI .u64 (numW 4 u), aggI .u64 (numW 4 v)] w fun e w' => e = .returned (.bool false) ∧ Below w.heap.size w w' := by
  have h1 := ref_less_v u v w ⟨by omega, hu⟩ ⟨hv, by omega⟩
  rw [decide_eq_false h] at h1
  exact h1
set_option maxHeartbeats 4000000 in
theorem ref_diff_v (u v : Int) (w : World) (hu : 0 ≤ u ∧ u < pV) (hv : 0 ≤ v ∧ v < pV) :
  Calls Tryd.prog 35 #[aggI .u64 (numW 4 u), aggI .u64 (numW 4 v)] w fun e w' => e = .returned (aggI .u64 (numW 4 ((u - v) % pV))) ∧ Below w.heap.size w w' := by
 have hp := pV_lt
 have hp2 : 2 * pV < 2 ^ 256 := by decide +kernel
 by_cases hlt : u < v
 ·
  have hval : u + pV - v = (u - v) % pV := by rw [← Int.add_emod_right, Int.emod_eq_of_lt (by omega) (by omega)]; omega
  have HV := Lib.hid hval
  clear hval
  have LE := fun W => ref_less_yes u v W hu.1 hlt (by omega)
  have PL := fun W => ref_plus_v u pV W hu.1 hp.1 (by omega)
  have MI := fun W => ref_minus_ge (u + pV) v W hv.1 (by omega) (by omega)
  go_enter Tryd.func35, Tryd.ntmps35
  go_wp2_with (first
  | (with_reducible refine at_n 2 ?_; refine wpList_boxI rfl 36 _ rfl .u64 (numW 4 u) rfl ?_; intro w1 A1 s1 b1)
  | (with_reducible refine at_n 3 ?_; refine wpList_boxI rfl 36 _ rfl .u64 (numW 4 v) rfl ?_; intro w2 A2 s2 b2; have X2 := A1.below b2)
  | (with_reducible refine at_n 4 ?_; refine wpList_allocI rfl 36 rfl .u64 4 zero_num ?_; intro w3 A3 s3 b3; have X3 := X2.below b3; have Y3 := A2.below b3; have B3 := below_then (below_then b1 b2) b3)
  | (with_reducible refine at_n 7 ?_; refine wpList_loadI rfl 36 _ rfl 4 34 und_num info_num (w.heap.size) rfl .u64 (numW 4 u) (X3) (numW_length _ _) ?_)
  | (with_reducible refine at_n 8 ?_; refine wpList_loadI rfl 36 _ rfl 4 34 und_num info_num (w1.heap.size) rfl .u64 (numW 4 v) (Y3) (numW_length _ _) ?_)
  | (go_at_call 55; refine (LE _).mono ?_; rintro e w4 ⟨rfl, b4⟩; have X4 := X3.below b4; have Y4 := Y3.below b4; have R4 := A3.below b4; have B4 := below_then B3 b4))
  refine wp_region_ord [[], [], [0, 1, 1], [2], [3], [3], [4, 2, 0, 1, 2, 3, 4]] [some 11, some 12, some 13, some 10, some 14, some 15, none] 6 (fun b w' => Arr .u64 w' w.heap.size (numW 4 (if b then u + pV else u)) ∧ Arr .u64 w' w1.heap.size (numW 4 v) ∧ Arr .u64 w' w2.heap.size (List.replicate 4 0) ∧ Below w.heap.size w w') (fun opn f _ => match opn with | 0 => f 0 = aggI .u64 (numW 4 u) | 1 => f 1 = aggI .u64 (numW 4 pV) | 2 => f 2 = .tuple #[aggI .u64 (numW 4 (u + pV)), .int .u64 0] | 3 => f 3 = .tuple #[aggI .u64 (numW 4 (u + pV)), .int .u64 0] | 4 => f 4 = aggI .u64 (numW 4 (u + pV)) | 5 => f 5 = .int .u64 0 | 6 => f 6 = undef | _ => True) (fun _ v v' => ∃ cs, v' = v.setRow (w.heap.size) cs) (by kernel_rfl) (by kernel_rfl) (by kernel_rfl) (by kernel_rfl) (fun b v v' hb h => ⟨h.1.below hb, h.2.1.below hb, h.2.2.1.below hb, below_then h.2.2.2 hb⟩) (fun _ _ _ _ _ h => h) (fun _ _ _ _ _ _ _ h => h) ⟨X4.drew, Y4.drew, R4.drew, B4.drew⟩ ?_ ?_
  ·
   refine StepL.other (k := 0) rfl (fun b f W hb hG hH => ?_) ?_
   ·
    obtain rfl := hb rfl
    clear hH
    generalize hA : putL _ _ _ _ = A
    have q2 : A.eval (.tmp 2) = .pointer (some ⟨w.heap.size, 0, none⟩) := putLn hA 2 rfl rfl rfl
    have r2 := slot_get q2
    clear hA
    exact Does.loadI rfl 36 _ rfl 4 34 und_num info_num (w.heap.size) q2 .u64 (numW 4 u) (hG.1) (numW_length _ _) ⟨Below.refl _ _, rfl⟩
   refine StepL.other (k := 1) rfl (fun b f W hb hG hH => ?_) ?_
   ·
    obtain rfl := hb rfl
    clear hH
    generalize hA : putL _ _ _ _ = A
    clear hA
    refine Does.call rfl _ _ (by go_simp) ((ref_P_v W).mono ?_)
    rintro e w' ⟨rfl, hb'⟩
    exact ⟨_, rfl, hb', rfl⟩
   refine StepL.other (k := 2) rfl (fun b f W hb hG hH => ?_) ?_
   ·
    obtain rfl := hb rfl
    obtain ⟨d0, d1, -, -⟩ := hH
    generalize hA : putL _ _ _ _ = A
    have q11 := putLl hA 11 d0 rfl rfl
    have r11 := slot_get q11
    have q12 := putLl hA 12 d1 rfl rfl
    have r12 := slot_get q12
    clear hA
    refine Does.call rfl _ _ (by go_simp) ((PL W).mono ?_)
    rintro e w' ⟨rfl, hb'⟩
    exact ⟨_, rfl, hb', rfl⟩
   refine StepL.other (k := 3) rfl (fun b f W hb hG hH => ?_) ?_
   ·
    obtain rfl := hb rfl
    obtain ⟨d2, -⟩ := hH
    generalize hA : putL _ _ _ _ = A
    have q13 := putLl hA 13 d2 rfl rfl
    have r13 := slot_get q13
    clear hA
    refine Does.pure rfl (.tuple #[aggI .u64 (numW 4 (u + pV)), .int .u64 0]) ?_ ⟨Below.refl _ _, rfl⟩
    go_simp
   refine StepL.other (k := 4) rfl (fun b f W hb hG hH => ?_) ?_
   ·
    obtain rfl := hb rfl
    obtain ⟨d3, -⟩ := hH
    generalize hA : putL _ _ _ _ = A
    have q10 := putLl hA 10 d3 rfl rfl
    have r10 := slot_get q10
    clear hA
    refine Does.pure rfl (aggI .u64 (numW 4 (u + pV))) ?_ ⟨Below.refl _ _, rfl⟩
    go_simp
   refine StepL.other (k := 5) rfl (fun b f W hb hG hH => ?_) ?_
   ·
    obtain ⟨d3, -⟩ := hH
    generalize hA : putL _ _ _ _ = A
    have q10 := putLl hA 10 d3 rfl rfl
    have r10 := slot_get q10
    clear hA
    refine Does.pure rfl (.int .u64 0) ?_ ⟨Below.refl _ _, rfl⟩
    go_simp
   refine StepL.self (k := 6) rfl (fun f W hG hH => ?_) ?_
   ·
    obtain ⟨d4, d2, d0, d1, -, d3, -, -⟩ := hH
    generalize hA : putL _ _ _ _ = A
    have q2 : A.eval (.tmp 2) = .pointer (some ⟨w.heap.size, 0, none⟩) := putLn hA 2 rfl rfl rfl
    have r2 := slot_get q2
    have q14 := putLl hA 14 d4 rfl rfl
    have r14 := slot_get q14
    clear hA
    refine Does.storeI rfl 36 _ _ rfl 4 info_num (w.heap.size) q2 .u64 _ _ q14 hG.1 (numW_length _ _) (numW_length _ _) ?_
    intro A9
    exact ⟨⟨_, rfl⟩, ⟨A9, hG.2.1.rowOther (by omega) _, hG.2.2.1.rowOther (by omega) _, Below.setRow hG.2.2.2 (by omega) _⟩, rfl⟩
   exact trivial
  ·
   intro f W hG hH
   obtain ⟨d0, d1, d2, d3, d4, d5, d6, -⟩ : (f 0 = aggI .u64 (numW 4 u)) ∧ (f 1 = aggI .u64 (numW 4 pV)) ∧ (f 2 = .tuple #[aggI .u64 (numW 4 (u + pV)), .int .u64 0]) ∧ (f 3 = .tuple #[aggI .u64 (numW 4 (u + pV)), .int .u64 0]) ∧ (f 4 = aggI .u64 (numW 4 (u + pV))) ∧ (f 5 = .int .u64 0) ∧ (f 6 = undef) ∧ True := hH
   rw [show List.range (List.length [[], [], [0, 1, 1], [2], [3], [3], [4, 2, 0, 1, 2, 3, 4]]) = [0, 1, 2, 3, 4, 5, 6] from rfl]
   simp only [putL, List.getElem?_cons_zero, List.getElem?_cons_succ, Option.join, Option.bind_some, id_eq, Act.put, List.setIfInBounds_toArray, List.set_cons_zero, List.set_cons_succ, d0, d1, d2, d3, d4, d5]
   clear d0 d1 d2 d3 d4 d5 d6
   obtain ⟨AX, AY, AR, hbel⟩ := hG
   have AX : Arr .u64 W w.heap.size (numW 4 (u + pV)) := AX
   have hsz := hbel.size
   have hRW : w2.heap.size < W.heap.size := AR.lt
   go_wp2_with (first
     | (with_reducible refine at_n 17 ?_; refine wpList_loadI rfl 36 _ rfl 4 34 und_num info_num (w.heap.size) rfl .u64 (numW 4 (u + pV)) (AX) (numW_length _ _) ?_)
     | (with_reducible refine at_n 18 ?_; refine wpList_loadI rfl 36 _ rfl 4 34 und_num info_num (w1.heap.size) rfl .u64 (numW 4 v) (AY) (numW_length _ _) ?_)
     | (go_at_call 65; refine (MI _).mono ?_; rintro e w6 ⟨rfl, b6⟩; have R5 := AR.below b6)
     | (with_reducible refine at_n 5 ?_; refine wpList_allocI rfl 36 rfl .u64 4 zero_num ?_; intro w7 A7 s7 b7; have R6 := R5.below b7)
     | (with_reducible refine at_op (o := ⟨_, .store 36 (.tmp 5) _, _, _, _, _⟩) ?_; refine wpList_storeI rfl 36 _ _ rfl 4 info_num (w6.heap.size) rfl .u64 _ (numW 4 ((u + pV) - v)) rfl (A7) (rfl) (numW_length _ _) ?_; intro D; have hs6 := b6.size; have hRW := AR.lt; have hB0 := Below.size hbel; have hs7 : w6.heap.size < w7.heap.size := s7; have R7 := R6.rowOther (B' := w6.heap.size) (by omega) ((numW 4 ((u + pV) - v)).map (Value.int .u64)).toArray; have B7 := Below.setRow (below_then (below_then hbel b6) b7) (g := w6.heap.size) (by omega) ((numW 4 ((u + pV) - v)).map (Value.int .u64)).toArray)
     | (with_reducible refine at_n 22 ?_; refine wpList_loadI rfl 36 _ rfl 4 34 und_num info_num (w6.heap.size) rfl .u64 (numW 4 ((u + pV) - v)) (D) (numW_length _ _) ?_)
     | (with_reducible refine at_op (o := ⟨_, .store 36 (.tmp 4) _, _, _, _, _⟩) ?_; refine wpList_storeI rfl 36 _ _ rfl 4 info_num (w2.heap.size) rfl .u64 _ (numW 4 ((u + pV) - v)) rfl (R7) (rfl) (numW_length _ _) ?_; intro A9))
   refine bodyPost_ret (results_cellI rfl _ 4 34 und_num info_num (w2.heap.size) rfl .u64 _ A9 (numW_length _ _)) rfl ?_
   exact ⟨by rw [HV.out], Below.setRow B7 (by omega) _⟩
 ·
  have hval : u - v = (u - v) % pV := by rw [Int.emod_eq_of_lt (by omega) (by omega)]
  have HV := Lib.hid hval
  clear hval
  have LE := fun W => ref_less_no u v W hv.1 hlt (by omega)
  have MI := fun W => ref_minus_ge u v W hv.1 (by omega) (by omega)
  go_enter Tryd.func35, Tryd.ntmps35
  go_wp2_with (first
  | (with_reducible refine at_n 2 ?_; refine wpList_boxI rfl 36 _ rfl .u64 (numW 4 u) rfl ?_; intro w1 A1 s1 b1)
  | (with_reducible refine at_n 3 ?_; refine wpList_boxI rfl 36 _ rfl .u64 (numW 4 v) rfl ?_; intro w2 A2 s2 b2; have X2 := A1.below b2)
  | (with_reducible refine at_n 4 ?_; refine wpList_allocI rfl 36 rfl .u64 4 zero_num ?_; intro w3 A3 s3 b3; have X3 := X2.below b3; have Y3 := A2.below b3; have B3 := below_then (below_then b1 b2) b3)
  | (with_reducible refine at_n 7 ?_; refine wpList_loadI rfl 36 _ rfl 4 34 und_num info_num (w.heap.size) rfl .u64 (numW 4 u) (X3) (numW_length _ _) ?_)
  | (with_reducible refine at_n 8 ?_; refine wpList_loadI rfl 36 _ rfl 4 34 und_num info_num (w1.heap.size) rfl .u64 (numW 4 v) (Y3) (numW_length _ _) ?_)
  | (go_at_call 55; refine (LE _).mono ?_; rintro e w4 ⟨rfl, b4⟩; have X4 := X3.below b4; have Y4 := Y3.below b4; have R4 := A3.below b4; have B4 := below_then B3 b4)
  | (with_reducible refine at_n 17 ?_; refine wpList_loadI rfl 36 _ rfl 4 34 und_num info_num (w.heap.size) rfl .u64 (numW 4 u) (X4) (numW_length _ _) ?_)
  | (with_reducible refine at_n 18 ?_; refine wpList_loadI rfl 36 _ rfl 4 34 und_num info_num (w1.heap.size) rfl .u64 (numW 4 v) (Y4) (numW_length _ _) ?_)
  | (go_at_call 65; refine (MI _).mono ?_; rintro e w6 ⟨rfl, b6⟩; have R5 := R4.below b6)
  | (with_reducible refine at_n 5 ?_; refine wpList_allocI rfl 36 rfl .u64 4 zero_num ?_; intro w7 A7 s7 b7; have R6 := R5.below b7)
  | (with_reducible refine at_op (o := ⟨_, .store 36 (.tmp 5) _, _, _, _, _⟩) ?_; refine wpList_storeI rfl 36 _ _ rfl 4 info_num (w6.heap.size) rfl .u64 _ (numW 4 (u - v)) rfl (A7) (rfl) (numW_length _ _) ?_; intro D; have hs6 := b6.size; have hRW := R4.lt; have hB0 := Below.size B4; have hs7 : w6.heap.size < w7.heap.size := s7; have R7 := R6.rowOther (B' := w6.heap.size) (by omega) ((numW 4 (u - v)).map (Value.int .u64)).toArray; have B7 := Below.setRow (below_then (below_then B4 b6) b7) (g := w6.heap.size) (by omega) ((numW 4 (u - v)).map (Value.int .u64)).toArray)
  | (with_reducible refine at_n 22 ?_; refine wpList_loadI rfl 36 _ rfl 4 34 und_num info_num (w6.heap.size) rfl .u64 (numW 4 (u - v)) (D) (numW_length _ _) ?_)
  | (with_reducible refine at_op (o := ⟨_, .store 36 (.tmp 4) _, _, _, _, _⟩) ?_; refine wpList_storeI rfl 36 _ _ rfl 4 info_num (w2.heap.size) rfl .u64 _ (numW 4 (u - v)) rfl (R7) (rfl) (numW_length _ _) ?_; intro A9))
  refine bodyPost_ret (results_cellI rfl _ 4 34 und_num info_num (w2.heap.size) rfl .u64 _ A9 (numW_length _ _)) rfl ?_
  exact ⟨by rw [← HV.out], Below.setRow B7 (by omega) _⟩
end Go.Proofs.YtelppapkffjmpaaDoor
end
section
--@optional
namespace Go.Proofs.YtelppapkffjmpaaDoor
open Go.RowKit Go.Shelf
set_option linter.unusedVariables false
set_option maxRecDepth 8000

theorem pV_sum (u v : Int) : u % pV + v % pV < 2 ^ 256 := by
  have h1 := pV_mod u
  have h2 := pV_mod v
  have h3 : 2 * pV < 2 ^ 256 := by decide +kernel
  omega
end Go.Proofs.YtelppapkffjmpaaDoor
end
