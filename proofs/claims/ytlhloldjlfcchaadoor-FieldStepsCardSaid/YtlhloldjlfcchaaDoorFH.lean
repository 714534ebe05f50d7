/- Powers and inverses in package field. -/
import Derived.Test.YtlhloldjlfcchaaDoorFG
namespace Go.Proofs.YtlhloldjlfcchaaDoor
open Go.RowKit Go.Shelf
set_option linter.unusedVariables false
set_option maxRecDepth 8000

theorem powS_last {xs nb : List Int} {u : Int} (hx : Fel xs u) (hn : Bytes nb) : Fel (powS xs nb 256) (u ^ (valB nb 32).toNat % pV) := by
  have h := powS_fel xs nb u hx hn 256 (Nat.le_refl _)
  rw [Nat.sub_self, Int.pow_zero, Int.ediv_one] at h
  exact h
theorem powN_inv : Bytes (powN 235 127) := by intro x hx; revert x; decide
theorem powN_root : Bytes (powN 254 15) := by intro x hx; revert x; decide
set_option maxHeartbeats 2000000 in
theorem inverse_any (xs : List Int) (u : Int) (w : World) (hx : Fel xs u) :
    Calls Tryd.prog 42 #[aggI .u64 xs] w fun e w' => e = .returned (aggI .u64 (powS xs (powN 235 127) 256)) ∧ Below w.heap.size w w' := by
  have hxl := hx.len
  have PW := fun W => power_any xs (powN 235 127) u W hx powN_inv (by simp [powN])
  have hzl := (powS_last hx powN_inv).len
  clear hx
  generalize powS xs (powN 235 127) 256 = zs at *
  go_enter Tryd.func42, Tryd.ntmps42
  go_wp2_with (first
    | (with_reducible refine at_op (o := ⟨some 1, _, _, _, _, _⟩) ?_; refine wpList_boxI rfl 38 _ rfl .u64 xs rfl ?_; intro w1 A1 s1 b1)
    | (with_reducible refine at_op (o := ⟨some 2, _, _, _, _, _⟩) ?_; refine wpList_allocI rfl 38 rfl .u64 5 zero_limbs ?_; intro w2 A2 s2 b2; have X2 := A1.below b2))
  refine wp_region_ord [[], [], [0, 1, 1], [2, 2, 0, 1, 2]] [some 3, some 4, some 5, none] 3 (fun b w' => Arr .u64 w' w.heap.size xs ∧ Arr .u64 w' w1.heap.size (if b then zs else List.replicate 5 0) ∧ Below w.heap.size w w') (fun opn f _ => match opn with | 0 => f 0 = aggI .u64 xs | 1 => f 1 = aggI .u8 (powN 235 127) | 2 => f 2 = aggI .u64 zs | 3 => f 3 = undef | _ => True) (fun _ v v' => ∃ cs, v' = v.setRow (w1.heap.size) cs) (by kernel_rfl) (by kernel_rfl) (by kernel_rfl) (by kernel_rfl) (fun b v v' hb h => ⟨h.1.below hb, h.2.1.below hb, below_then h.2.2 hb⟩) (fun _ _ _ _ _ h => h) (fun _ _ _ _ _ _ _ h => h) ⟨X2.drew, A2.drew, (below_then b1 b2).drew⟩ ?_ ?_
  ·
    refine StepL.other (k := 0) rfl (fun b f W hb hG hH => ?_) ?_
    · -- 0
      obtain rfl := hb rfl
      clear hH
      generalize hA : putL _ _ _ _ = A
      have q1 : A.eval (.tmp 1) = .pointer (some ⟨w.heap.size, 0, none⟩) := by rw [← hA]; exact putL_none rfl rfl rfl rfl
      have r1 : A.tmps[1]?.getD undef = .pointer (some ⟨w.heap.size, 0, none⟩) := slot_get q1
      clear hA
      exact Does.loadI rfl 38 _ rfl 5 33 und_limbs info_limbs (w.heap.size) q1 .u64 (xs) (hG.1) (hxl) ⟨Below.refl _ _, rfl⟩
    refine StepL.other (k := 1) rfl (fun b f W hb hG hH => ?_) ?_
    · -- 1
      obtain rfl := hb rfl
      clear hH
      generalize hA : putL _ _ _ _ = A
      clear hA
      refine Does.call rfl _ _ (by go_simp) ((pow_any 235 127 W).mono ?_)
      rintro e w' ⟨rfl, hb'⟩
      exact ⟨_, rfl, hb', rfl⟩
    refine StepL.other (k := 2) rfl (fun b f W hb hG hH => ?_) ?_
    · -- 2
      obtain rfl := hb rfl
      obtain ⟨d0, d1, -, -⟩ : (f 0 = aggI .u64 xs) ∧ (f 1 = aggI .u8 (powN 235 127)) ∧ (f 1 = aggI .u8 (powN 235 127)) ∧ True := hH
      generalize hA : putL _ _ _ _ = A
      have q3 : A.eval (.tmp 3) = aggI .u64 xs := by rw [← hA]; exact putL_look rfl rfl rfl d0
      have r3 : A.tmps[3]?.getD undef = aggI .u64 xs := slot_get q3
      have q4 : A.eval (.tmp 4) = aggI .u8 (powN 235 127) := by rw [← hA]; exact putL_look rfl rfl rfl d1
      have r4 : A.tmps[4]?.getD undef = aggI .u8 (powN 235 127) := slot_get q4
      clear hA
      refine Does.call rfl _ _ (by go_simp) ((PW W).mono ?_)
      rintro e w' ⟨rfl, hb'⟩
      exact ⟨_, rfl, hb', rfl⟩
    refine StepL.self (k := 3) rfl (fun f W hG hH => ?_) ?_
    · -- 3
      obtain ⟨d2, -, d0, d1, -, -⟩ : (f 2 = aggI .u64 zs) ∧ (f 2 = aggI .u64 zs) ∧ (f 0 = aggI .u64 xs) ∧ (f 1 = aggI .u8 (powN 235 127)) ∧ (f 2 = aggI .u64 zs) ∧ True := hH
      generalize hA : putL _ _ _ _ = A
      have q2 : A.eval (.tmp 2) = .pointer (some ⟨w1.heap.size, 0, none⟩) := by rw [← hA]; exact putL_none rfl rfl rfl rfl
      have r2 : A.tmps[2]?.getD undef = .pointer (some ⟨w1.heap.size, 0, none⟩) := slot_get q2
      have q5 : A.eval (.tmp 5) = aggI .u64 zs := by rw [← hA]; exact putL_look rfl rfl rfl d2
      have r5 : A.tmps[5]?.getD undef = aggI .u64 zs := slot_get q5
      clear hA
      refine Does.storeI rfl 38 _ _ rfl 5 info_limbs (w1.heap.size) q2 .u64 _ _ q5 hG.2.1 rfl hzl ?_
      intro A9
      exact ⟨⟨_, rfl⟩, ⟨hG.1.rowOther (by omega) _, A9, Below.setRow hG.2.2 (by omega) _⟩, rfl⟩
    exact trivial
  ·
    intro f W hG hH
    obtain ⟨d0, d1, d2, d3, -⟩ : (f 0 = aggI .u64 xs) ∧ (f 1 = aggI .u8 (powN 235 127)) ∧ (f 2 = aggI .u64 zs) ∧ (f 3 = undef) ∧ True := hH
    rw [show List.range (List.length [[], [], [0, 1, 1], [2, 2, 0, 1, 2]]) = [0, 1, 2, 3] from rfl]
    simp only [putL, List.getElem?_cons_zero, List.getElem?_cons_succ, Option.join, Option.bind_some, id_eq, Act.put, List.setIfInBounds_toArray, List.set_cons_zero, List.set_cons_succ, d0, d1, d2]
    clear d0 d1 d2 d3
    obtain ⟨-, A9, hbel⟩ := hG
    have A9 : Arr .u64 W (w1.heap.size) zs := A9
    go_wp2
    refine bodyPost_ret (results_cellI rfl _ 5 33 und_limbs info_limbs (w1.heap.size) rfl .u64 _ A9 hzl) rfl ?_
    exact ⟨rfl, hbel⟩
set_option maxHeartbeats 2000000 in
theorem inv_v (xb : List Int) (w : World) (hxb : Bytes xb) (hxl : xb.length = 32) :
    Calls Tryd.prog 23 #[aggI .u8 xb] w fun e w' => e = .returned (aggI .u8 (numB ((valB xb 32 % pV) ^ (valB (powN 235 127) 32).toNat % pV))) ∧ Below w.heap.size w w' := by
  have LX := fun W => load_any xb W hxb hxl
  have hx := loadL_fel xb hxb
  have hz := powS_last hx powN_inv
  have IV := fun W => inverse_any _ _ W hx
  generalize (valB xb 32 % pV) ^ (valB (powN 235 127) 32).toNat % pV = v at *
  clear hx
  generalize carriedS (loadL xb) = xs at *
  generalize powS xs (powN 235 127) 256 = zs at *
  have BZ := fun W => bytes_v _ _ W hz
  clear hz
  go_enter Tryd.func23, Tryd.ntmps23
  go_wp2_with (first
    | (with_reducible refine at_op (o := ⟨some 1, _, _, _, _, _⟩) ?_; refine wpList_boxI rfl 22 _ rfl .u8 xb rfl ?_; intro w1 A1 s1 b1)
    | (with_reducible refine at_op (o := ⟨some 2, _, _, _, _, _⟩) ?_; refine wpList_allocI rfl 22 rfl .u8 32 zero_a32 ?_; intro w2 A2 s2 b2; have X2 := A1.below b2)
    | (with_reducible refine at_op (o := ⟨some 3, _, _, _, _, _⟩) ?_; refine wpList_loadI rfl 22 _ rfl 32 5 und_a32 info_a32 (w.heap.size) rfl .u8 (xb) (X2) (hxl) ?_)
    | (go_at_call 29; refine (LX _).mono ?_; rintro e w3 ⟨rfl, b3⟩; have R3 := A2.below b3)
    | (go_at_call 42; refine (IV _).mono ?_; rintro e w4 ⟨rfl, b4⟩; have R4 := R3.below b4)
    | (go_at_call 31; refine (BZ _).mono ?_; rintro e w5 ⟨rfl, b5⟩; have R5 := R4.below b5)
    | (with_reducible refine at_op (o := ⟨_, .store 22 _ _, _, _, _, _⟩) ?_; refine wpList_storeI rfl 22 _ _ rfl 32 info_a32 (w1.heap.size) rfl .u8 _ (numB v) rfl (R5) (rfl) (numB_length _) ?_; intro A9))
  refine bodyPost_ret (results_cellI rfl _ 32 5 und_a32 info_a32 (w1.heap.size) rfl .u8 _ A9 (numB_length _)) rfl ?_
  exact ⟨rfl, Below.setRow (below_then (below_then (below_then (below_then b1 b2) b3) b4) b5) (by omega) _⟩
set_option maxHeartbeats 2000000 in
theorem power_v (xb nb : List Int) (w : World) (hxb : Bytes xb) (hnb : Bytes nb) (hxl : xb.length = 32) (hnl : nb.length = 32) :
    Calls Tryd.prog 21 #[aggI .u8 xb, aggI .u8 nb] w fun e w' => e = .returned (aggI .u8 (numB ((valB xb 32 % pV) ^ (valB nb 32).toNat % pV))) ∧ Below w.heap.size w w' := by
  have LX := fun W => load_any xb W hxb hxl
  have hx := loadL_fel xb hxb
  have hz := powS_last hx hnb
  have PW := fun W => power_any _ nb _ W hx hnb hnl
  generalize (valB xb 32 % pV) ^ (valB nb 32).toNat % pV = v at *
  clear hx
  generalize carriedS (loadL xb) = xs at *
  generalize powS xs nb 256 = zs at *
  have BZ := fun W => bytes_v _ _ W hz
  clear hz
  go_enter Tryd.func21, Tryd.ntmps21
  go_wp2_with (first
    | (with_reducible refine at_op (o := ⟨some 2, _, _, _, _, _⟩) ?_; refine wpList_boxI rfl 22 _ rfl .u8 xb rfl ?_; intro w1 A1 s1 b1)
    | (with_reducible refine at_op (o := ⟨some 3, _, _, _, _, _⟩) ?_; refine wpList_boxI rfl 22 _ rfl .u8 nb rfl ?_; intro w2 A2 s2 b2; have X2 := A1.below b2)
    | (with_reducible refine at_op (o := ⟨some 4, _, _, _, _, _⟩) ?_; refine wpList_allocI rfl 22 rfl .u8 32 zero_a32 ?_; intro w3 A3 s3 b3; have X3 := X2.below b3; have Y3 := A2.below b3))
  refine wp_region_ord [[], [0], [], [1, 2, 1], [3, 3], [4, 4, 0, 1, 2, 3, 4]] [some 5, some 6, some 7, some 8, some 9, none] 5 (fun b w' => Arr .u8 w' w.heap.size xb ∧ Arr .u8 w' w1.heap.size nb ∧ Arr .u8 w' w2.heap.size (if b then numB v else List.replicate 32 0) ∧ Below w.heap.size w w') (fun opn f _ => match opn with | 0 => f 0 = aggI .u8 xb | 1 => f 1 = aggI .u64 xs | 2 => f 2 = aggI .u8 nb | 3 => f 3 = aggI .u64 zs | 4 => f 4 = aggI .u8 (numB v) | 5 => f 5 = undef | _ => True) (fun _ v v' => ∃ cs, v' = v.setRow (w2.heap.size) cs) (by kernel_rfl) (by kernel_rfl) (by kernel_rfl) (by kernel_rfl) (fun b v v' hb h => ⟨h.1.below hb, h.2.1.below hb, h.2.2.1.below hb, below_then h.2.2.2 hb⟩) (fun _ _ _ _ _ h => h) (fun _ _ _ _ _ _ _ h => h) ⟨X3.drew, Y3.drew, A3.drew, (below_then (below_then b1 b2) b3).drew⟩ ?_ ?_
  ·
    refine StepL.other (k := 0) rfl (fun b f W hb hG hH => ?_) ?_
    · -- 0
      obtain rfl := hb rfl
      clear hH
      generalize hA : putL _ _ _ _ = A
      have q2 : A.eval (.tmp 2) = .pointer (some ⟨w.heap.size, 0, none⟩) := by rw [← hA]; exact putL_none rfl rfl rfl rfl
      have r2 : A.tmps[2]?.getD undef = .pointer (some ⟨w.heap.size, 0, none⟩) := slot_get q2
      clear hA
      exact Does.loadI rfl 22 _ rfl 32 5 und_a32 info_a32 (w.heap.size) q2 .u8 (xb) (hG.1) (hxl) ⟨Below.refl _ _, rfl⟩
    refine StepL.other (k := 1) rfl (fun b f W hb hG hH => ?_) ?_
    · -- 1
      obtain rfl := hb rfl
      obtain ⟨d0, -⟩ : (f 0 = aggI .u8 xb) ∧ True := hH
      generalize hA : putL _ _ _ _ = A
      have q5 : A.eval (.tmp 5) = aggI .u8 xb := by rw [← hA]; exact putL_look rfl rfl rfl d0
      have r5 : A.tmps[5]?.getD undef = aggI .u8 xb := slot_get q5
      clear hA
      refine Does.call rfl _ _ (by go_simp) ((LX W).mono ?_)
      rintro e w' ⟨rfl, hb'⟩
      exact ⟨_, rfl, hb', rfl⟩
    refine StepL.other (k := 2) rfl (fun b f W hb hG hH => ?_) ?_
    · -- 2
      obtain rfl := hb rfl
      clear hH
      generalize hA : putL _ _ _ _ = A
      have q3 : A.eval (.tmp 3) = .pointer (some ⟨w1.heap.size, 0, none⟩) := by rw [← hA]; exact putL_none rfl rfl rfl rfl
      have r3 : A.tmps[3]?.getD undef = .pointer (some ⟨w1.heap.size, 0, none⟩) := slot_get q3
      clear hA
      exact Does.loadI rfl 22 _ rfl 32 5 und_a32 info_a32 (w1.heap.size) q3 .u8 (nb) (hG.2.1) (hnl) ⟨Below.refl _ _, rfl⟩
    refine StepL.other (k := 3) rfl (fun b f W hb hG hH => ?_) ?_
    · -- 3
      obtain rfl := hb rfl
      obtain ⟨d1, d2, -, -⟩ : (f 1 = aggI .u64 xs) ∧ (f 2 = aggI .u8 nb) ∧ (f 1 = aggI .u64 xs) ∧ True := hH
      generalize hA : putL _ _ _ _ = A
      have q6 : A.eval (.tmp 6) = aggI .u64 xs := by rw [← hA]; exact putL_look rfl rfl rfl d1
      have r6 : A.tmps[6]?.getD undef = aggI .u64 xs := slot_get q6
      have q7 : A.eval (.tmp 7) = aggI .u8 nb := by rw [← hA]; exact putL_look rfl rfl rfl d2
      have r7 : A.tmps[7]?.getD undef = aggI .u8 nb := slot_get q7
      clear hA
      refine Does.call rfl _ _ (by go_simp) ((PW W).mono ?_)
      rintro e w' ⟨rfl, hb'⟩
      exact ⟨_, rfl, hb', rfl⟩
    refine StepL.other (k := 4) rfl (fun b f W hb hG hH => ?_) ?_
    · -- 4
      obtain rfl := hb rfl
      obtain ⟨d3, -, -⟩ : (f 3 = aggI .u64 zs) ∧ (f 3 = aggI .u64 zs) ∧ True := hH
      generalize hA : putL _ _ _ _ = A
      have q8 : A.eval (.tmp 8) = aggI .u64 zs := by rw [← hA]; exact putL_look rfl rfl rfl d3
      have r8 : A.tmps[8]?.getD undef = aggI .u64 zs := slot_get q8
      clear hA
      refine Does.call rfl _ _ (by go_simp) ((BZ W).mono ?_)
      rintro e w' ⟨rfl, hb'⟩
      exact ⟨_, rfl, hb', rfl⟩
    refine StepL.self (k := 5) rfl (fun f W hG hH => ?_) ?_
    · -- 5
      obtain ⟨d4, -, d0, d1, d2, d3, -, -⟩ : (f 4 = aggI .u8 (numB v)) ∧ (f 4 = aggI .u8 (numB v)) ∧ (f 0 = aggI .u8 xb) ∧ (f 1 = aggI .u64 xs) ∧ (f 2 = aggI .u8 nb) ∧ (f 3 = aggI .u64 zs) ∧ (f 4 = aggI .u8 (numB v)) ∧ True := hH
      generalize hA : putL _ _ _ _ = A
      have q4 : A.eval (.tmp 4) = .pointer (some ⟨w2.heap.size, 0, none⟩) := by rw [← hA]; exact putL_none rfl rfl rfl rfl
      have r4 : A.tmps[4]?.getD undef = .pointer (some ⟨w2.heap.size, 0, none⟩) := slot_get q4
      have q9 : A.eval (.tmp 9) = aggI .u8 (numB v) := by rw [← hA]; exact putL_look rfl rfl rfl d4
      have r9 : A.tmps[9]?.getD undef = aggI .u8 (numB v) := slot_get q9
      clear hA
      refine Does.storeI rfl 22 _ _ rfl 32 info_a32 (w2.heap.size) q4 .u8 _ _ q9 hG.2.2.1 rfl (numB_length _) ?_
      intro A9
      exact ⟨⟨_, rfl⟩, ⟨hG.1.rowOther (by omega) _, hG.2.1.rowOther (by omega) _, A9, Below.setRow hG.2.2.2 (by omega) _⟩, rfl⟩
    exact trivial
  ·
    intro f W hG hH
    obtain ⟨d0, d1, d2, d3, d4, d5, -⟩ : (f 0 = aggI .u8 xb) ∧ (f 1 = aggI .u64 xs) ∧ (f 2 = aggI .u8 nb) ∧ (f 3 = aggI .u64 zs) ∧ (f 4 = aggI .u8 (numB v)) ∧ (f 5 = undef) ∧ True := hH
    rw [show List.range (List.length [[], [0], [], [1, 2, 1], [3, 3], [4, 4, 0, 1, 2, 3, 4]]) = [0, 1, 2, 3, 4, 5] from rfl]
    simp only [putL, List.getElem?_cons_zero, List.getElem?_cons_succ, Option.join, Option.bind_some, id_eq, Act.put, List.setIfInBounds_toArray, List.set_cons_zero, List.set_cons_succ, d0, d1, d2, d3, d4]
    clear d0 d1 d2 d3 d4 d5
    obtain ⟨-, -, A9, hbel⟩ := hG
    have A9 : Arr .u8 W (w2.heap.size) (numB v) := A9
    go_wp2
    refine bodyPost_ret (results_cellI rfl _ 32 5 und_a32 info_a32 (w2.heap.size) rfl .u8 _ A9 (numB_length _)) rfl ?_
    exact ⟨rfl, hbel⟩
end Go.Proofs.YtlhloldjlfcchaaDoor
