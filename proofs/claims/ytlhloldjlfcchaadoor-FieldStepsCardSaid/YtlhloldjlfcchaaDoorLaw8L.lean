/- The law on the laws of a field, walked. -/
import Derived.Test.YtlhloldjlfcchaaDoorFO
import Derived.Test.YtlhloldjlfcchaaDoorNeq
namespace Go.Proofs.YtlhloldjlfcchaaDoor
open Go.RowKit Go.Shelf
set_option linter.unusedVariables false
set_option maxRecDepth 8000

set_option maxHeartbeats 8000000 in
theorem laws_walk (xb yb zb s m t u n v d k r i o : List Int) (bz : Bool) (w : World) (hT : Tab w)
    (lxb : xb.length = 32)
    (lyb : yb.length = 32)
    (lzb : zb.length = 32)
    (ls : s.length = 32)
    (lm : m.length = 32)
    (lt : t.length = 32)
    (lu : u.length = 32)
    (ln : n.length = 32)
    (lv : v.length = 32)
    (ld : d.length = 32)
    (lk : k.length = 32)
    (lr : r.length = 32)
    (li : i.length = 32)
    (lo : o.length = 32)
    (H0 : ∀ W, Calls Tryd.prog 11 #[aggI .u8 xb, aggI .u8 yb] W fun e w' => e = .returned (aggI .u8 s) ∧ Below W.heap.size W w')
    (H1 : ∀ W, Calls Tryd.prog 11 #[aggI .u8 yb, aggI .u8 xb] W fun e w' => e = .returned (aggI .u8 s) ∧ Below W.heap.size W w')
    (H2 : ∀ W, Calls Tryd.prog 19 #[aggI .u8 xb, aggI .u8 yb] W fun e w' => e = .returned (aggI .u8 m) ∧ Below W.heap.size W w')
    (H3 : ∀ W, Calls Tryd.prog 19 #[aggI .u8 yb, aggI .u8 xb] W fun e w' => e = .returned (aggI .u8 m) ∧ Below W.heap.size W w')
    (H4 : ∀ W, Calls Tryd.prog 11 #[aggI .u8 s, aggI .u8 zb] W fun e w' => e = .returned (aggI .u8 t) ∧ Below W.heap.size W w')
    (H5 : ∀ W, Calls Tryd.prog 11 #[aggI .u8 yb, aggI .u8 zb] W fun e w' => e = .returned (aggI .u8 u) ∧ Below W.heap.size W w')
    (H6 : ∀ W, Calls Tryd.prog 11 #[aggI .u8 xb, aggI .u8 u] W fun e w' => e = .returned (aggI .u8 t) ∧ Below W.heap.size W w')
    (H7 : ∀ W, Calls Tryd.prog 19 #[aggI .u8 m, aggI .u8 zb] W fun e w' => e = .returned (aggI .u8 n) ∧ Below W.heap.size W w')
    (H8 : ∀ W, Calls Tryd.prog 19 #[aggI .u8 yb, aggI .u8 zb] W fun e w' => e = .returned (aggI .u8 v) ∧ Below W.heap.size W w')
    (H9 : ∀ W, Calls Tryd.prog 19 #[aggI .u8 xb, aggI .u8 v] W fun e w' => e = .returned (aggI .u8 n) ∧ Below W.heap.size W w')
    (H10 : ∀ W, Calls Tryd.prog 19 #[aggI .u8 xb, aggI .u8 u] W fun e w' => e = .returned (aggI .u8 d) ∧ Below W.heap.size W w')
    (H11 : ∀ W, Calls Tryd.prog 19 #[aggI .u8 xb, aggI .u8 zb] W fun e w' => e = .returned (aggI .u8 k) ∧ Below W.heap.size W w')
    (H12 : ∀ W, Calls Tryd.prog 11 #[aggI .u8 m, aggI .u8 k] W fun e w' => e = .returned (aggI .u8 d) ∧ Below W.heap.size W w')
    (H13 : ∀ W, Calls Tryd.prog 13 #[aggI .u8 s, aggI .u8 yb] W fun e w' => e = .returned (aggI .u8 r) ∧ Below W.heap.size W w')
    (H14 : ∀ W, Calls Tryd.prog 15 #[aggI .u8 xb] W fun e w' => e = .returned (aggI .u8 r) ∧ Below W.heap.size W w')
    (H15 : ∀ W, Calls Tryd.prog 23 #[aggI .u8 xb] W fun e w' => e = .returned (aggI .u8 i) ∧ Below W.heap.size W w')
    (H16 : ∀ W, Calls Tryd.prog 19 #[aggI .u8 xb, aggI .u8 i] W fun e w' => e = .returned (aggI .u8 o) ∧ Below W.heap.size W w')
    (hz : decide (r = List.replicate 32 0) = bz) (hz0 : bz = false → o = unit32 1) (hz1 : bz = true → o = List.replicate 32 0) :
    Calls Tryd.prog 7 #[aggI .u8 xb, aggI .u8 yb, aggI .u8 zb] w fun e w' => e = .returned (.bool true) ∧ Below w.heap.size w w' := by
  go_enter Tryd.func7, Tryd.ntmps7
  go_wp2_with (first
    | (with_reducible refine at_op (o := ⟨some 3, _, _, _, _, _⟩) ?_; refine wpList_boxI rfl 22 _ rfl .u8 xb rfl ?_; intro w1 A1 s1 b1)
    | (with_reducible refine at_op (o := ⟨some 4, _, _, _, _, _⟩) ?_; refine wpList_boxI rfl 22 _ rfl .u8 yb rfl ?_; intro w2 A2 s2 b2; have X2 := A1.below b2)
    | (with_reducible refine at_op (o := ⟨some 5, _, _, _, _, _⟩) ?_; refine wpList_boxI rfl 22 _ rfl .u8 zb rfl ?_; intro w3 A3 s3 b3; have X3 := X2.below b3; have Y3 := A2.below b3)
    | (go_at_call 10; refine (alive_v _ (hT.below (below_then (below_then b1 b2) b3))).mono ?_; rintro e w4 ⟨rfl, b4⟩; have X4 := X3.below b4; have Y4 := Y3.below b4; have Z4 := A3.below b4))
  refine wp_region_ord [[], [], [0, 1], [], [], [3, 4, 2], [2, 5], [6, 5], [7], [7], [8, 9, 7, 7], [7], [7], [11, 12, 10, 7], [10, 13, 7], [7, 14], [15, 13], [16], [16], [17, 18, 16, 16], [16], [19, 20, 19, 16], [16], [16], [16], [23, 24, 21, 16], [22, 25, 25, 16], [21, 26, 16], [16, 27], [28, 26], [29], [29], [30, 31, 29, 29], [29], [32, 33, 32, 29], [29], [29], [29], [36, 37, 34, 29], [35, 38, 38, 29], [34, 39, 29], [29, 40]] [some 10, some 11, some 12, some 13, some 14, some 15, some 16, some 17, some 18, some 19, some 20, some 21, some 22, some 23, some 24, some 25, some 26, some 27, some 28, some 29, some 30, some 31, some 32, some 33, some 34, some 35, some 36, some 37, some 38, some 39, some 40, some 41, some 42, some 43, some 44, some 45, some 46, some 47, some 48, some 49, some 50, some 51] 42 (fun b w' => Arr .u8 w' w.heap.size xb ∧ Arr .u8 w' w1.heap.size yb ∧ Arr .u8 w' w2.heap.size zb ∧ Below w3.heap.size w3 w') (fun opn f _ => match opn with | 0 => f 0 = aggI .u8 xb | 1 => f 1 = aggI .u8 yb | 2 => f 2 = aggI .u8 s | 3 => f 3 = aggI .u8 yb | 4 => f 4 = aggI .u8 xb | 5 => f 5 = aggI .u8 s | 6 => f 6 = .bool false | 7 => f 7 = .bool false | 8 => f 8 = aggI .u8 xb | 9 => f 9 = aggI .u8 yb | 10 => f 10 = aggI .u8 m | 11 => f 11 = aggI .u8 yb | 12 => f 12 = aggI .u8 xb | 13 => f 13 = aggI .u8 m | 14 => f 14 = .bool false | 15 => f 15 = .bool false | 16 => f 16 = .bool false | 17 => f 17 = aggI .u8 xb | 18 => f 18 = aggI .u8 yb | 19 => f 19 = aggI .u8 s | 20 => f 20 = aggI .u8 zb | 21 => f 21 = aggI .u8 t | 22 => f 22 = aggI .u8 xb | 23 => f 23 = aggI .u8 yb | 24 => f 24 = aggI .u8 zb | 25 => f 25 = aggI .u8 u | 26 => f 26 = aggI .u8 t | 27 => f 27 = .bool false | 28 => f 28 = .bool false | 29 => f 29 = .bool false | 30 => f 30 = aggI .u8 xb | 31 => f 31 = aggI .u8 yb | 32 => f 32 = aggI .u8 m | 33 => f 33 = aggI .u8 zb | 34 => f 34 = aggI .u8 n | 35 => f 35 = aggI .u8 xb | 36 => f 36 = aggI .u8 yb | 37 => f 37 = aggI .u8 zb | 38 => f 38 = aggI .u8 v | 39 => f 39 = aggI .u8 n | 40 => f 40 = .bool false | 41 => f 41 = .bool false | _ => True) (fun _ _ _ => True) (by kernel_rfl) (by kernel_rfl) (by kernel_rfl) (by kernel_rfl) (fun b v v' hb h => ⟨h.1.below hb, h.2.1.below hb, h.2.2.1.below hb, below_then h.2.2.2 hb⟩) (fun _ _ _ _ _ h => h) (fun _ _ _ _ _ _ _ h => h) ⟨X4.drew, Y4.drew, Z4.drew, b4.drew⟩ ?_ ?_
  ·
    refine StepL.other (k := 0) rfl (fun b f W hb hG hH => ?_) ?_
    · -- 0
      clear hH
      generalize hA : putL _ _ _ _ = A
      have q3 : A.eval (.tmp 3) = .pointer (some ⟨w.heap.size, 0, none⟩) := by rw [← hA]; exact putL_none rfl rfl rfl rfl
      have r3 : A.tmps[3]?.getD undef = .pointer (some ⟨w.heap.size, 0, none⟩) := slot_get q3
      clear hA
      exact Does.loadI rfl 22 _ rfl 32 5 und_a32 info_a32 (w.heap.size) q3 .u8 (xb) (hG.1) (lxb) ⟨Below.refl _ _, rfl⟩
    refine StepL.other (k := 1) rfl (fun b f W hb hG hH => ?_) ?_
    · -- 1
      clear hH
      generalize hA : putL _ _ _ _ = A
      have q4 : A.eval (.tmp 4) = .pointer (some ⟨w1.heap.size, 0, none⟩) := by rw [← hA]; exact putL_none rfl rfl rfl rfl
      have r4 : A.tmps[4]?.getD undef = .pointer (some ⟨w1.heap.size, 0, none⟩) := slot_get q4
      clear hA
      exact Does.loadI rfl 22 _ rfl 32 5 und_a32 info_a32 (w1.heap.size) q4 .u8 (yb) (hG.2.1) (lyb) ⟨Below.refl _ _, rfl⟩
    refine StepL.other (k := 2) rfl (fun b f W hb hG hH => ?_) ?_
    · -- 2
      obtain ⟨d0, d1, -⟩ : (f 0 = aggI .u8 xb) ∧ (f 1 = aggI .u8 yb) ∧ True := hH
      generalize hA : putL _ _ _ _ = A
      have q10 : A.eval (.tmp 10) = aggI .u8 xb := by rw [← hA]; exact putL_look rfl rfl rfl d0
      have r10 : A.tmps[10]?.getD undef = aggI .u8 xb := slot_get q10
      have q11 : A.eval (.tmp 11) = aggI .u8 yb := by rw [← hA]; exact putL_look rfl rfl rfl d1
      have r11 : A.tmps[11]?.getD undef = aggI .u8 yb := slot_get q11
      clear hA
      refine Does.call rfl _ _ (by go_simp) ((H0 W).mono ?_)
      rintro e w' ⟨rfl, hb'⟩
      exact ⟨_, rfl, hb', rfl⟩
    refine StepL.other (k := 3) rfl (fun b f W hb hG hH => ?_) ?_
    · -- 3
      clear hH
      generalize hA : putL _ _ _ _ = A
      have q4 : A.eval (.tmp 4) = .pointer (some ⟨w1.heap.size, 0, none⟩) := by rw [← hA]; exact putL_none rfl rfl rfl rfl
      have r4 : A.tmps[4]?.getD undef = .pointer (some ⟨w1.heap.size, 0, none⟩) := slot_get q4
      clear hA
      exact Does.loadI rfl 22 _ rfl 32 5 und_a32 info_a32 (w1.heap.size) q4 .u8 (yb) (hG.2.1) (lyb) ⟨Below.refl _ _, rfl⟩
    refine StepL.other (k := 4) rfl (fun b f W hb hG hH => ?_) ?_
    · -- 4
      clear hH
      generalize hA : putL _ _ _ _ = A
      have q3 : A.eval (.tmp 3) = .pointer (some ⟨w.heap.size, 0, none⟩) := by rw [← hA]; exact putL_none rfl rfl rfl rfl
      have r3 : A.tmps[3]?.getD undef = .pointer (some ⟨w.heap.size, 0, none⟩) := slot_get q3
      clear hA
      exact Does.loadI rfl 22 _ rfl 32 5 und_a32 info_a32 (w.heap.size) q3 .u8 (xb) (hG.1) (lxb) ⟨Below.refl _ _, rfl⟩
    refine StepL.other (k := 5) rfl (fun b f W hb hG hH => ?_) ?_
    · -- 5
      obtain ⟨d3, d4, d2, -⟩ : (f 3 = aggI .u8 yb) ∧ (f 4 = aggI .u8 xb) ∧ (f 2 = aggI .u8 s) ∧ True := hH
      generalize hA : putL _ _ _ _ = A
      have q13 : A.eval (.tmp 13) = aggI .u8 yb := by rw [← hA]; exact putL_look rfl rfl rfl d3
      have r13 : A.tmps[13]?.getD undef = aggI .u8 yb := slot_get q13
      have q14 : A.eval (.tmp 14) = aggI .u8 xb := by rw [← hA]; exact putL_look rfl rfl rfl d4
      have r14 : A.tmps[14]?.getD undef = aggI .u8 xb := slot_get q14
      clear hA
      refine Does.call rfl _ _ (by go_simp) ((H1 W).mono ?_)
      rintro e w' ⟨rfl, hb'⟩
      exact ⟨_, rfl, hb', rfl⟩
    refine StepL.other (k := 6) rfl (fun b f W hb hG hH => ?_) ?_
    · -- 6
      obtain ⟨d2, d5, -⟩ : (f 2 = aggI .u8 s) ∧ (f 5 = aggI .u8 s) ∧ True := hH
      generalize hA : putL _ _ _ _ = A
      have q12 : A.eval (.tmp 12) = aggI .u8 s := by rw [← hA]; exact putL_look rfl rfl rfl d2
      have r12 : A.tmps[12]?.getD undef = aggI .u8 s := slot_get q12
      have q15 : A.eval (.tmp 15) = aggI .u8 s := by rw [← hA]; exact putL_look rfl rfl rfl d5
      have r15 : A.tmps[15]?.getD undef = aggI .u8 s := slot_get q15
      clear hA
      exact Does.neI rfl 22 _ 5 _ _ rfl 32 und_a32 .u8 .u8 Tryd.underlying5 (by kernel_rfl) (by kernel_rfl) (s) (s) q12 q15 (ls) (ls) false (by simp) ⟨Below.refl _ _, rfl⟩
    refine StepL.other (k := 7) rfl (fun b f W hb hG hH => ?_) ?_
    · -- 7
      obtain ⟨d6, d5, -⟩ : (f 6 = .bool false) ∧ (f 5 = aggI .u8 s) ∧ True := hH
      generalize hA : putL _ _ _ _ = A
      have q16 : A.eval (.tmp 16) = .bool false := by rw [← hA]; exact putL_look rfl rfl rfl d6
      have r16 : A.tmps[16]?.getD undef = .bool false := slot_get q16
      clear hA
      refine Does.pure rfl (.bool false) ?_ ⟨Below.refl _ _, rfl⟩
      go_simp
    refine StepL.other (k := 8) rfl (fun b f W hb hG hH => ?_) ?_
    · -- 8
      obtain ⟨d7, -⟩ : (f 7 = .bool false) ∧ True := hH
      generalize hA : putL _ _ _ _ = A
      have q3 : A.eval (.tmp 3) = .pointer (some ⟨w.heap.size, 0, none⟩) := by rw [← hA]; exact putL_none rfl rfl rfl rfl
      have r3 : A.tmps[3]?.getD undef = .pointer (some ⟨w.heap.size, 0, none⟩) := slot_get q3
      have q17 : A.eval (.tmp 17) = .bool false := by rw [← hA]; exact putL_look rfl rfl rfl d7
      have r17 : A.tmps[17]?.getD undef = .bool false := slot_get q17
      clear hA
      exact Does.loadI (wanted_of (b := false) rfl rfl q17) 22 _ rfl 32 5 und_a32 info_a32 (w.heap.size) q3 .u8 (xb) (hG.1) (lxb) ⟨Below.refl _ _, rfl⟩
    refine StepL.other (k := 9) rfl (fun b f W hb hG hH => ?_) ?_
    · -- 9
      obtain ⟨d7, -⟩ : (f 7 = .bool false) ∧ True := hH
      generalize hA : putL _ _ _ _ = A
      have q4 : A.eval (.tmp 4) = .pointer (some ⟨w1.heap.size, 0, none⟩) := by rw [← hA]; exact putL_none rfl rfl rfl rfl
      have r4 : A.tmps[4]?.getD undef = .pointer (some ⟨w1.heap.size, 0, none⟩) := slot_get q4
      have q17 : A.eval (.tmp 17) = .bool false := by rw [← hA]; exact putL_look rfl rfl rfl d7
      have r17 : A.tmps[17]?.getD undef = .bool false := slot_get q17
      clear hA
      exact Does.loadI (wanted_of (b := false) rfl rfl q17) 22 _ rfl 32 5 und_a32 info_a32 (w1.heap.size) q4 .u8 (yb) (hG.2.1) (lyb) ⟨Below.refl _ _, rfl⟩
    refine StepL.other (k := 10) rfl (fun b f W hb hG hH => ?_) ?_
    · -- 10
      obtain ⟨d8, d9, d7, -, -⟩ : (f 8 = aggI .u8 xb) ∧ (f 9 = aggI .u8 yb) ∧ (f 7 = .bool false) ∧ (f 7 = .bool false) ∧ True := hH
      generalize hA : putL _ _ _ _ = A
      have q18 : A.eval (.tmp 18) = aggI .u8 xb := by rw [← hA]; exact putL_look rfl rfl rfl d8
      have r18 : A.tmps[18]?.getD undef = aggI .u8 xb := slot_get q18
      have q19 : A.eval (.tmp 19) = aggI .u8 yb := by rw [← hA]; exact putL_look rfl rfl rfl d9
      have r19 : A.tmps[19]?.getD undef = aggI .u8 yb := slot_get q19
      have q17 : A.eval (.tmp 17) = .bool false := by rw [← hA]; exact putL_look rfl rfl rfl d7
      have r17 : A.tmps[17]?.getD undef = .bool false := slot_get q17
      clear hA
      refine Does.call (wanted_of (b := false) rfl rfl q17) _ _ (by go_simp) ((H2 W).mono ?_)
      rintro e w' ⟨rfl, hb'⟩
      exact ⟨_, rfl, hb', rfl⟩
    refine StepL.other (k := 11) rfl (fun b f W hb hG hH => ?_) ?_
    · -- 11
      obtain ⟨d7, -⟩ : (f 7 = .bool false) ∧ True := hH
      generalize hA : putL _ _ _ _ = A
      have q4 : A.eval (.tmp 4) = .pointer (some ⟨w1.heap.size, 0, none⟩) := by rw [← hA]; exact putL_none rfl rfl rfl rfl
      have r4 : A.tmps[4]?.getD undef = .pointer (some ⟨w1.heap.size, 0, none⟩) := slot_get q4
      have q17 : A.eval (.tmp 17) = .bool false := by rw [← hA]; exact putL_look rfl rfl rfl d7
      have r17 : A.tmps[17]?.getD undef = .bool false := slot_get q17
      clear hA
      exact Does.loadI (wanted_of (b := false) rfl rfl q17) 22 _ rfl 32 5 und_a32 info_a32 (w1.heap.size) q4 .u8 (yb) (hG.2.1) (lyb) ⟨Below.refl _ _, rfl⟩
    refine StepL.other (k := 12) rfl (fun b f W hb hG hH => ?_) ?_
    · -- 12
      obtain ⟨d7, -⟩ : (f 7 = .bool false) ∧ True := hH
      generalize hA : putL _ _ _ _ = A
      have q3 : A.eval (.tmp 3) = .pointer (some ⟨w.heap.size, 0, none⟩) := by rw [← hA]; exact putL_none rfl rfl rfl rfl
      have r3 : A.tmps[3]?.getD undef = .pointer (some ⟨w.heap.size, 0, none⟩) := slot_get q3
      have q17 : A.eval (.tmp 17) = .bool false := by rw [← hA]; exact putL_look rfl rfl rfl d7
      have r17 : A.tmps[17]?.getD undef = .bool false := slot_get q17
      clear hA
      exact Does.loadI (wanted_of (b := false) rfl rfl q17) 22 _ rfl 32 5 und_a32 info_a32 (w.heap.size) q3 .u8 (xb) (hG.1) (lxb) ⟨Below.refl _ _, rfl⟩
    refine StepL.other (k := 13) rfl (fun b f W hb hG hH => ?_) ?_
    · -- 13
      obtain ⟨d11, d12, d10, d7, -⟩ : (f 11 = aggI .u8 yb) ∧ (f 12 = aggI .u8 xb) ∧ (f 10 = aggI .u8 m) ∧ (f 7 = .bool false) ∧ True := hH
      generalize hA : putL _ _ _ _ = A
      have q21 : A.eval (.tmp 21) = aggI .u8 yb := by rw [← hA]; exact putL_look rfl rfl rfl d11
      have r21 : A.tmps[21]?.getD undef = aggI .u8 yb := slot_get q21
      have q22 : A.eval (.tmp 22) = aggI .u8 xb := by rw [← hA]; exact putL_look rfl rfl rfl d12
      have r22 : A.tmps[22]?.getD undef = aggI .u8 xb := slot_get q22
      have q17 : A.eval (.tmp 17) = .bool false := by rw [← hA]; exact putL_look rfl rfl rfl d7
      have r17 : A.tmps[17]?.getD undef = .bool false := slot_get q17
      clear hA
      refine Does.call (wanted_of (b := false) rfl rfl q17) _ _ (by go_simp) ((H3 W).mono ?_)
      rintro e w' ⟨rfl, hb'⟩
      exact ⟨_, rfl, hb', rfl⟩
    refine StepL.other (k := 14) rfl (fun b f W hb hG hH => ?_) ?_
    · -- 14
      obtain ⟨d10, d13, d7, -⟩ : (f 10 = aggI .u8 m) ∧ (f 13 = aggI .u8 m) ∧ (f 7 = .bool false) ∧ True := hH
      generalize hA : putL _ _ _ _ = A
      have q20 : A.eval (.tmp 20) = aggI .u8 m := by rw [← hA]; exact putL_look rfl rfl rfl d10
      have r20 : A.tmps[20]?.getD undef = aggI .u8 m := slot_get q20
      have q23 : A.eval (.tmp 23) = aggI .u8 m := by rw [← hA]; exact putL_look rfl rfl rfl d13
      have r23 : A.tmps[23]?.getD undef = aggI .u8 m := slot_get q23
      have q17 : A.eval (.tmp 17) = .bool false := by rw [← hA]; exact putL_look rfl rfl rfl d7
      have r17 : A.tmps[17]?.getD undef = .bool false := slot_get q17
      clear hA
      exact Does.neI (wanted_of (b := false) rfl rfl q17) 22 _ 5 _ _ rfl 32 und_a32 .u8 .u8 Tryd.underlying5 (by kernel_rfl) (by kernel_rfl) (m) (m) q20 q23 (lm) (lm) false (by simp) ⟨Below.refl _ _, rfl⟩
    refine StepL.other (k := 15) rfl (fun b f W hb hG hH => ?_) ?_
    · -- 15
      obtain ⟨d7, d14, -⟩ : (f 7 = .bool false) ∧ (f 14 = .bool false) ∧ True := hH
      generalize hA : putL _ _ _ _ = A
      have q17 : A.eval (.tmp 17) = .bool false := by rw [← hA]; exact putL_look rfl rfl rfl d7
      have r17 : A.tmps[17]?.getD undef = .bool false := slot_get q17
      have q24 : A.eval (.tmp 24) = .bool false := by rw [← hA]; exact putL_look rfl rfl rfl d14
      have r24 : A.tmps[24]?.getD undef = .bool false := slot_get q24
      clear hA
      refine Does.pure rfl (.bool false) ?_ ⟨Below.refl _ _, rfl⟩
      go_simp
    refine StepL.other (k := 16) rfl (fun b f W hb hG hH => ?_) ?_
    · -- 16
      obtain ⟨d15, d13, -⟩ : (f 15 = .bool false) ∧ (f 13 = aggI .u8 m) ∧ True := hH
      generalize hA : putL _ _ _ _ = A
      have q25 : A.eval (.tmp 25) = .bool false := by rw [← hA]; exact putL_look rfl rfl rfl d15
      have r25 : A.tmps[25]?.getD undef = .bool false := slot_get q25
      clear hA
      refine Does.pure rfl (.bool false) ?_ ⟨Below.refl _ _, rfl⟩
      go_simp
    refine StepL.other (k := 17) rfl (fun b f W hb hG hH => ?_) ?_
    · -- 17
      obtain ⟨d16, -⟩ : (f 16 = .bool false) ∧ True := hH
      generalize hA : putL _ _ _ _ = A
      have q3 : A.eval (.tmp 3) = .pointer (some ⟨w.heap.size, 0, none⟩) := by rw [← hA]; exact putL_none rfl rfl rfl rfl
      have r3 : A.tmps[3]?.getD undef = .pointer (some ⟨w.heap.size, 0, none⟩) := slot_get q3
      have q26 : A.eval (.tmp 26) = .bool false := by rw [← hA]; exact putL_look rfl rfl rfl d16
      have r26 : A.tmps[26]?.getD undef = .bool false := slot_get q26
      clear hA
      exact Does.loadI (wanted_of (b := false) rfl rfl q26) 22 _ rfl 32 5 und_a32 info_a32 (w.heap.size) q3 .u8 (xb) (hG.1) (lxb) ⟨Below.refl _ _, rfl⟩
    refine StepL.other (k := 18) rfl (fun b f W hb hG hH => ?_) ?_
    · -- 18
      obtain ⟨d16, -⟩ : (f 16 = .bool false) ∧ True := hH
      generalize hA : putL _ _ _ _ = A
      have q4 : A.eval (.tmp 4) = .pointer (some ⟨w1.heap.size, 0, none⟩) := by rw [← hA]; exact putL_none rfl rfl rfl rfl
      have r4 : A.tmps[4]?.getD undef = .pointer (some ⟨w1.heap.size, 0, none⟩) := slot_get q4
      have q26 : A.eval (.tmp 26) = .bool false := by rw [← hA]; exact putL_look rfl rfl rfl d16
      have r26 : A.tmps[26]?.getD undef = .bool false := slot_get q26
      clear hA
      exact Does.loadI (wanted_of (b := false) rfl rfl q26) 22 _ rfl 32 5 und_a32 info_a32 (w1.heap.size) q4 .u8 (yb) (hG.2.1) (lyb) ⟨Below.refl _ _, rfl⟩
    refine StepL.other (k := 19) rfl (fun b f W hb hG hH => ?_) ?_
    · -- 19
      obtain ⟨d17, d18, d16, -, -⟩ : (f 17 = aggI .u8 xb) ∧ (f 18 = aggI .u8 yb) ∧ (f 16 = .bool false) ∧ (f 16 = .bool false) ∧ True := hH
      generalize hA : putL _ _ _ _ = A
      have q27 : A.eval (.tmp 27) = aggI .u8 xb := by rw [← hA]; exact putL_look rfl rfl rfl d17
      have r27 : A.tmps[27]?.getD undef = aggI .u8 xb := slot_get q27
      have q28 : A.eval (.tmp 28) = aggI .u8 yb := by rw [← hA]; exact putL_look rfl rfl rfl d18
      have r28 : A.tmps[28]?.getD undef = aggI .u8 yb := slot_get q28
      have q26 : A.eval (.tmp 26) = .bool false := by rw [← hA]; exact putL_look rfl rfl rfl d16
      have r26 : A.tmps[26]?.getD undef = .bool false := slot_get q26
      clear hA
      refine Does.call (wanted_of (b := false) rfl rfl q26) _ _ (by go_simp) ((H0 W).mono ?_)
      rintro e w' ⟨rfl, hb'⟩
      exact ⟨_, rfl, hb', rfl⟩
    refine StepL.other (k := 20) rfl (fun b f W hb hG hH => ?_) ?_
    · -- 20
      obtain ⟨d16, -⟩ : (f 16 = .bool false) ∧ True := hH
      generalize hA : putL _ _ _ _ = A
      have q5 : A.eval (.tmp 5) = .pointer (some ⟨w2.heap.size, 0, none⟩) := by rw [← hA]; exact putL_none rfl rfl rfl rfl
      have r5 : A.tmps[5]?.getD undef = .pointer (some ⟨w2.heap.size, 0, none⟩) := slot_get q5
      have q26 : A.eval (.tmp 26) = .bool false := by rw [← hA]; exact putL_look rfl rfl rfl d16
      have r26 : A.tmps[26]?.getD undef = .bool false := slot_get q26
      clear hA
      exact Does.loadI (wanted_of (b := false) rfl rfl q26) 22 _ rfl 32 5 und_a32 info_a32 (w2.heap.size) q5 .u8 (zb) (hG.2.2.1) (lzb) ⟨Below.refl _ _, rfl⟩
    refine StepL.other (k := 21) rfl (fun b f W hb hG hH => ?_) ?_
    · -- 21
      obtain ⟨d19, d20, -, d16, -⟩ : (f 19 = aggI .u8 s) ∧ (f 20 = aggI .u8 zb) ∧ (f 19 = aggI .u8 s) ∧ (f 16 = .bool false) ∧ True := hH
      generalize hA : putL _ _ _ _ = A
      have q29 : A.eval (.tmp 29) = aggI .u8 s := by rw [← hA]; exact putL_look rfl rfl rfl d19
      have r29 : A.tmps[29]?.getD undef = aggI .u8 s := slot_get q29
      have q30 : A.eval (.tmp 30) = aggI .u8 zb := by rw [← hA]; exact putL_look rfl rfl rfl d20
      have r30 : A.tmps[30]?.getD undef = aggI .u8 zb := slot_get q30
      have q26 : A.eval (.tmp 26) = .bool false := by rw [← hA]; exact putL_look rfl rfl rfl d16
      have r26 : A.tmps[26]?.getD undef = .bool false := slot_get q26
      clear hA
      refine Does.call (wanted_of (b := false) rfl rfl q26) _ _ (by go_simp) ((H4 W).mono ?_)
      rintro e w' ⟨rfl, hb'⟩
      exact ⟨_, rfl, hb', rfl⟩
    refine StepL.other (k := 22) rfl (fun b f W hb hG hH => ?_) ?_
    · -- 22
      obtain ⟨d16, -⟩ : (f 16 = .bool false) ∧ True := hH
      generalize hA : putL _ _ _ _ = A
      have q3 : A.eval (.tmp 3) = .pointer (some ⟨w.heap.size, 0, none⟩) := by rw [← hA]; exact putL_none rfl rfl rfl rfl
      have r3 : A.tmps[3]?.getD undef = .pointer (some ⟨w.heap.size, 0, none⟩) := slot_get q3
      have q26 : A.eval (.tmp 26) = .bool false := by rw [← hA]; exact putL_look rfl rfl rfl d16
      have r26 : A.tmps[26]?.getD undef = .bool false := slot_get q26
      clear hA
      exact Does.loadI (wanted_of (b := false) rfl rfl q26) 22 _ rfl 32 5 und_a32 info_a32 (w.heap.size) q3 .u8 (xb) (hG.1) (lxb) ⟨Below.refl _ _, rfl⟩
    refine StepL.other (k := 23) rfl (fun b f W hb hG hH => ?_) ?_
    · -- 23
      obtain ⟨d16, -⟩ : (f 16 = .bool false) ∧ True := hH
      generalize hA : putL _ _ _ _ = A
      have q4 : A.eval (.tmp 4) = .pointer (some ⟨w1.heap.size, 0, none⟩) := by rw [← hA]; exact putL_none rfl rfl rfl rfl
      have r4 : A.tmps[4]?.getD undef = .pointer (some ⟨w1.heap.size, 0, none⟩) := slot_get q4
      have q26 : A.eval (.tmp 26) = .bool false := by rw [← hA]; exact putL_look rfl rfl rfl d16
      have r26 : A.tmps[26]?.getD undef = .bool false := slot_get q26
      clear hA
      exact Does.loadI (wanted_of (b := false) rfl rfl q26) 22 _ rfl 32 5 und_a32 info_a32 (w1.heap.size) q4 .u8 (yb) (hG.2.1) (lyb) ⟨Below.refl _ _, rfl⟩
    refine StepL.other (k := 24) rfl (fun b f W hb hG hH => ?_) ?_
    · -- 24
      obtain ⟨d16, -⟩ : (f 16 = .bool false) ∧ True := hH
      generalize hA : putL _ _ _ _ = A
      have q5 : A.eval (.tmp 5) = .pointer (some ⟨w2.heap.size, 0, none⟩) := by rw [← hA]; exact putL_none rfl rfl rfl rfl
      have r5 : A.tmps[5]?.getD undef = .pointer (some ⟨w2.heap.size, 0, none⟩) := slot_get q5
      have q26 : A.eval (.tmp 26) = .bool false := by rw [← hA]; exact putL_look rfl rfl rfl d16
      have r26 : A.tmps[26]?.getD undef = .bool false := slot_get q26
      clear hA
      exact Does.loadI (wanted_of (b := false) rfl rfl q26) 22 _ rfl 32 5 und_a32 info_a32 (w2.heap.size) q5 .u8 (zb) (hG.2.2.1) (lzb) ⟨Below.refl _ _, rfl⟩
    refine StepL.other (k := 25) rfl (fun b f W hb hG hH => ?_) ?_
    · -- 25
      obtain ⟨d23, d24, d21, d16, -⟩ : (f 23 = aggI .u8 yb) ∧ (f 24 = aggI .u8 zb) ∧ (f 21 = aggI .u8 t) ∧ (f 16 = .bool false) ∧ True := hH
      generalize hA : putL _ _ _ _ = A
      have q33 : A.eval (.tmp 33) = aggI .u8 yb := by rw [← hA]; exact putL_look rfl rfl rfl d23
      have r33 : A.tmps[33]?.getD undef = aggI .u8 yb := slot_get q33
      have q34 : A.eval (.tmp 34) = aggI .u8 zb := by rw [← hA]; exact putL_look rfl rfl rfl d24
      have r34 : A.tmps[34]?.getD undef = aggI .u8 zb := slot_get q34
      have q26 : A.eval (.tmp 26) = .bool false := by rw [← hA]; exact putL_look rfl rfl rfl d16
      have r26 : A.tmps[26]?.getD undef = .bool false := slot_get q26
      clear hA
      refine Does.call (wanted_of (b := false) rfl rfl q26) _ _ (by go_simp) ((H5 W).mono ?_)
      rintro e w' ⟨rfl, hb'⟩
      exact ⟨_, rfl, hb', rfl⟩
    refine StepL.other (k := 26) rfl (fun b f W hb hG hH => ?_) ?_
    · -- 26
      obtain ⟨d22, d25, -, d16, -⟩ : (f 22 = aggI .u8 xb) ∧ (f 25 = aggI .u8 u) ∧ (f 25 = aggI .u8 u) ∧ (f 16 = .bool false) ∧ True := hH
      generalize hA : putL _ _ _ _ = A
      have q32 : A.eval (.tmp 32) = aggI .u8 xb := by rw [← hA]; exact putL_look rfl rfl rfl d22
      have r32 : A.tmps[32]?.getD undef = aggI .u8 xb := slot_get q32
      have q35 : A.eval (.tmp 35) = aggI .u8 u := by rw [← hA]; exact putL_look rfl rfl rfl d25
      have r35 : A.tmps[35]?.getD undef = aggI .u8 u := slot_get q35
      have q26 : A.eval (.tmp 26) = .bool false := by rw [← hA]; exact putL_look rfl rfl rfl d16
      have r26 : A.tmps[26]?.getD undef = .bool false := slot_get q26
      clear hA
      refine Does.call (wanted_of (b := false) rfl rfl q26) _ _ (by go_simp) ((H6 W).mono ?_)
      rintro e w' ⟨rfl, hb'⟩
      exact ⟨_, rfl, hb', rfl⟩
    refine StepL.other (k := 27) rfl (fun b f W hb hG hH => ?_) ?_
    · -- 27
      obtain ⟨d21, d26, d16, -⟩ : (f 21 = aggI .u8 t) ∧ (f 26 = aggI .u8 t) ∧ (f 16 = .bool false) ∧ True := hH
      generalize hA : putL _ _ _ _ = A
      have q31 : A.eval (.tmp 31) = aggI .u8 t := by rw [← hA]; exact putL_look rfl rfl rfl d21
      have r31 : A.tmps[31]?.getD undef = aggI .u8 t := slot_get q31
      have q36 : A.eval (.tmp 36) = aggI .u8 t := by rw [← hA]; exact putL_look rfl rfl rfl d26
      have r36 : A.tmps[36]?.getD undef = aggI .u8 t := slot_get q36
      have q26 : A.eval (.tmp 26) = .bool false := by rw [← hA]; exact putL_look rfl rfl rfl d16
      have r26 : A.tmps[26]?.getD undef = .bool false := slot_get q26
      clear hA
      exact Does.neI (wanted_of (b := false) rfl rfl q26) 22 _ 5 _ _ rfl 32 und_a32 .u8 .u8 Tryd.underlying5 (by kernel_rfl) (by kernel_rfl) (t) (t) q31 q36 (lt) (lt) false (by simp) ⟨Below.refl _ _, rfl⟩
    refine StepL.other (k := 28) rfl (fun b f W hb hG hH => ?_) ?_
    · -- 28
      obtain ⟨d16, d27, -⟩ : (f 16 = .bool false) ∧ (f 27 = .bool false) ∧ True := hH
      generalize hA : putL _ _ _ _ = A
      have q26 : A.eval (.tmp 26) = .bool false := by rw [← hA]; exact putL_look rfl rfl rfl d16
      have r26 : A.tmps[26]?.getD undef = .bool false := slot_get q26
      have q37 : A.eval (.tmp 37) = .bool false := by rw [← hA]; exact putL_look rfl rfl rfl d27
      have r37 : A.tmps[37]?.getD undef = .bool false := slot_get q37
      clear hA
      refine Does.pure rfl (.bool false) ?_ ⟨Below.refl _ _, rfl⟩
      go_simp
    refine StepL.other (k := 29) rfl (fun b f W hb hG hH => ?_) ?_
    · -- 29
      obtain ⟨d28, d26, -⟩ : (f 28 = .bool false) ∧ (f 26 = aggI .u8 t) ∧ True := hH
      generalize hA : putL _ _ _ _ = A
      have q38 : A.eval (.tmp 38) = .bool false := by rw [← hA]; exact putL_look rfl rfl rfl d28
      have r38 : A.tmps[38]?.getD undef = .bool false := slot_get q38
      clear hA
      refine Does.pure rfl (.bool false) ?_ ⟨Below.refl _ _, rfl⟩
      go_simp
    refine StepL.other (k := 30) rfl (fun b f W hb hG hH => ?_) ?_
    · -- 30
      obtain ⟨d29, -⟩ : (f 29 = .bool false) ∧ True := hH
      generalize hA : putL _ _ _ _ = A
      have q3 : A.eval (.tmp 3) = .pointer (some ⟨w.heap.size, 0, none⟩) := by rw [← hA]; exact putL_none rfl rfl rfl rfl
      have r3 : A.tmps[3]?.getD undef = .pointer (some ⟨w.heap.size, 0, none⟩) := slot_get q3
      have q39 : A.eval (.tmp 39) = .bool false := by rw [← hA]; exact putL_look rfl rfl rfl d29
      have r39 : A.tmps[39]?.getD undef = .bool false := slot_get q39
      clear hA
      exact Does.loadI (wanted_of (b := false) rfl rfl q39) 22 _ rfl 32 5 und_a32 info_a32 (w.heap.size) q3 .u8 (xb) (hG.1) (lxb) ⟨Below.refl _ _, rfl⟩
    refine StepL.other (k := 31) rfl (fun b f W hb hG hH => ?_) ?_
    · -- 31
      obtain ⟨d29, -⟩ : (f 29 = .bool false) ∧ True := hH
      generalize hA : putL _ _ _ _ = A
      have q4 : A.eval (.tmp 4) = .pointer (some ⟨w1.heap.size, 0, none⟩) := by rw [← hA]; exact putL_none rfl rfl rfl rfl
      have r4 : A.tmps[4]?.getD undef = .pointer (some ⟨w1.heap.size, 0, none⟩) := slot_get q4
      have q39 : A.eval (.tmp 39) = .bool false := by rw [← hA]; exact putL_look rfl rfl rfl d29
      have r39 : A.tmps[39]?.getD undef = .bool false := slot_get q39
      clear hA
      exact Does.loadI (wanted_of (b := false) rfl rfl q39) 22 _ rfl 32 5 und_a32 info_a32 (w1.heap.size) q4 .u8 (yb) (hG.2.1) (lyb) ⟨Below.refl _ _, rfl⟩
    refine StepL.other (k := 32) rfl (fun b f W hb hG hH => ?_) ?_
    · -- 32
      obtain ⟨d30, d31, d29, -, -⟩ : (f 30 = aggI .u8 xb) ∧ (f 31 = aggI .u8 yb) ∧ (f 29 = .bool false) ∧ (f 29 = .bool false) ∧ True := hH
      generalize hA : putL _ _ _ _ = A
      have q40 : A.eval (.tmp 40) = aggI .u8 xb := by rw [← hA]; exact putL_look rfl rfl rfl d30
      have r40 : A.tmps[40]?.getD undef = aggI .u8 xb := slot_get q40
      have q41 : A.eval (.tmp 41) = aggI .u8 yb := by rw [← hA]; exact putL_look rfl rfl rfl d31
      have r41 : A.tmps[41]?.getD undef = aggI .u8 yb := slot_get q41
      have q39 : A.eval (.tmp 39) = .bool false := by rw [← hA]; exact putL_look rfl rfl rfl d29
      have r39 : A.tmps[39]?.getD undef = .bool false := slot_get q39
      clear hA
      refine Does.call (wanted_of (b := false) rfl rfl q39) _ _ (by go_simp) ((H2 W).mono ?_)
      rintro e w' ⟨rfl, hb'⟩
      exact ⟨_, rfl, hb', rfl⟩
    refine StepL.other (k := 33) rfl (fun b f W hb hG hH => ?_) ?_
    · -- 33
      obtain ⟨d29, -⟩ : (f 29 = .bool false) ∧ True := hH
      generalize hA : putL _ _ _ _ = A
      have q5 : A.eval (.tmp 5) = .pointer (some ⟨w2.heap.size, 0, none⟩) := by rw [← hA]; exact putL_none rfl rfl rfl rfl
      have r5 : A.tmps[5]?.getD undef = .pointer (some ⟨w2.heap.size, 0, none⟩) := slot_get q5
      have q39 : A.eval (.tmp 39) = .bool false := by rw [← hA]; exact putL_look rfl rfl rfl d29
      have r39 : A.tmps[39]?.getD undef = .bool false := slot_get q39
      clear hA
      exact Does.loadI (wanted_of (b := false) rfl rfl q39) 22 _ rfl 32 5 und_a32 info_a32 (w2.heap.size) q5 .u8 (zb) (hG.2.2.1) (lzb) ⟨Below.refl _ _, rfl⟩
    refine StepL.other (k := 34) rfl (fun b f W hb hG hH => ?_) ?_
    · -- 34
      obtain ⟨d32, d33, -, d29, -⟩ : (f 32 = aggI .u8 m) ∧ (f 33 = aggI .u8 zb) ∧ (f 32 = aggI .u8 m) ∧ (f 29 = .bool false) ∧ True := hH
      generalize hA : putL _ _ _ _ = A
      have q42 : A.eval (.tmp 42) = aggI .u8 m := by rw [← hA]; exact putL_look rfl rfl rfl d32
      have r42 : A.tmps[42]?.getD undef = aggI .u8 m := slot_get q42
      have q43 : A.eval (.tmp 43) = aggI .u8 zb := by rw [← hA]; exact putL_look rfl rfl rfl d33
      have r43 : A.tmps[43]?.getD undef = aggI .u8 zb := slot_get q43
      have q39 : A.eval (.tmp 39) = .bool false := by rw [← hA]; exact putL_look rfl rfl rfl d29
      have r39 : A.tmps[39]?.getD undef = .bool false := slot_get q39
      clear hA
      refine Does.call (wanted_of (b := false) rfl rfl q39) _ _ (by go_simp) ((H7 W).mono ?_)
      rintro e w' ⟨rfl, hb'⟩
      exact ⟨_, rfl, hb', rfl⟩
    refine StepL.other (k := 35) rfl (fun b f W hb hG hH => ?_) ?_
    · -- 35
      obtain ⟨d29, -⟩ : (f 29 = .bool false) ∧ True := hH
      generalize hA : putL _ _ _ _ = A
      have q3 : A.eval (.tmp 3) = .pointer (some ⟨w.heap.size, 0, none⟩) := by rw [← hA]; exact putL_none rfl rfl rfl rfl
      have r3 : A.tmps[3]?.getD undef = .pointer (some ⟨w.heap.size, 0, none⟩) := slot_get q3
      have q39 : A.eval (.tmp 39) = .bool false := by rw [← hA]; exact putL_look rfl rfl rfl d29
      have r39 : A.tmps[39]?.getD undef = .bool false := slot_get q39
      clear hA
      exact Does.loadI (wanted_of (b := false) rfl rfl q39) 22 _ rfl 32 5 und_a32 info_a32 (w.heap.size) q3 .u8 (xb) (hG.1) (lxb) ⟨Below.refl _ _, rfl⟩
    refine StepL.other (k := 36) rfl (fun b f W hb hG hH => ?_) ?_
    · -- 36
      obtain ⟨d29, -⟩ : (f 29 = .bool false) ∧ True := hH
      generalize hA : putL _ _ _ _ = A
      have q4 : A.eval (.tmp 4) = .pointer (some ⟨w1.heap.size, 0, none⟩) := by rw [← hA]; exact putL_none rfl rfl rfl rfl
      have r4 : A.tmps[4]?.getD undef = .pointer (some ⟨w1.heap.size, 0, none⟩) := slot_get q4
      have q39 : A.eval (.tmp 39) = .bool false := by rw [← hA]; exact putL_look rfl rfl rfl d29
      have r39 : A.tmps[39]?.getD undef = .bool false := slot_get q39
      clear hA
      exact Does.loadI (wanted_of (b := false) rfl rfl q39) 22 _ rfl 32 5 und_a32 info_a32 (w1.heap.size) q4 .u8 (yb) (hG.2.1) (lyb) ⟨Below.refl _ _, rfl⟩
    refine StepL.other (k := 37) rfl (fun b f W hb hG hH => ?_) ?_
    · -- 37
      obtain ⟨d29, -⟩ : (f 29 = .bool false) ∧ True := hH
      generalize hA : putL _ _ _ _ = A
      have q5 : A.eval (.tmp 5) = .pointer (some ⟨w2.heap.size, 0, none⟩) := by rw [← hA]; exact putL_none rfl rfl rfl rfl
      have r5 : A.tmps[5]?.getD undef = .pointer (some ⟨w2.heap.size, 0, none⟩) := slot_get q5
      have q39 : A.eval (.tmp 39) = .bool false := by rw [← hA]; exact putL_look rfl rfl rfl d29
      have r39 : A.tmps[39]?.getD undef = .bool false := slot_get q39
      clear hA
      exact Does.loadI (wanted_of (b := false) rfl rfl q39) 22 _ rfl 32 5 und_a32 info_a32 (w2.heap.size) q5 .u8 (zb) (hG.2.2.1) (lzb) ⟨Below.refl _ _, rfl⟩
    refine StepL.other (k := 38) rfl (fun b f W hb hG hH => ?_) ?_
    · -- 38
      obtain ⟨d36, d37, d34, d29, -⟩ : (f 36 = aggI .u8 yb) ∧ (f 37 = aggI .u8 zb) ∧ (f 34 = aggI .u8 n) ∧ (f 29 = .bool false) ∧ True := hH
      generalize hA : putL _ _ _ _ = A
      have q46 : A.eval (.tmp 46) = aggI .u8 yb := by rw [← hA]; exact putL_look rfl rfl rfl d36
      have r46 : A.tmps[46]?.getD undef = aggI .u8 yb := slot_get q46
      have q47 : A.eval (.tmp 47) = aggI .u8 zb := by rw [← hA]; exact putL_look rfl rfl rfl d37
      have r47 : A.tmps[47]?.getD undef = aggI .u8 zb := slot_get q47
      have q39 : A.eval (.tmp 39) = .bool false := by rw [← hA]; exact putL_look rfl rfl rfl d29
      have r39 : A.tmps[39]?.getD undef = .bool false := slot_get q39
      clear hA
      refine Does.call (wanted_of (b := false) rfl rfl q39) _ _ (by go_simp) ((H8 W).mono ?_)
      rintro e w' ⟨rfl, hb'⟩
      exact ⟨_, rfl, hb', rfl⟩
    refine StepL.other (k := 39) rfl (fun b f W hb hG hH => ?_) ?_
    · -- 39
      obtain ⟨d35, d38, -, d29, -⟩ : (f 35 = aggI .u8 xb) ∧ (f 38 = aggI .u8 v) ∧ (f 38 = aggI .u8 v) ∧ (f 29 = .bool false) ∧ True := hH
      generalize hA : putL _ _ _ _ = A
      have q45 : A.eval (.tmp 45) = aggI .u8 xb := by rw [← hA]; exact putL_look rfl rfl rfl d35
      have r45 : A.tmps[45]?.getD undef = aggI .u8 xb := slot_get q45
      have q48 : A.eval (.tmp 48) = aggI .u8 v := by rw [← hA]; exact putL_look rfl rfl rfl d38
      have r48 : A.tmps[48]?.getD undef = aggI .u8 v := slot_get q48
      have q39 : A.eval (.tmp 39) = .bool false := by rw [← hA]; exact putL_look rfl rfl rfl d29
      have r39 : A.tmps[39]?.getD undef = .bool false := slot_get q39
      clear hA
      refine Does.call (wanted_of (b := false) rfl rfl q39) _ _ (by go_simp) ((H9 W).mono ?_)
      rintro e w' ⟨rfl, hb'⟩
      exact ⟨_, rfl, hb', rfl⟩
    refine StepL.other (k := 40) rfl (fun b f W hb hG hH => ?_) ?_
    · -- 40
      obtain ⟨d34, d39, d29, -⟩ : (f 34 = aggI .u8 n) ∧ (f 39 = aggI .u8 n) ∧ (f 29 = .bool false) ∧ True := hH
      generalize hA : putL _ _ _ _ = A
      have q44 : A.eval (.tmp 44) = aggI .u8 n := by rw [← hA]; exact putL_look rfl rfl rfl d34
      have r44 : A.tmps[44]?.getD undef = aggI .u8 n := slot_get q44
      have q49 : A.eval (.tmp 49) = aggI .u8 n := by rw [← hA]; exact putL_look rfl rfl rfl d39
      have r49 : A.tmps[49]?.getD undef = aggI .u8 n := slot_get q49
      have q39 : A.eval (.tmp 39) = .bool false := by rw [← hA]; exact putL_look rfl rfl rfl d29
      have r39 : A.tmps[39]?.getD undef = .bool false := slot_get q39
      clear hA
      exact Does.neI (wanted_of (b := false) rfl rfl q39) 22 _ 5 _ _ rfl 32 und_a32 .u8 .u8 Tryd.underlying5 (by kernel_rfl) (by kernel_rfl) (n) (n) q44 q49 (ln) (ln) false (by simp) ⟨Below.refl _ _, rfl⟩
    refine StepL.other (k := 41) rfl (fun b f W hb hG hH => ?_) ?_
    · -- 41
      obtain ⟨d29, d40, -⟩ : (f 29 = .bool false) ∧ (f 40 = .bool false) ∧ True := hH
      generalize hA : putL _ _ _ _ = A
      have q39 : A.eval (.tmp 39) = .bool false := by rw [← hA]; exact putL_look rfl rfl rfl d29
      have r39 : A.tmps[39]?.getD undef = .bool false := slot_get q39
      have q50 : A.eval (.tmp 50) = .bool false := by rw [← hA]; exact putL_look rfl rfl rfl d40
      have r50 : A.tmps[50]?.getD undef = .bool false := slot_get q50
      clear hA
      refine Does.pure rfl (.bool false) ?_ ⟨Below.refl _ _, rfl⟩
      go_simp
    exact trivial
  ·
    intro f W hG hH
    obtain ⟨d0, d1, d2, d3, d4, d5, d6, d7, d8, d9, d10, d11, d12, d13, d14, d15, d16, d17, d18, d19, d20, d21, d22, d23, d24, d25, d26, d27, d28, d29, d30, d31, d32, d33, d34, d35, d36, d37, d38, d39, d40, d41, -⟩ : (f 0 = aggI .u8 xb) ∧ (f 1 = aggI .u8 yb) ∧ (f 2 = aggI .u8 s) ∧ (f 3 = aggI .u8 yb) ∧ (f 4 = aggI .u8 xb) ∧ (f 5 = aggI .u8 s) ∧ (f 6 = .bool false) ∧ (f 7 = .bool false) ∧ (f 8 = aggI .u8 xb) ∧ (f 9 = aggI .u8 yb) ∧ (f 10 = aggI .u8 m) ∧ (f 11 = aggI .u8 yb) ∧ (f 12 = aggI .u8 xb) ∧ (f 13 = aggI .u8 m) ∧ (f 14 = .bool false) ∧ (f 15 = .bool false) ∧ (f 16 = .bool false) ∧ (f 17 = aggI .u8 xb) ∧ (f 18 = aggI .u8 yb) ∧ (f 19 = aggI .u8 s) ∧ (f 20 = aggI .u8 zb) ∧ (f 21 = aggI .u8 t) ∧ (f 22 = aggI .u8 xb) ∧ (f 23 = aggI .u8 yb) ∧ (f 24 = aggI .u8 zb) ∧ (f 25 = aggI .u8 u) ∧ (f 26 = aggI .u8 t) ∧ (f 27 = .bool false) ∧ (f 28 = .bool false) ∧ (f 29 = .bool false) ∧ (f 30 = aggI .u8 xb) ∧ (f 31 = aggI .u8 yb) ∧ (f 32 = aggI .u8 m) ∧ (f 33 = aggI .u8 zb) ∧ (f 34 = aggI .u8 n) ∧ (f 35 = aggI .u8 xb) ∧ (f 36 = aggI .u8 yb) ∧ (f 37 = aggI .u8 zb) ∧ (f 38 = aggI .u8 v) ∧ (f 39 = aggI .u8 n) ∧ (f 40 = .bool false) ∧ (f 41 = .bool false) ∧ True := hH
    rw [show List.range (List.length [[], [], [0, 1], [], [], [3, 4, 2], [2, 5], [6, 5], [7], [7], [8, 9, 7, 7], [7], [7], [11, 12, 10, 7], [10, 13, 7], [7, 14], [15, 13], [16], [16], [17, 18, 16, 16], [16], [19, 20, 19, 16], [16], [16], [16], [23, 24, 21, 16], [22, 25, 25, 16], [21, 26, 16], [16, 27], [28, 26], [29], [29], [30, 31, 29, 29], [29], [32, 33, 32, 29], [29], [29], [29], [36, 37, 34, 29], [35, 38, 38, 29], [34, 39, 29], [29, 40]]) = [0, 1, 2, 3, 4, 5, 6, 7, 8, 9, 10, 11, 12, 13, 14, 15, 16, 17, 18, 19, 20, 21, 22, 23, 24, 25, 26, 27, 28, 29, 30, 31, 32, 33, 34, 35, 36, 37, 38, 39, 40, 41] from rfl]
    simp only [putL, List.getElem?_cons_zero, List.getElem?_cons_succ, Option.join, Option.bind_some, id_eq, Act.put, List.setIfInBounds_toArray, List.set_cons_zero, List.set_cons_succ, d0, d1, d2, d3, d4, d5, d6, d7, d8, d9, d10, d11, d12, d13, d14, d15, d16, d17, d18, d19, d20, d21, d22, d23, d24, d25, d26, d27, d28, d29, d30, d31, d32, d33, d34, d35, d36, d37, d38, d39, d40, d41]
    clear d0 d1 d2 d3 d4 d5 d6 d7 d8 d9 d10 d11 d12 d13 d14 d15 d16 d17 d18 d19 d20 d21 d22 d23 d24 d25 d26 d27 d28 d29 d30 d31 d32 d33 d34 d35 d36 d37 d38 d39 d40 d41
    obtain ⟨AX, AY, AZ, BB⟩ := hG
    go_wp2
    refine wp_region_ord [[], [], [], [1, 2], [0, 3, 3], [], [], [5, 6, 4], [], [], [8, 9, 7], [7, 10, 10], [4, 11], [12, 11], [13], [13], [14, 15, 13, 13], [13], [16, 17, 16, 13], [13], [19, 18, 13], [18, 20, 13], [13, 21]] [some 52, some 53, some 54, some 55, some 56, some 57, some 58, some 59, some 60, some 61, some 62, some 63, some 64, some 65, some 66, some 67, some 68, some 69, some 70, some 71, some 72, some 73, some 74] 23 (fun b w' => Arr .u8 w' w.heap.size xb ∧ Arr .u8 w' w1.heap.size yb ∧ Arr .u8 w' w2.heap.size zb ∧ Below w3.heap.size w3 w') (fun opn f _ => match opn with | 0 => f 0 = aggI .u8 xb | 1 => f 1 = aggI .u8 yb | 2 => f 2 = aggI .u8 zb | 3 => f 3 = aggI .u8 u | 4 => f 4 = aggI .u8 d | 5 => f 5 = aggI .u8 xb | 6 => f 6 = aggI .u8 yb | 7 => f 7 = aggI .u8 m | 8 => f 8 = aggI .u8 xb | 9 => f 9 = aggI .u8 zb | 10 => f 10 = aggI .u8 k | 11 => f 11 = aggI .u8 d | 12 => f 12 = .bool false | 13 => f 13 = .bool false | 14 => f 14 = aggI .u8 xb | 15 => f 15 = aggI .u8 yb | 16 => f 16 = aggI .u8 s | 17 => f 17 = aggI .u8 yb | 18 => f 18 = aggI .u8 r | 19 => f 19 = aggI .u8 xb | 20 => f 20 = aggI .u8 r | 21 => f 21 = .bool false | 22 => f 22 = .bool false | _ => True) (fun _ _ _ => True) (by kernel_rfl) (by kernel_rfl) (by kernel_rfl) (by kernel_rfl) (fun b v v' hb h => ⟨h.1.below hb, h.2.1.below hb, h.2.2.1.below hb, below_then h.2.2.2 hb⟩) (fun _ _ _ _ _ h => h) (fun _ _ _ _ _ _ _ h => h) ⟨AX.drew, AY.drew, AZ.drew, BB.drew⟩ ?_ ?_
    ·
      refine StepL.other (k := 0) rfl (fun b f W hb hG hH => ?_) ?_
      · -- 0
        clear hH
        generalize hA : putL _ _ _ _ = A
        have q3 : A.eval (.tmp 3) = .pointer (some ⟨w.heap.size, 0, none⟩) := by rw [← hA]; exact putL_none rfl rfl rfl rfl
        have r3 : A.tmps[3]?.getD undef = .pointer (some ⟨w.heap.size, 0, none⟩) := slot_get q3
        clear hA
        exact Does.loadI rfl 22 _ rfl 32 5 und_a32 info_a32 (w.heap.size) q3 .u8 (xb) (hG.1) (lxb) ⟨Below.refl _ _, rfl⟩
      refine StepL.other (k := 1) rfl (fun b f W hb hG hH => ?_) ?_
      · -- 1
        clear hH
        generalize hA : putL _ _ _ _ = A
        have q4 : A.eval (.tmp 4) = .pointer (some ⟨w1.heap.size, 0, none⟩) := by rw [← hA]; exact putL_none rfl rfl rfl rfl
        have r4 : A.tmps[4]?.getD undef = .pointer (some ⟨w1.heap.size, 0, none⟩) := slot_get q4
        clear hA
        exact Does.loadI rfl 22 _ rfl 32 5 und_a32 info_a32 (w1.heap.size) q4 .u8 (yb) (hG.2.1) (lyb) ⟨Below.refl _ _, rfl⟩
      refine StepL.other (k := 2) rfl (fun b f W hb hG hH => ?_) ?_
      · -- 2
        clear hH
        generalize hA : putL _ _ _ _ = A
        have q5 : A.eval (.tmp 5) = .pointer (some ⟨w2.heap.size, 0, none⟩) := by rw [← hA]; exact putL_none rfl rfl rfl rfl
        have r5 : A.tmps[5]?.getD undef = .pointer (some ⟨w2.heap.size, 0, none⟩) := slot_get q5
        clear hA
        exact Does.loadI rfl 22 _ rfl 32 5 und_a32 info_a32 (w2.heap.size) q5 .u8 (zb) (hG.2.2.1) (lzb) ⟨Below.refl _ _, rfl⟩
      refine StepL.other (k := 3) rfl (fun b f W hb hG hH => ?_) ?_
      · -- 3
        obtain ⟨d1, d2, -⟩ : (f 1 = aggI .u8 yb) ∧ (f 2 = aggI .u8 zb) ∧ True := hH
        generalize hA : putL _ _ _ _ = A
        have q53 : A.eval (.tmp 53) = aggI .u8 yb := by rw [← hA]; exact putL_look rfl rfl rfl d1
        have r53 : A.tmps[53]?.getD undef = aggI .u8 yb := slot_get q53
        have q54 : A.eval (.tmp 54) = aggI .u8 zb := by rw [← hA]; exact putL_look rfl rfl rfl d2
        have r54 : A.tmps[54]?.getD undef = aggI .u8 zb := slot_get q54
        clear hA
        refine Does.call rfl _ _ (by go_simp) ((H5 W).mono ?_)
        rintro e w' ⟨rfl, hb'⟩
        exact ⟨_, rfl, hb', rfl⟩
      refine StepL.other (k := 4) rfl (fun b f W hb hG hH => ?_) ?_
      · -- 4
        obtain ⟨d0, d3, -, -⟩ : (f 0 = aggI .u8 xb) ∧ (f 3 = aggI .u8 u) ∧ (f 3 = aggI .u8 u) ∧ True := hH
        generalize hA : putL _ _ _ _ = A
        have q52 : A.eval (.tmp 52) = aggI .u8 xb := by rw [← hA]; exact putL_look rfl rfl rfl d0
        have r52 : A.tmps[52]?.getD undef = aggI .u8 xb := slot_get q52
        have q55 : A.eval (.tmp 55) = aggI .u8 u := by rw [← hA]; exact putL_look rfl rfl rfl d3
        have r55 : A.tmps[55]?.getD undef = aggI .u8 u := slot_get q55
        clear hA
        refine Does.call rfl _ _ (by go_simp) ((H10 W).mono ?_)
        rintro e w' ⟨rfl, hb'⟩
        exact ⟨_, rfl, hb', rfl⟩
      refine StepL.other (k := 5) rfl (fun b f W hb hG hH => ?_) ?_
      · -- 5
        clear hH
        generalize hA : putL _ _ _ _ = A
        have q3 : A.eval (.tmp 3) = .pointer (some ⟨w.heap.size, 0, none⟩) := by rw [← hA]; exact putL_none rfl rfl rfl rfl
        have r3 : A.tmps[3]?.getD undef = .pointer (some ⟨w.heap.size, 0, none⟩) := slot_get q3
        clear hA
        exact Does.loadI rfl 22 _ rfl 32 5 und_a32 info_a32 (w.heap.size) q3 .u8 (xb) (hG.1) (lxb) ⟨Below.refl _ _, rfl⟩
      refine StepL.other (k := 6) rfl (fun b f W hb hG hH => ?_) ?_
      · -- 6
        clear hH
        generalize hA : putL _ _ _ _ = A
        have q4 : A.eval (.tmp 4) = .pointer (some ⟨w1.heap.size, 0, none⟩) := by rw [← hA]; exact putL_none rfl rfl rfl rfl
        have r4 : A.tmps[4]?.getD undef = .pointer (some ⟨w1.heap.size, 0, none⟩) := slot_get q4
        clear hA
        exact Does.loadI rfl 22 _ rfl 32 5 und_a32 info_a32 (w1.heap.size) q4 .u8 (yb) (hG.2.1) (lyb) ⟨Below.refl _ _, rfl⟩
      refine StepL.other (k := 7) rfl (fun b f W hb hG hH => ?_) ?_
      · -- 7
        obtain ⟨d5, d6, d4, -⟩ : (f 5 = aggI .u8 xb) ∧ (f 6 = aggI .u8 yb) ∧ (f 4 = aggI .u8 d) ∧ True := hH
        generalize hA : putL _ _ _ _ = A
        have q57 : A.eval (.tmp 57) = aggI .u8 xb := by rw [← hA]; exact putL_look rfl rfl rfl d5
        have r57 : A.tmps[57]?.getD undef = aggI .u8 xb := slot_get q57
        have q58 : A.eval (.tmp 58) = aggI .u8 yb := by rw [← hA]; exact putL_look rfl rfl rfl d6
        have r58 : A.tmps[58]?.getD undef = aggI .u8 yb := slot_get q58
        clear hA
        refine Does.call rfl _ _ (by go_simp) ((H2 W).mono ?_)
        rintro e w' ⟨rfl, hb'⟩
        exact ⟨_, rfl, hb', rfl⟩
      refine StepL.other (k := 8) rfl (fun b f W hb hG hH => ?_) ?_
      · -- 8
        clear hH
        generalize hA : putL _ _ _ _ = A
        have q3 : A.eval (.tmp 3) = .pointer (some ⟨w.heap.size, 0, none⟩) := by rw [← hA]; exact putL_none rfl rfl rfl rfl
        have r3 : A.tmps[3]?.getD undef = .pointer (some ⟨w.heap.size, 0, none⟩) := slot_get q3
        clear hA
        exact Does.loadI rfl 22 _ rfl 32 5 und_a32 info_a32 (w.heap.size) q3 .u8 (xb) (hG.1) (lxb) ⟨Below.refl _ _, rfl⟩
      refine StepL.other (k := 9) rfl (fun b f W hb hG hH => ?_) ?_
      · -- 9
        clear hH
        generalize hA : putL _ _ _ _ = A
        have q5 : A.eval (.tmp 5) = .pointer (some ⟨w2.heap.size, 0, none⟩) := by rw [← hA]; exact putL_none rfl rfl rfl rfl
        have r5 : A.tmps[5]?.getD undef = .pointer (some ⟨w2.heap.size, 0, none⟩) := slot_get q5
        clear hA
        exact Does.loadI rfl 22 _ rfl 32 5 und_a32 info_a32 (w2.heap.size) q5 .u8 (zb) (hG.2.2.1) (lzb) ⟨Below.refl _ _, rfl⟩
      refine StepL.other (k := 10) rfl (fun b f W hb hG hH => ?_) ?_
      · -- 10
        obtain ⟨d8, d9, d7, -⟩ : (f 8 = aggI .u8 xb) ∧ (f 9 = aggI .u8 zb) ∧ (f 7 = aggI .u8 m) ∧ True := hH
        generalize hA : putL _ _ _ _ = A
        have q60 : A.eval (.tmp 60) = aggI .u8 xb := by rw [← hA]; exact putL_look rfl rfl rfl d8
        have r60 : A.tmps[60]?.getD undef = aggI .u8 xb := slot_get q60
        have q61 : A.eval (.tmp 61) = aggI .u8 zb := by rw [← hA]; exact putL_look rfl rfl rfl d9
        have r61 : A.tmps[61]?.getD undef = aggI .u8 zb := slot_get q61
        clear hA
        refine Does.call rfl _ _ (by go_simp) ((H11 W).mono ?_)
        rintro e w' ⟨rfl, hb'⟩
        exact ⟨_, rfl, hb', rfl⟩
      refine StepL.other (k := 11) rfl (fun b f W hb hG hH => ?_) ?_
      · -- 11
        obtain ⟨d7, d10, -, -⟩ : (f 7 = aggI .u8 m) ∧ (f 10 = aggI .u8 k) ∧ (f 10 = aggI .u8 k) ∧ True := hH
        generalize hA : putL _ _ _ _ = A
        have q59 : A.eval (.tmp 59) = aggI .u8 m := by rw [← hA]; exact putL_look rfl rfl rfl d7
        have r59 : A.tmps[59]?.getD undef = aggI .u8 m := slot_get q59
        have q62 : A.eval (.tmp 62) = aggI .u8 k := by rw [← hA]; exact putL_look rfl rfl rfl d10
        have r62 : A.tmps[62]?.getD undef = aggI .u8 k := slot_get q62
        clear hA
        refine Does.call rfl _ _ (by go_simp) ((H12 W).mono ?_)
        rintro e w' ⟨rfl, hb'⟩
        exact ⟨_, rfl, hb', rfl⟩
      refine StepL.other (k := 12) rfl (fun b f W hb hG hH => ?_) ?_
      · -- 12
        obtain ⟨d4, d11, -⟩ : (f 4 = aggI .u8 d) ∧ (f 11 = aggI .u8 d) ∧ True := hH
        generalize hA : putL _ _ _ _ = A
        have q56 : A.eval (.tmp 56) = aggI .u8 d := by rw [← hA]; exact putL_look rfl rfl rfl d4
        have r56 : A.tmps[56]?.getD undef = aggI .u8 d := slot_get q56
        have q63 : A.eval (.tmp 63) = aggI .u8 d := by rw [← hA]; exact putL_look rfl rfl rfl d11
        have r63 : A.tmps[63]?.getD undef = aggI .u8 d := slot_get q63
        clear hA
        exact Does.neI rfl 22 _ 5 _ _ rfl 32 und_a32 .u8 .u8 Tryd.underlying5 (by kernel_rfl) (by kernel_rfl) (d) (d) q56 q63 (ld) (ld) false (by simp) ⟨Below.refl _ _, rfl⟩
      refine StepL.other (k := 13) rfl (fun b f W hb hG hH => ?_) ?_
      · -- 13
        obtain ⟨d12, d11, -⟩ : (f 12 = .bool false) ∧ (f 11 = aggI .u8 d) ∧ True := hH
        generalize hA : putL _ _ _ _ = A
        have q64 : A.eval (.tmp 64) = .bool false := by rw [← hA]; exact putL_look rfl rfl rfl d12
        have r64 : A.tmps[64]?.getD undef = .bool false := slot_get q64
        clear hA
        refine Does.pure rfl (.bool false) ?_ ⟨Below.refl _ _, rfl⟩
        go_simp
      refine StepL.other (k := 14) rfl (fun b f W hb hG hH => ?_) ?_
      · -- 14
        obtain ⟨d13, -⟩ : (f 13 = .bool false) ∧ True := hH
        generalize hA : putL _ _ _ _ = A
        have q3 : A.eval (.tmp 3) = .pointer (some ⟨w.heap.size, 0, none⟩) := by rw [← hA]; exact putL_none rfl rfl rfl rfl
        have r3 : A.tmps[3]?.getD undef = .pointer (some ⟨w.heap.size, 0, none⟩) := slot_get q3
        have q65 : A.eval (.tmp 65) = .bool false := by rw [← hA]; exact putL_look rfl rfl rfl d13
        have r65 : A.tmps[65]?.getD undef = .bool false := slot_get q65
        clear hA
        exact Does.loadI (wanted_of (b := false) rfl rfl q65) 22 _ rfl 32 5 und_a32 info_a32 (w.heap.size) q3 .u8 (xb) (hG.1) (lxb) ⟨Below.refl _ _, rfl⟩
      refine StepL.other (k := 15) rfl (fun b f W hb hG hH => ?_) ?_
      · -- 15
        obtain ⟨d13, -⟩ : (f 13 = .bool false) ∧ True := hH
        generalize hA : putL _ _ _ _ = A
        have q4 : A.eval (.tmp 4) = .pointer (some ⟨w1.heap.size, 0, none⟩) := by rw [← hA]; exact putL_none rfl rfl rfl rfl
        have r4 : A.tmps[4]?.getD undef = .pointer (some ⟨w1.heap.size, 0, none⟩) := slot_get q4
        have q65 : A.eval (.tmp 65) = .bool false := by rw [← hA]; exact putL_look rfl rfl rfl d13
        have r65 : A.tmps[65]?.getD undef = .bool false := slot_get q65
        clear hA
        exact Does.loadI (wanted_of (b := false) rfl rfl q65) 22 _ rfl 32 5 und_a32 info_a32 (w1.heap.size) q4 .u8 (yb) (hG.2.1) (lyb) ⟨Below.refl _ _, rfl⟩
      refine StepL.other (k := 16) rfl (fun b f W hb hG hH => ?_) ?_
      · -- 16
        obtain ⟨d14, d15, d13, -, -⟩ : (f 14 = aggI .u8 xb) ∧ (f 15 = aggI .u8 yb) ∧ (f 13 = .bool false) ∧ (f 13 = .bool false) ∧ True := hH
        generalize hA : putL _ _ _ _ = A
        have q66 : A.eval (.tmp 66) = aggI .u8 xb := by rw [← hA]; exact putL_look rfl rfl rfl d14
        have r66 : A.tmps[66]?.getD undef = aggI .u8 xb := slot_get q66
        have q67 : A.eval (.tmp 67) = aggI .u8 yb := by rw [← hA]; exact putL_look rfl rfl rfl d15
        have r67 : A.tmps[67]?.getD undef = aggI .u8 yb := slot_get q67
        have q65 : A.eval (.tmp 65) = .bool false := by rw [← hA]; exact putL_look rfl rfl rfl d13
        have r65 : A.tmps[65]?.getD undef = .bool false := slot_get q65
        clear hA
        refine Does.call (wanted_of (b := false) rfl rfl q65) _ _ (by go_simp) ((H0 W).mono ?_)
        rintro e w' ⟨rfl, hb'⟩
        exact ⟨_, rfl, hb', rfl⟩
      refine StepL.other (k := 17) rfl (fun b f W hb hG hH => ?_) ?_
      · -- 17
        obtain ⟨d13, -⟩ : (f 13 = .bool false) ∧ True := hH
        generalize hA : putL _ _ _ _ = A
        have q4 : A.eval (.tmp 4) = .pointer (some ⟨w1.heap.size, 0, none⟩) := by rw [← hA]; exact putL_none rfl rfl rfl rfl
        have r4 : A.tmps[4]?.getD undef = .pointer (some ⟨w1.heap.size, 0, none⟩) := slot_get q4
        have q65 : A.eval (.tmp 65) = .bool false := by rw [← hA]; exact putL_look rfl rfl rfl d13
        have r65 : A.tmps[65]?.getD undef = .bool false := slot_get q65
        clear hA
        exact Does.loadI (wanted_of (b := false) rfl rfl q65) 22 _ rfl 32 5 und_a32 info_a32 (w1.heap.size) q4 .u8 (yb) (hG.2.1) (lyb) ⟨Below.refl _ _, rfl⟩
      refine StepL.other (k := 18) rfl (fun b f W hb hG hH => ?_) ?_
      · -- 18
        obtain ⟨d16, d17, -, d13, -⟩ : (f 16 = aggI .u8 s) ∧ (f 17 = aggI .u8 yb) ∧ (f 16 = aggI .u8 s) ∧ (f 13 = .bool false) ∧ True := hH
        generalize hA : putL _ _ _ _ = A
        have q68 : A.eval (.tmp 68) = aggI .u8 s := by rw [← hA]; exact putL_look rfl rfl rfl d16
        have r68 : A.tmps[68]?.getD undef = aggI .u8 s := slot_get q68
        have q69 : A.eval (.tmp 69) = aggI .u8 yb := by rw [← hA]; exact putL_look rfl rfl rfl d17
        have r69 : A.tmps[69]?.getD undef = aggI .u8 yb := slot_get q69
        have q65 : A.eval (.tmp 65) = .bool false := by rw [← hA]; exact putL_look rfl rfl rfl d13
        have r65 : A.tmps[65]?.getD undef = .bool false := slot_get q65
        clear hA
        refine Does.call (wanted_of (b := false) rfl rfl q65) _ _ (by go_simp) ((H13 W).mono ?_)
        rintro e w' ⟨rfl, hb'⟩
        exact ⟨_, rfl, hb', rfl⟩
      refine StepL.other (k := 19) rfl (fun b f W hb hG hH => ?_) ?_
      · -- 19
        obtain ⟨d13, -⟩ : (f 13 = .bool false) ∧ True := hH
        generalize hA : putL _ _ _ _ = A
        have q3 : A.eval (.tmp 3) = .pointer (some ⟨w.heap.size, 0, none⟩) := by rw [← hA]; exact putL_none rfl rfl rfl rfl
        have r3 : A.tmps[3]?.getD undef = .pointer (some ⟨w.heap.size, 0, none⟩) := slot_get q3
        have q65 : A.eval (.tmp 65) = .bool false := by rw [← hA]; exact putL_look rfl rfl rfl d13
        have r65 : A.tmps[65]?.getD undef = .bool false := slot_get q65
        clear hA
        exact Does.loadI (wanted_of (b := false) rfl rfl q65) 22 _ rfl 32 5 und_a32 info_a32 (w.heap.size) q3 .u8 (xb) (hG.1) (lxb) ⟨Below.refl _ _, rfl⟩
      refine StepL.other (k := 20) rfl (fun b f W hb hG hH => ?_) ?_
      · -- 20
        obtain ⟨d19, d18, d13, -⟩ : (f 19 = aggI .u8 xb) ∧ (f 18 = aggI .u8 r) ∧ (f 13 = .bool false) ∧ True := hH
        generalize hA : putL _ _ _ _ = A
        have q71 : A.eval (.tmp 71) = aggI .u8 xb := by rw [← hA]; exact putL_look rfl rfl rfl d19
        have r71 : A.tmps[71]?.getD undef = aggI .u8 xb := slot_get q71
        have q65 : A.eval (.tmp 65) = .bool false := by rw [← hA]; exact putL_look rfl rfl rfl d13
        have r65 : A.tmps[65]?.getD undef = .bool false := slot_get q65
        clear hA
        refine Does.call (wanted_of (b := false) rfl rfl q65) _ _ (by go_simp) ((H14 W).mono ?_)
        rintro e w' ⟨rfl, hb'⟩
        exact ⟨_, rfl, hb', rfl⟩
      refine StepL.other (k := 21) rfl (fun b f W hb hG hH => ?_) ?_
      · -- 21
        obtain ⟨d18, d20, d13, -⟩ : (f 18 = aggI .u8 r) ∧ (f 20 = aggI .u8 r) ∧ (f 13 = .bool false) ∧ True := hH
        generalize hA : putL _ _ _ _ = A
        have q70 : A.eval (.tmp 70) = aggI .u8 r := by rw [← hA]; exact putL_look rfl rfl rfl d18
        have r70 : A.tmps[70]?.getD undef = aggI .u8 r := slot_get q70
        have q72 : A.eval (.tmp 72) = aggI .u8 r := by rw [← hA]; exact putL_look rfl rfl rfl d20
        have r72 : A.tmps[72]?.getD undef = aggI .u8 r := slot_get q72
        have q65 : A.eval (.tmp 65) = .bool false := by rw [← hA]; exact putL_look rfl rfl rfl d13
        have r65 : A.tmps[65]?.getD undef = .bool false := slot_get q65
        clear hA
        exact Does.neI (wanted_of (b := false) rfl rfl q65) 22 _ 5 _ _ rfl 32 und_a32 .u8 .u8 Tryd.underlying5 (by kernel_rfl) (by kernel_rfl) (r) (r) q70 q72 (lr) (lr) false (by simp) ⟨Below.refl _ _, rfl⟩
      refine StepL.other (k := 22) rfl (fun b f W hb hG hH => ?_) ?_
      · -- 22
        obtain ⟨d13, d21, -⟩ : (f 13 = .bool false) ∧ (f 21 = .bool false) ∧ True := hH
        generalize hA : putL _ _ _ _ = A
        have q65 : A.eval (.tmp 65) = .bool false := by rw [← hA]; exact putL_look rfl rfl rfl d13
        have r65 : A.tmps[65]?.getD undef = .bool false := slot_get q65
        have q73 : A.eval (.tmp 73) = .bool false := by rw [← hA]; exact putL_look rfl rfl rfl d21
        have r73 : A.tmps[73]?.getD undef = .bool false := slot_get q73
        clear hA
        refine Does.pure rfl (.bool false) ?_ ⟨Below.refl _ _, rfl⟩
        go_simp
      exact trivial
    ·
      intro f W hG hH
      obtain ⟨d0, d1, d2, d3, d4, d5, d6, d7, d8, d9, d10, d11, d12, d13, d14, d15, d16, d17, d18, d19, d20, d21, d22, -⟩ : (f 0 = aggI .u8 xb) ∧ (f 1 = aggI .u8 yb) ∧ (f 2 = aggI .u8 zb) ∧ (f 3 = aggI .u8 u) ∧ (f 4 = aggI .u8 d) ∧ (f 5 = aggI .u8 xb) ∧ (f 6 = aggI .u8 yb) ∧ (f 7 = aggI .u8 m) ∧ (f 8 = aggI .u8 xb) ∧ (f 9 = aggI .u8 zb) ∧ (f 10 = aggI .u8 k) ∧ (f 11 = aggI .u8 d) ∧ (f 12 = .bool false) ∧ (f 13 = .bool false) ∧ (f 14 = aggI .u8 xb) ∧ (f 15 = aggI .u8 yb) ∧ (f 16 = aggI .u8 s) ∧ (f 17 = aggI .u8 yb) ∧ (f 18 = aggI .u8 r) ∧ (f 19 = aggI .u8 xb) ∧ (f 20 = aggI .u8 r) ∧ (f 21 = .bool false) ∧ (f 22 = .bool false) ∧ True := hH
      rw [show List.range (List.length [[], [], [], [1, 2], [0, 3, 3], [], [], [5, 6, 4], [], [], [8, 9, 7], [7, 10, 10], [4, 11], [12, 11], [13], [13], [14, 15, 13, 13], [13], [16, 17, 16, 13], [13], [19, 18, 13], [18, 20, 13], [13, 21]]) = [0, 1, 2, 3, 4, 5, 6, 7, 8, 9, 10, 11, 12, 13, 14, 15, 16, 17, 18, 19, 20, 21, 22] from rfl]
      simp only [putL, List.getElem?_cons_zero, List.getElem?_cons_succ, Option.join, Option.bind_some, id_eq, Act.put, List.setIfInBounds_toArray, List.set_cons_zero, List.set_cons_succ, d0, d1, d2, d3, d4, d5, d6, d7, d8, d9, d10, d11, d12, d13, d14, d15, d16, d17, d18, d19, d20, d21, d22]
      clear d0 d1 d2 d3 d4 d5 d6 d7 d8 d9 d10 d11 d12 d13 d14 d15 d16 d17 d18 d19 d20 d21 d22
      obtain ⟨AX, AY, AZ, BB⟩ := hG
      go_wp2
      refine wp_region_ord [[], [], [1], [0, 2, 2], [], [4, 3, 3, 0, 1, 2, 3, 4]] [some 75, some 76, some 77, some 78, some 7, none] 5 (fun b w' => Arr .u8 w' w.heap.size xb ∧ Arr .u8 w' w1.heap.size yb ∧ Arr .u8 w' w2.heap.size zb ∧ Below w3.heap.size w3 w') (fun opn f wo => match opn with | 0 => f 0 = aggI .u8 xb | 1 => f 1 = aggI .u8 xb | 2 => f 2 = aggI .u8 i | 3 => f 3 = aggI .u8 o | 4 => ∃ B, f 4 = .pointer (some ⟨B, 0, none⟩) ∧ w3.heap.size ≤ B ∧ ∃ zs : List Int, zs.length = 32 ∧ Arr .u8 wo B zs | 5 => ∃ B, f 4 = .pointer (some ⟨B, 0, none⟩) ∧ w3.heap.size ≤ B ∧ Arr .u8 wo B (o) | _ => True) (fun f v v' => ∃ B, f 4 = .pointer (some ⟨B, 0, none⟩) ∧ w3.heap.size ≤ B ∧ ∃ ys : List Int, ys.length = 32 ∧ v' = v.setRow B (ys.map (Value.int .u8)).toArray) (by kernel_rfl) (by kernel_rfl) (by kernel_rfl) (by kernel_rfl) (fun b v v' hb h => ⟨h.1.below hb, h.2.1.below hb, h.2.2.1.below hb, below_then h.2.2.2 hb⟩) (fun opn f v v' hb h => by
        match opn, h with
        | 4, h => obtain ⟨B, h1, h2, zs, h3, h4⟩ := h; exact ⟨B, h1, h2, zs, h3, h4.below hb⟩
        | 5, h => obtain ⟨B, h1, h2, h3⟩ := h; exact ⟨B, h1, h2, h3.below hb⟩
        | 0, h => exact h
        | 1, h => exact h
        | 2, h => exact h
        | 3, h => exact h
        | _ + 6, h => trivial)
        (fun opn f f' v v' hne hS h => by
        obtain ⟨B', -, hB', ys, hys, rfl⟩ := hS
        match opn, hne, h with
        | 4, _, h =>
          obtain ⟨B, h1, h2, zs, h3, h4⟩ := h
          by_cases e : B = B'
          · subst e; exact ⟨B, h1, h2, ys, hys, h4.setRow ys⟩
          · exact ⟨B, h1, h2, zs, h3, h4.rowOther e _⟩
        | 5, hne, _ => exact (hne rfl).elim
        | 0, _, h => exact h
        | 1, _, h => exact h
        | 2, _, h => exact h
        | 3, _, h => exact h
        | _ + 6, _, h => trivial) ⟨AX.drew, AY.drew, AZ.drew, BB.drew⟩ ?_ ?_
      ·
        refine StepL.other (k := 0) rfl (fun b f W hb hG hH => ?_) ?_
        · -- 0
          obtain rfl := hb rfl
          clear hH
          generalize hA : putL _ _ _ _ = A
          have q3 : A.eval (.tmp 3) = .pointer (some ⟨w.heap.size, 0, none⟩) := by rw [← hA]; exact putL_none rfl rfl rfl rfl
          have r3 : A.tmps[3]?.getD undef = .pointer (some ⟨w.heap.size, 0, none⟩) := slot_get q3
          clear hA
          exact Does.loadI rfl 22 _ rfl 32 5 und_a32 info_a32 (w.heap.size) q3 .u8 (xb) (hG.1) (lxb) ⟨Below.refl _ _, rfl⟩
        refine StepL.other (k := 1) rfl (fun b f W hb hG hH => ?_) ?_
        · -- 1
          obtain rfl := hb rfl
          clear hH
          generalize hA : putL _ _ _ _ = A
          have q3 : A.eval (.tmp 3) = .pointer (some ⟨w.heap.size, 0, none⟩) := by rw [← hA]; exact putL_none rfl rfl rfl rfl
          have r3 : A.tmps[3]?.getD undef = .pointer (some ⟨w.heap.size, 0, none⟩) := slot_get q3
          clear hA
          exact Does.loadI rfl 22 _ rfl 32 5 und_a32 info_a32 (w.heap.size) q3 .u8 (xb) (hG.1) (lxb) ⟨Below.refl _ _, rfl⟩
        refine StepL.other (k := 2) rfl (fun b f W hb hG hH => ?_) ?_
        · -- 2
          obtain rfl := hb rfl
          obtain ⟨d1, -⟩ : (f 1 = aggI .u8 xb) ∧ True := hH
          generalize hA : putL _ _ _ _ = A
          have q76 : A.eval (.tmp 76) = aggI .u8 xb := by rw [← hA]; exact putL_look rfl rfl rfl d1
          have r76 : A.tmps[76]?.getD undef = aggI .u8 xb := slot_get q76
          clear hA
          refine Does.call rfl _ _ (by go_simp) ((H15 W).mono ?_)
          rintro e w' ⟨rfl, hb'⟩
          exact ⟨_, rfl, hb', rfl⟩
        refine StepL.other (k := 3) rfl (fun b f W hb hG hH => ?_) ?_
        · -- 3
          obtain rfl := hb rfl
          obtain ⟨d0, d2, -, -⟩ : (f 0 = aggI .u8 xb) ∧ (f 2 = aggI .u8 i) ∧ (f 2 = aggI .u8 i) ∧ True := hH
          generalize hA : putL _ _ _ _ = A
          have q75 : A.eval (.tmp 75) = aggI .u8 xb := by rw [← hA]; exact putL_look rfl rfl rfl d0
          have r75 : A.tmps[75]?.getD undef = aggI .u8 xb := slot_get q75
          have q77 : A.eval (.tmp 77) = aggI .u8 i := by rw [← hA]; exact putL_look rfl rfl rfl d2
          have r77 : A.tmps[77]?.getD undef = aggI .u8 i := slot_get q77
          clear hA
          refine Does.call rfl _ _ (by go_simp) ((H16 W).mono ?_)
          rintro e w' ⟨rfl, hb'⟩
          exact ⟨_, rfl, hb', rfl⟩
        refine StepL.other (k := 4) rfl (fun b f W hb hG hH => ?_) ?_
        · -- 4
          obtain rfl := hb rfl
          clear hH
          generalize hA : putL _ _ _ _ = A
          clear hA
          refine Does.allocI rfl 22 rfl .u8 32 zero_a32 ?_
          intro W1 D1 s1 b1'
          exact ⟨b1', _, rfl, hG.2.2.2.size, _, by simp, D1⟩
        refine StepL.self (k := 5) rfl (fun f W hG hH => ?_) ?_
        · -- 5
          obtain ⟨d4, d3, -, d0, d1, d2, -, -, -⟩ : (∃ B, f 4 = .pointer (some ⟨B, 0, none⟩) ∧ w3.heap.size ≤ B ∧ ∃ zs : List Int, zs.length = 32 ∧ Arr .u8 W B zs) ∧ (f 3 = aggI .u8 o) ∧ (f 3 = aggI .u8 o) ∧ (f 0 = aggI .u8 xb) ∧ (f 1 = aggI .u8 xb) ∧ (f 2 = aggI .u8 i) ∧ (f 3 = aggI .u8 o) ∧ (∃ B, f 4 = .pointer (some ⟨B, 0, none⟩) ∧ w3.heap.size ≤ B ∧ ∃ zs : List Int, zs.length = 32 ∧ Arr .u8 W B zs) ∧ True := hH
          generalize hA : putL _ _ _ _ = A
          have q7 : A.eval (.tmp 7) = f 4 := by rw [← hA]; exact putL_look rfl rfl rfl rfl
          have r7 : A.tmps[7]?.getD undef = f 4 := slot_get q7
          have q78 : A.eval (.tmp 78) = aggI .u8 o := by rw [← hA]; exact putL_look rfl rfl rfl d3
          have r78 : A.tmps[78]?.getD undef = aggI .u8 o := slot_get q78
          clear hA
          obtain ⟨B, hB, hWB, zs, hzl, hZ⟩ := d4
          rw [hB] at q7
          refine Does.storeI rfl 22 _ _ rfl 32 info_a32 B q7 .u8 zs _ q78 hZ hzl (lo) ?_
          intro A9
          exact ⟨⟨B, hB, hWB, _, lo, rfl⟩, ⟨hG.1.rowOther (by omega) _, hG.2.1.rowOther (by omega) _, hG.2.2.1.rowOther (by omega) _, Below.setRow hG.2.2.2 (by omega) _⟩, B, hB, hWB, A9⟩
        exact trivial
      ·
        intro f W hG hH
        obtain ⟨d0, d1, d2, d3, d4, d5, -⟩ : (f 0 = aggI .u8 xb) ∧ (f 1 = aggI .u8 xb) ∧ (f 2 = aggI .u8 i) ∧ (f 3 = aggI .u8 o) ∧ (∃ B, f 4 = .pointer (some ⟨B, 0, none⟩) ∧ w3.heap.size ≤ B ∧ ∃ zs : List Int, zs.length = 32 ∧ Arr .u8 W B zs) ∧ (∃ B, f 4 = .pointer (some ⟨B, 0, none⟩) ∧ w3.heap.size ≤ B ∧ Arr .u8 W B (o)) ∧ True := hH
        rw [show List.range (List.length [[], [], [1], [0, 2, 2], [], [4, 3, 3, 0, 1, 2, 3, 4]]) = [0, 1, 2, 3, 4, 5] from rfl]
        simp only [putL, List.getElem?_cons_zero, List.getElem?_cons_succ, Option.join, Option.bind_some, id_eq, Act.put, List.setIfInBounds_toArray, List.set_cons_zero, List.set_cons_succ, d0, d1, d2, d3]
        clear d0 d1 d2 d3
        obtain ⟨AX, AY, AZ, BB⟩ := hG
        obtain ⟨B, hB, hWB, D3⟩ := d5
        clear d4
        rw [hB]
        clear hB
        cases bz
        · obtain rfl := hz0 rfl
          go_wp2_with (first
            | (with_reducible refine at_op (o := ⟨some 79, _, _, _, _, _⟩) ?_; refine wpList_val (fun R hR => Does.loadI rfl 22 _ rfl 32 5 und_a32 info_a32 (w.heap.size) rfl .u8 (xb) (AX) (lxb) hR) ?_)
            | (go_at_call 15; refine (H14 _).mono ?_; rintro e w8 ⟨rfl, b8⟩; have D8 := D3.below b8; have B8 := below_then BB b8)
            | (with_reducible refine at_op (o := ⟨some 81, _, _, _, _, _⟩) ?_; go_loud (refine wpList_val (fun R hR => Does.buildI rfl 22 _ rfl .u8 (List.replicate 32 0) _ (built_zero) rfl hR) ?_))
            | (with_reducible refine at_op (o := ⟨some 82, _, _, _, _, _⟩) ?_; refine wpList_val (fun R hR => Does.eqlI rfl 22 _ 5 _ _ rfl 32 und_a32 .u8 .u8 Tryd.underlying5 (by kernel_rfl) (by kernel_rfl) (r) (List.replicate 32 0) rfl rfl (lr) (rfl) false (hz) hR) ?_)
            | (with_reducible refine at_op (o := ⟨some 86, _, _, _, _, _⟩) ?_; refine wpList_val (fun R hR => Does.loadI rfl 22 _ rfl 32 5 und_a32 info_a32 (B) rfl .u8 (unit32 1) (D8) (lo) hR) ?_)
            | (with_reducible refine at_op (o := ⟨some 87, _, _, _, _, _⟩) ?_; go_loud (refine wpList_val (fun R hR => Does.buildI rfl 22 _ rfl .u8 (unit32 1) _ (built_unit 1) rfl hR) ?_))
            | (with_reducible refine at_op (o := ⟨some 88, _, _, _, _, _⟩) ?_; refine wpList_val (fun R hR => Does.eqlI rfl 22 _ 5 _ _ rfl 32 und_a32 .u8 .u8 Tryd.underlying5 (by kernel_rfl) (by kernel_rfl) (unit32 1) (unit32 1) rfl rfl (rfl) (rfl) true (by simp) hR) ?_))
          go_ret
          exact ⟨rfl, below_then (below_then (below_then b1 b2) b3) B8⟩
        · obtain rfl := hz1 rfl
          go_wp2_with (first
            | (with_reducible refine at_op (o := ⟨some 79, _, _, _, _, _⟩) ?_; refine wpList_val (fun R hR => Does.loadI rfl 22 _ rfl 32 5 und_a32 info_a32 (w.heap.size) rfl .u8 (xb) (AX) (lxb) hR) ?_)
            | (go_at_call 15; refine (H14 _).mono ?_; rintro e w8 ⟨rfl, b8⟩; have D8 := D3.below b8; have B8 := below_then BB b8)
            | (with_reducible refine at_op (o := ⟨some 81, _, _, _, _, _⟩) ?_; go_loud (refine wpList_val (fun R hR => Does.buildI rfl 22 _ rfl .u8 (List.replicate 32 0) _ (built_zero) rfl hR) ?_))
            | (with_reducible refine at_op (o := ⟨some 82, _, _, _, _, _⟩) ?_; refine wpList_val (fun R hR => Does.eqlI rfl 22 _ 5 _ _ rfl 32 und_a32 .u8 .u8 Tryd.underlying5 (by kernel_rfl) (by kernel_rfl) (r) (List.replicate 32 0) rfl rfl (lr) (rfl) true (hz) hR) ?_)
            | (with_reducible refine at_op (o := ⟨some 83, _, _, _, _, _⟩) ?_; refine wpList_val (fun R hR => Does.loadI rfl 22 _ rfl 32 5 und_a32 info_a32 (B) rfl .u8 (List.replicate 32 0) (D8) (lo) hR) ?_)
            | (with_reducible refine at_op (o := ⟨some 84, _, _, _, _, _⟩) ?_; go_loud (refine wpList_val (fun R hR => Does.buildI rfl 22 _ rfl .u8 (List.replicate 32 0) _ (built_zero) rfl hR) ?_))
            | (with_reducible refine at_op (o := ⟨some 85, _, _, _, _, _⟩) ?_; refine wpList_val (fun R hR => Does.eqlI rfl 22 _ 5 _ _ rfl 32 und_a32 .u8 .u8 Tryd.underlying5 (by kernel_rfl) (by kernel_rfl) (List.replicate 32 0) (List.replicate 32 0) rfl rfl (rfl) (rfl) true (by simp) hR) ?_))
          go_ret
          exact ⟨rfl, below_then (below_then (below_then b1 b2) b3) B8⟩
end Go.Proofs.YtlhloldjlfcchaaDoor
