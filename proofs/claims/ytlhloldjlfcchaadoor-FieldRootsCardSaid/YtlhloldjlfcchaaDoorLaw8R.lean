/- The law on roots. -/
import Derived.Test.YtlhloldjlfcchaaDoorFX
import Derived.Test.YtlhloldjlfcchaaDoorLaw8Q
namespace Go.Proofs.YtlhloldjlfcchaaDoor
open Go.RowKit Go.Shelf
set_option linter.unusedVariables false
set_option maxRecDepth 8000

set_option maxHeartbeats 4000000 in
theorem roots_walk_t (xb r m q d : List Int) (w : World) (hT : Tab w) (lxb : xb.length = 32) (lr : r.length = 32) (lm : m.length = 32) (lq : q.length = 32) (ld : d.length = 32)
    (HR1 : ∀ W, Tab W → Calls Tryd.prog 25 #[aggI .u8 xb] W fun e w' => e = .returned (.tuple #[aggI .u8 r, .bool true]) ∧ Below W.heap.size W w')
    (HR2 : ∀ W, Calls Tryd.prog 26 #[aggI .u8 xb] W fun e w' => e = .returned (.tuple #[aggI .u8 r, .bool true]) ∧ Below W.heap.size W w')
    (HM : ∀ W, Calls Tryd.prog 19 #[aggI .u8 xb, aggI .u8 xb] W fun e w' => e = .returned (aggI .u8 m) ∧ Below W.heap.size W w') (HR3 : ∀ W, Tab W → Calls Tryd.prog 25 #[aggI .u8 m] W fun e w' => e = .returned (.tuple #[aggI .u8 q, .bool true]) ∧ Below W.heap.size W w')
    (HQ : ∀ W, Calls Tryd.prog 19 #[aggI .u8 q, aggI .u8 q] W fun e w' => e = .returned (aggI .u8 m) ∧ Below W.heap.size W w') (HD : ∀ W, Calls Tryd.prog 19 #[aggI .u8 r, aggI .u8 r] W fun e w' => e = .returned (aggI .u8 d) ∧ Below W.heap.size W w') (HE : ∀ W, Calls Tryd.prog 15 #[aggI .u8 xb] W fun e w' => e = .returned (aggI .u8 d) ∧ Below W.heap.size W w') (hq0 : 0 ≤ at0 q 0 ∧ at0 q 0 ≤ 255) (hqe : (at0 q 0).tmod 2 = 0) :
    Calls Tryd.prog 6 #[aggI .u8 xb] w fun e w' => e = .returned (.bool true) ∧ Below w.heap.size w w' := by
  go_enter Tryd.func6, Tryd.ntmps6
  go_wp2_with (first
    | (with_reducible refine at_op (o := ⟨some 1, _, _, _, _, _⟩) ?_; refine wpList_boxI rfl 22 _ rfl .u8 xb rfl ?_; intro w1 A1 s1 b1; have BB := b1; have y1 := BB.size)
    | (with_reducible refine at_op (o := ⟨some 12, _, _, _, _, _⟩) ?_; refine wpList_val (fun R hR => Does.loadI rfl 22 _ rfl 32 5 und_a32 info_a32 (w.heap.size) rfl .u8 (xb) (A1) (lxb) hR) ?_)
    | (with_reducible refine at_op (o := ⟨some 3, _, _, _, _, _⟩) ?_; refine wpList_allocI rfl 22 rfl .u8 32 zero_a32 ?_; intro w4 A4 s4 b4; have q4A1 := A1.lt; replace A1 := A1.below b4; replace BB := below_then BB b4; have y4 := BB.size)
    | (with_reducible refine at_op (o := ⟨_, .store 22 (.tmp 3) _, _, _, _, _⟩) ?_; refine wpList_storeI rfl 22 _ _ rfl 32 info_a32 (w3.heap.size) rfl .u8 _ (r) rfl (A4) (rfl) (lr) ?_; intro D5; replace A1 := A1.rowOther (B' := w3.heap.size) (by omega) ((r).map (Value.int .u8)).toArray; replace BB := Below.setRow BB (g := w3.heap.size) (by omega) ((r).map (Value.int .u8)).toArray; clear A4; have A4 := D5)
    | (with_reducible refine at_op (o := ⟨some 17, _, _, _, _, _⟩) ?_; refine wpList_val (fun R hR => Does.loadI rfl 22 _ rfl 32 5 und_a32 info_a32 (w.heap.size) rfl .u8 (xb) (A1) (lxb) hR) ?_)
    | (with_reducible refine at_op (o := ⟨some 5, _, _, _, _, _⟩) ?_; refine wpList_allocI rfl 22 rfl .u8 32 zero_a32 ?_; intro w7 A7 s7 b7; have q7A1 := A1.lt; have q7A4 := A4.lt; replace A1 := A1.below b7; replace A4 := A4.below b7; replace BB := below_then BB b7; have y7 := BB.size)
    | (with_reducible refine at_op (o := ⟨_, .store 22 (.tmp 5) _, _, _, _, _⟩) ?_; refine wpList_storeI rfl 22 _ _ rfl 32 info_a32 (w6.heap.size) rfl .u8 _ (r) rfl (A7) (rfl) (lr) ?_; intro D8; replace A1 := A1.rowOther (B' := w6.heap.size) (by omega) ((r).map (Value.int .u8)).toArray; replace A4 := A4.rowOther (B' := w6.heap.size) (by omega) ((r).map (Value.int .u8)).toArray; replace BB := Below.setRow BB (g := w6.heap.size) (by omega) ((r).map (Value.int .u8)).toArray; clear A7; have A7 := D8)
    | (with_reducible refine at_op (o := ⟨some 21, _, _, _, _, _⟩) ?_; refine wpList_val (fun R hR => Does.loadI rfl 22 _ rfl 32 5 und_a32 info_a32 (w3.heap.size) rfl .u8 (r) (A4) (lr) hR) ?_)
    | (with_reducible refine at_op (o := ⟨some 22, _, _, _, _, _⟩) ?_; refine wpList_val (fun R hR => Does.loadI rfl 22 _ rfl 32 5 und_a32 info_a32 (w6.heap.size) rfl .u8 (r) (A7) (lr) hR) ?_)
    | (with_reducible refine at_op (o := ⟨some 23, _, _, _, _, _⟩) ?_; refine wpList_val (fun R hR => Does.neI rfl 22 _ 5 _ _ rfl 32 und_a32 .u8 .u8 Tryd.underlying5 (by kernel_rfl) (by kernel_rfl) (r) (r) rfl rfl (lr) (lr) false (by simp) hR) ?_)
    | (with_reducible refine at_op (o := ⟨some 30, _, _, _, _, _⟩) ?_; refine wpList_val (fun R hR => Does.loadI rfl 22 _ rfl 32 5 und_a32 info_a32 (w.heap.size) rfl .u8 (xb) (A1) (lxb) hR) ?_)
    | (with_reducible refine at_op (o := ⟨some 31, _, _, _, _, _⟩) ?_; refine wpList_val (fun R hR => Does.loadI rfl 22 _ rfl 32 5 und_a32 info_a32 (w.heap.size) rfl .u8 (xb) (A1) (lxb) hR) ?_)
    | (with_reducible refine at_op (o := ⟨some 7, _, _, _, _, _⟩) ?_; refine wpList_allocI rfl 22 rfl .u8 32 zero_a32 ?_; intro w11 A11 s11 b11; have q11A1 := A1.lt; have q11A4 := A4.lt; have q11A7 := A7.lt; replace A1 := A1.below b11; replace A4 := A4.below b11; replace A7 := A7.below b11; replace BB := below_then BB b11; have y11 := BB.size)
    | (with_reducible refine at_op (o := ⟨_, .store 22 (.tmp 7) _, _, _, _, _⟩) ?_; refine wpList_storeI rfl 22 _ _ rfl 32 info_a32 (w10.heap.size) rfl .u8 _ (q) rfl (A11) (rfl) (lq) ?_; intro D12; replace A1 := A1.rowOther (B' := w10.heap.size) (by omega) ((q).map (Value.int .u8)).toArray; replace A4 := A4.rowOther (B' := w10.heap.size) (by omega) ((q).map (Value.int .u8)).toArray; replace A7 := A7.rowOther (B' := w10.heap.size) (by omega) ((q).map (Value.int .u8)).toArray; replace BB := Below.setRow BB (g := w10.heap.size) (by omega) ((q).map (Value.int .u8)).toArray; clear A11; have A11 := D12)
    | (go_at_call 10; first | ((with_reducible refine (alive_v _ (hT.below BB)).mono ?_); rintro e w2 ⟨rfl, b2⟩; replace A1 := A1.below b2; replace BB := below_then BB b2; have z2 := BB.size))
    | (go_at_call 25; first | ((with_reducible refine (HR1 _ (hT.below BB)).mono ?_); rintro e w3 ⟨rfl, b3⟩; replace A1 := A1.below b3; replace BB := below_then BB b3; have z3 := BB.size) | ((with_reducible refine (HR3 _ (hT.below BB)).mono ?_); rintro e w10 ⟨rfl, b10⟩; replace A1 := A1.below b10; replace A4 := A4.below b10; replace A7 := A7.below b10; replace BB := below_then BB b10; have z10 := BB.size))
    | (go_at_call 26; first | ((with_reducible refine (HR2 _).mono ?_); rintro e w6 ⟨rfl, b6⟩; replace A1 := A1.below b6; replace A4 := A4.below b6; replace BB := below_then BB b6; have z6 := BB.size))
    | (go_at_call 19; first | ((with_reducible refine (HM _).mono ?_); rintro e w9 ⟨rfl, b9⟩; replace A1 := A1.below b9; replace A4 := A4.below b9; replace A7 := A7.below b9; replace BB := below_then BB b9; have z9 := BB.size)))
  refine wp_region_ord [[], [0], [1], [2, 1], [3, 1], [4, 1], [1, 5], [6, 1], [7], [7], [8, 9, 7, 7], [7], [7], [11, 12, 10, 7], [10, 13, 7], [7, 14], [15, 13], [16], [17, 16], [18, 16, 16], [19], [19], [20, 21, 19, 19], [19], [23, 22, 19], [22, 24, 19], [19, 25, 16], [16, 26], [27, 24, 0, 1, 2, 3, 4, 5, 6, 7, 8, 9, 10, 11, 12, 13, 14, 15, 16, 17, 18, 19, 20, 21, 22, 23, 24, 25, 26, 27]] [some 36, some 37, some 38, some 39, some 40, some 41, some 42, some 43, some 44, some 45, some 46, some 47, some 48, some 49, some 50, some 51, some 52, some 53, some 54, some 55, some 56, some 57, some 58, some 59, some 60, some 61, some 62, some 63, some 2] 29 (fun b w' => Arr .u8 w' (w.heap.size) xb ∧ Arr .u8 w' (w3.heap.size) r ∧ Arr .u8 w' (w10.heap.size) q ∧ Below w.heap.size w w') (fun opn f _ => match opn with | 0 => f 0 = .bool true | 1 => f 1 = .bool true | 2 => f 2 = .pointer (some ⟨w10.heap.size, 0, none⟩) | 3 => f 3 = .int .u8 (at0 q 0) | 4 => f 4 = .int .u8 0 | 5 => f 5 = .bool true | 6 => f 6 = .bool true | 7 => f 7 = .bool true | 8 => f 8 = aggI .u8 q | 9 => f 9 = aggI .u8 q | 10 => f 10 = aggI .u8 m | 11 => f 11 = aggI .u8 xb | 12 => f 12 = aggI .u8 xb | 13 => f 13 = aggI .u8 m | 14 => f 14 = .bool true | 15 => f 15 = .bool true | 16 => f 16 = .bool true | 17 => f 17 = .bool true | 18 => f 18 = .bool false | 19 => f 19 = .bool false | 20 => f 20 = aggI .u8 r | 21 => f 21 = aggI .u8 r | 22 => f 22 = aggI .u8 d | 23 => f 23 = aggI .u8 xb | 24 => f 24 = aggI .u8 d | 25 => f 25 = .bool true | 26 => f 26 = .bool true | 27 => f 27 = .bool true | 28 => f 28 = .bool true | _ => True) (fun _ _ _ => True) (by kernel_rfl) (by kernel_rfl) (by kernel_rfl) (by kernel_rfl) (fun b v v' hb h => ⟨h.1.below hb, h.2.1.below hb, h.2.2.1.below hb, below_then h.2.2.2 hb⟩) (fun _ _ _ _ _ h => h) (fun _ _ _ _ _ _ _ h => h) ⟨A1.drew, A4.drew, A11.drew, BB.drew⟩ ?_ ?_
  ·
    refine StepL.other (k := 0) rfl (fun b f W hb hG hH => ?_) ?_
    · -- 0
      clear hH
      generalize hA : putL _ _ _ _ = A
      have q8 : A.eval (.tmp 8) = .bool true := by rw [← hA]; exact putL_none rfl rfl rfl rfl
      have r8 : A.tmps[8]?.getD undef = .bool true := slot_get q8
      clear hA
      refine Does.pure rfl (.bool true) ?_ ⟨Below.refl _ _, rfl⟩
      go_simp
    refine StepL.other (k := 1) rfl (fun b f W hb hG hH => ?_) ?_
    · -- 1
      obtain ⟨d0, -⟩ : (f 0 = .bool true) ∧ True := hH
      generalize hA : putL _ _ _ _ = A
      have q36 : A.eval (.tmp 36) = .bool true := by rw [← hA]; exact putL_look rfl rfl rfl d0
      have r36 : A.tmps[36]?.getD undef = .bool true := slot_get q36
      clear hA
      refine Does.pure rfl (.bool true) ?_ ⟨Below.refl _ _, rfl⟩
      go_simp
    refine StepL.other (k := 2) rfl (fun b f W hb hG hH => ?_) ?_
    · -- 2
      obtain ⟨d1, -⟩ : (f 1 = .bool true) ∧ True := hH
      generalize hA : putL _ _ _ _ = A
      have q7 : A.eval (.tmp 7) = .pointer (some ⟨w10.heap.size, 0, none⟩) := by rw [← hA]; exact putL_none rfl rfl rfl rfl
      have r7 : A.tmps[7]?.getD undef = .pointer (some ⟨w10.heap.size, 0, none⟩) := slot_get q7
      have q37 : A.eval (.tmp 37) = .bool true := by rw [← hA]; exact putL_look rfl rfl rfl d1
      have r37 : A.tmps[37]?.getD undef = .bool true := slot_get q37
      clear hA
      refine Does.pure (wanted_of (b := true) rfl rfl q37) (.pointer (some ⟨w10.heap.size, 0, none⟩)) ?_ ⟨Below.refl _ _, rfl⟩
      go_simp
    refine StepL.other (k := 3) rfl (fun b f W hb hG hH => ?_) ?_
    · -- 3
      obtain ⟨d2, d1, -⟩ : (f 2 = .pointer (some ⟨w10.heap.size, 0, none⟩)) ∧ (f 1 = .bool true) ∧ True := hH
      generalize hA : putL _ _ _ _ = A
      have q38 : A.eval (.tmp 38) = .pointer (some ⟨w10.heap.size, 0, none⟩) := by rw [← hA]; exact putL_look rfl rfl rfl d2
      have r38 : A.tmps[38]?.getD undef = .pointer (some ⟨w10.heap.size, 0, none⟩) := slot_get q38
      have q37 : A.eval (.tmp 37) = .bool true := by rw [← hA]; exact putL_look rfl rfl rfl d1
      have r37 : A.tmps[37]?.getD undef = .bool true := slot_get q37
      clear hA
      have c0 := hG.2.2.1.cell (k := 0) (by rw [lq]; decide)
      refine Does.pure (wanted_of (b := true) rfl rfl q37) (.int .u8 (at0 q 0)) ?_ ⟨Below.refl _ _, rfl⟩
      go_simp
    refine StepL.other (k := 4) rfl (fun b f W hb hG hH => ?_) ?_
    · -- 4
      obtain ⟨d3, d1, -⟩ : (f 3 = .int .u8 (at0 q 0)) ∧ (f 1 = .bool true) ∧ True := hH
      generalize hA : putL _ _ _ _ = A
      have q39 : A.eval (.tmp 39) = .int .u8 (at0 q 0) := by rw [← hA]; exact putL_look rfl rfl rfl d3
      have r39 : A.tmps[39]?.getD undef = .int .u8 (at0 q 0) := slot_get q39
      have q37 : A.eval (.tmp 37) = .bool true := by rw [← hA]; exact putL_look rfl rfl rfl d1
      have r37 : A.tmps[37]?.getD undef = .bool true := slot_get q37
      clear hA
      have hq1 := hq0.1; have hq2 := hq0.2
      refine Does.pure (wanted_of (b := true) rfl rfl q37) (.int .u8 0) ?_ ⟨Below.refl _ _, rfl⟩
      go_simp
    refine StepL.other (k := 5) rfl (fun b f W hb hG hH => ?_) ?_
    · -- 5
      obtain ⟨d4, d1, -⟩ : (f 4 = .int .u8 0) ∧ (f 1 = .bool true) ∧ True := hH
      generalize hA : putL _ _ _ _ = A
      have q40 : A.eval (.tmp 40) = .int .u8 0 := by rw [← hA]; exact putL_look rfl rfl rfl d4
      have r40 : A.tmps[40]?.getD undef = .int .u8 0 := slot_get q40
      have q37 : A.eval (.tmp 37) = .bool true := by rw [← hA]; exact putL_look rfl rfl rfl d1
      have r37 : A.tmps[37]?.getD undef = .bool true := slot_get q37
      clear hA
      refine Does.pure (wanted_of (b := true) rfl rfl q37) (.bool true) ?_ ⟨Below.refl _ _, rfl⟩
      go_simp
    refine StepL.other (k := 6) rfl (fun b f W hb hG hH => ?_) ?_
    · -- 6
      obtain ⟨d1, d5, -⟩ : (f 1 = .bool true) ∧ (f 5 = .bool true) ∧ True := hH
      generalize hA : putL _ _ _ _ = A
      have q37 : A.eval (.tmp 37) = .bool true := by rw [← hA]; exact putL_look rfl rfl rfl d1
      have r37 : A.tmps[37]?.getD undef = .bool true := slot_get q37
      have q41 : A.eval (.tmp 41) = .bool true := by rw [← hA]; exact putL_look rfl rfl rfl d5
      have r41 : A.tmps[41]?.getD undef = .bool true := slot_get q41
      clear hA
      refine Does.pure rfl (.bool true) ?_ ⟨Below.refl _ _, rfl⟩
      go_simp
    refine StepL.other (k := 7) rfl (fun b f W hb hG hH => ?_) ?_
    · -- 7
      obtain ⟨d6, d1, -⟩ : (f 6 = .bool true) ∧ (f 1 = .bool true) ∧ True := hH
      generalize hA : putL _ _ _ _ = A
      have q42 : A.eval (.tmp 42) = .bool true := by rw [← hA]; exact putL_look rfl rfl rfl d6
      have r42 : A.tmps[42]?.getD undef = .bool true := slot_get q42
      clear hA
      refine Does.pure rfl (.bool true) ?_ ⟨Below.refl _ _, rfl⟩
      go_simp
    refine StepL.other (k := 8) rfl (fun b f W hb hG hH => ?_) ?_
    · -- 8
      obtain ⟨d7, -⟩ : (f 7 = .bool true) ∧ True := hH
      generalize hA : putL _ _ _ _ = A
      have q7 : A.eval (.tmp 7) = .pointer (some ⟨w10.heap.size, 0, none⟩) := by rw [← hA]; exact putL_none rfl rfl rfl rfl
      have r7 : A.tmps[7]?.getD undef = .pointer (some ⟨w10.heap.size, 0, none⟩) := slot_get q7
      have q43 : A.eval (.tmp 43) = .bool true := by rw [← hA]; exact putL_look rfl rfl rfl d7
      have r43 : A.tmps[43]?.getD undef = .bool true := slot_get q43
      clear hA
      exact Does.loadI (wanted_of (b := true) rfl rfl q43) 22 _ rfl 32 5 und_a32 info_a32 (w10.heap.size) q7 .u8 (q) (hG.2.2.1) (lq) ⟨Below.refl _ _, rfl⟩
    refine StepL.other (k := 9) rfl (fun b f W hb hG hH => ?_) ?_
    · -- 9
      obtain ⟨d7, -⟩ : (f 7 = .bool true) ∧ True := hH
      generalize hA : putL _ _ _ _ = A
      have q7 : A.eval (.tmp 7) = .pointer (some ⟨w10.heap.size, 0, none⟩) := by rw [← hA]; exact putL_none rfl rfl rfl rfl
      have r7 : A.tmps[7]?.getD undef = .pointer (some ⟨w10.heap.size, 0, none⟩) := slot_get q7
      have q43 : A.eval (.tmp 43) = .bool true := by rw [← hA]; exact putL_look rfl rfl rfl d7
      have r43 : A.tmps[43]?.getD undef = .bool true := slot_get q43
      clear hA
      exact Does.loadI (wanted_of (b := true) rfl rfl q43) 22 _ rfl 32 5 und_a32 info_a32 (w10.heap.size) q7 .u8 (q) (hG.2.2.1) (lq) ⟨Below.refl _ _, rfl⟩
    refine StepL.other (k := 10) rfl (fun b f W hb hG hH => ?_) ?_
    · -- 10
      obtain ⟨d8, d9, d7, -, -⟩ : (f 8 = aggI .u8 q) ∧ (f 9 = aggI .u8 q) ∧ (f 7 = .bool true) ∧ (f 7 = .bool true) ∧ True := hH
      generalize hA : putL _ _ _ _ = A
      have q44 : A.eval (.tmp 44) = aggI .u8 q := by rw [← hA]; exact putL_look rfl rfl rfl d8
      have r44 : A.tmps[44]?.getD undef = aggI .u8 q := slot_get q44
      have q45 : A.eval (.tmp 45) = aggI .u8 q := by rw [← hA]; exact putL_look rfl rfl rfl d9
      have r45 : A.tmps[45]?.getD undef = aggI .u8 q := slot_get q45
      have q43 : A.eval (.tmp 43) = .bool true := by rw [← hA]; exact putL_look rfl rfl rfl d7
      have r43 : A.tmps[43]?.getD undef = .bool true := slot_get q43
      clear hA
      refine Does.call (wanted_of (b := true) rfl rfl q43) _ _ (by go_simp) ((HQ W).mono ?_)
      rintro e w' ⟨rfl, hb'⟩
      exact ⟨_, rfl, hb', rfl⟩
    refine StepL.other (k := 11) rfl (fun b f W hb hG hH => ?_) ?_
    · -- 11
      obtain ⟨d7, -⟩ : (f 7 = .bool true) ∧ True := hH
      generalize hA : putL _ _ _ _ = A
      have q1 : A.eval (.tmp 1) = .pointer (some ⟨w.heap.size, 0, none⟩) := by rw [← hA]; exact putL_none rfl rfl rfl rfl
      have r1 : A.tmps[1]?.getD undef = .pointer (some ⟨w.heap.size, 0, none⟩) := slot_get q1
      have q43 : A.eval (.tmp 43) = .bool true := by rw [← hA]; exact putL_look rfl rfl rfl d7
      have r43 : A.tmps[43]?.getD undef = .bool true := slot_get q43
      clear hA
      exact Does.loadI (wanted_of (b := true) rfl rfl q43) 22 _ rfl 32 5 und_a32 info_a32 (w.heap.size) q1 .u8 (xb) (hG.1) (lxb) ⟨Below.refl _ _, rfl⟩
    refine StepL.other (k := 12) rfl (fun b f W hb hG hH => ?_) ?_
    · -- 12
      obtain ⟨d7, -⟩ : (f 7 = .bool true) ∧ True := hH
      generalize hA : putL _ _ _ _ = A
      have q1 : A.eval (.tmp 1) = .pointer (some ⟨w.heap.size, 0, none⟩) := by rw [← hA]; exact putL_none rfl rfl rfl rfl
      have r1 : A.tmps[1]?.getD undef = .pointer (some ⟨w.heap.size, 0, none⟩) := slot_get q1
      have q43 : A.eval (.tmp 43) = .bool true := by rw [← hA]; exact putL_look rfl rfl rfl d7
      have r43 : A.tmps[43]?.getD undef = .bool true := slot_get q43
      clear hA
      exact Does.loadI (wanted_of (b := true) rfl rfl q43) 22 _ rfl 32 5 und_a32 info_a32 (w.heap.size) q1 .u8 (xb) (hG.1) (lxb) ⟨Below.refl _ _, rfl⟩
    refine StepL.other (k := 13) rfl (fun b f W hb hG hH => ?_) ?_
    · -- 13
      obtain ⟨d11, d12, d10, d7, -⟩ : (f 11 = aggI .u8 xb) ∧ (f 12 = aggI .u8 xb) ∧ (f 10 = aggI .u8 m) ∧ (f 7 = .bool true) ∧ True := hH
      generalize hA : putL _ _ _ _ = A
      have q47 : A.eval (.tmp 47) = aggI .u8 xb := by rw [← hA]; exact putL_look rfl rfl rfl d11
      have r47 : A.tmps[47]?.getD undef = aggI .u8 xb := slot_get q47
      have q48 : A.eval (.tmp 48) = aggI .u8 xb := by rw [← hA]; exact putL_look rfl rfl rfl d12
      have r48 : A.tmps[48]?.getD undef = aggI .u8 xb := slot_get q48
      have q43 : A.eval (.tmp 43) = .bool true := by rw [← hA]; exact putL_look rfl rfl rfl d7
      have r43 : A.tmps[43]?.getD undef = .bool true := slot_get q43
      clear hA
      refine Does.call (wanted_of (b := true) rfl rfl q43) _ _ (by go_simp) ((HM W).mono ?_)
      rintro e w' ⟨rfl, hb'⟩
      exact ⟨_, rfl, hb', rfl⟩
    refine StepL.other (k := 14) rfl (fun b f W hb hG hH => ?_) ?_
    · -- 14
      obtain ⟨d10, d13, d7, -⟩ : (f 10 = aggI .u8 m) ∧ (f 13 = aggI .u8 m) ∧ (f 7 = .bool true) ∧ True := hH
      generalize hA : putL _ _ _ _ = A
      have q46 : A.eval (.tmp 46) = aggI .u8 m := by rw [← hA]; exact putL_look rfl rfl rfl d10
      have r46 : A.tmps[46]?.getD undef = aggI .u8 m := slot_get q46
      have q49 : A.eval (.tmp 49) = aggI .u8 m := by rw [← hA]; exact putL_look rfl rfl rfl d13
      have r49 : A.tmps[49]?.getD undef = aggI .u8 m := slot_get q49
      have q43 : A.eval (.tmp 43) = .bool true := by rw [← hA]; exact putL_look rfl rfl rfl d7
      have r43 : A.tmps[43]?.getD undef = .bool true := slot_get q43
      clear hA
      exact Does.eqlI (wanted_of (b := true) rfl rfl q43) 22 _ 5 _ _ rfl 32 und_a32 .u8 .u8 Tryd.underlying5 (by kernel_rfl) (by kernel_rfl) (m) (m) q46 q49 (lm) (lm) true (by simp) ⟨Below.refl _ _, rfl⟩
    refine StepL.other (k := 15) rfl (fun b f W hb hG hH => ?_) ?_
    · -- 15
      obtain ⟨d7, d14, -⟩ : (f 7 = .bool true) ∧ (f 14 = .bool true) ∧ True := hH
      generalize hA : putL _ _ _ _ = A
      have q43 : A.eval (.tmp 43) = .bool true := by rw [← hA]; exact putL_look rfl rfl rfl d7
      have r43 : A.tmps[43]?.getD undef = .bool true := slot_get q43
      have q50 : A.eval (.tmp 50) = .bool true := by rw [← hA]; exact putL_look rfl rfl rfl d14
      have r50 : A.tmps[50]?.getD undef = .bool true := slot_get q50
      clear hA
      refine Does.pure rfl (.bool true) ?_ ⟨Below.refl _ _, rfl⟩
      go_simp
    refine StepL.other (k := 16) rfl (fun b f W hb hG hH => ?_) ?_
    · -- 16
      obtain ⟨d15, d13, -⟩ : (f 15 = .bool true) ∧ (f 13 = aggI .u8 m) ∧ True := hH
      generalize hA : putL _ _ _ _ = A
      have q51 : A.eval (.tmp 51) = .bool true := by rw [← hA]; exact putL_look rfl rfl rfl d15
      have r51 : A.tmps[51]?.getD undef = .bool true := slot_get q51
      clear hA
      refine Does.pure rfl (.bool true) ?_ ⟨Below.refl _ _, rfl⟩
      go_simp
    refine StepL.other (k := 17) rfl (fun b f W hb hG hH => ?_) ?_
    · -- 17
      obtain ⟨d16, -⟩ : (f 16 = .bool true) ∧ True := hH
      generalize hA : putL _ _ _ _ = A
      have q4 : A.eval (.tmp 4) = .bool true := by rw [← hA]; exact putL_none rfl rfl rfl rfl
      have r4 : A.tmps[4]?.getD undef = .bool true := slot_get q4
      have q52 : A.eval (.tmp 52) = .bool true := by rw [← hA]; exact putL_look rfl rfl rfl d16
      have r52 : A.tmps[52]?.getD undef = .bool true := slot_get q52
      clear hA
      refine Does.pure (wanted_of (b := true) rfl rfl q52) (.bool true) ?_ ⟨Below.refl _ _, rfl⟩
      go_simp
    refine StepL.other (k := 18) rfl (fun b f W hb hG hH => ?_) ?_
    · -- 18
      obtain ⟨d17, d16, -⟩ : (f 17 = .bool true) ∧ (f 16 = .bool true) ∧ True := hH
      generalize hA : putL _ _ _ _ = A
      have q53 : A.eval (.tmp 53) = .bool true := by rw [← hA]; exact putL_look rfl rfl rfl d17
      have r53 : A.tmps[53]?.getD undef = .bool true := slot_get q53
      have q52 : A.eval (.tmp 52) = .bool true := by rw [← hA]; exact putL_look rfl rfl rfl d16
      have r52 : A.tmps[52]?.getD undef = .bool true := slot_get q52
      clear hA
      refine Does.pure (wanted_of (b := true) rfl rfl q52) (.bool false) ?_ ⟨Below.refl _ _, rfl⟩
      go_simp
    refine StepL.other (k := 19) rfl (fun b f W hb hG hH => ?_) ?_
    · -- 19
      obtain ⟨d18, d16, -, -⟩ : (f 18 = .bool false) ∧ (f 16 = .bool true) ∧ (f 16 = .bool true) ∧ True := hH
      generalize hA : putL _ _ _ _ = A
      have q54 : A.eval (.tmp 54) = .bool false := by rw [← hA]; exact putL_look rfl rfl rfl d18
      have r54 : A.tmps[54]?.getD undef = .bool false := slot_get q54
      have q52 : A.eval (.tmp 52) = .bool true := by rw [← hA]; exact putL_look rfl rfl rfl d16
      have r52 : A.tmps[52]?.getD undef = .bool true := slot_get q52
      clear hA
      refine Does.pure (wanted_of (b := true) rfl rfl q52) (.bool false) ?_ ⟨Below.refl _ _, rfl⟩
      go_simp
    refine StepL.other (k := 20) rfl (fun b f W hb hG hH => ?_) ?_
    · -- 20
      obtain ⟨d19, -⟩ : (f 19 = .bool false) ∧ True := hH
      generalize hA : putL _ _ _ _ = A
      have q3 : A.eval (.tmp 3) = .pointer (some ⟨w3.heap.size, 0, none⟩) := by rw [← hA]; exact putL_none rfl rfl rfl rfl
      have r3 : A.tmps[3]?.getD undef = .pointer (some ⟨w3.heap.size, 0, none⟩) := slot_get q3
      have q55 : A.eval (.tmp 55) = .bool false := by rw [← hA]; exact putL_look rfl rfl rfl d19
      have r55 : A.tmps[55]?.getD undef = .bool false := slot_get q55
      clear hA
      exact Does.loadI (wanted_of (b := false) rfl rfl q55) 22 _ rfl 32 5 und_a32 info_a32 (w3.heap.size) q3 .u8 (r) (hG.2.1) (lr) ⟨Below.refl _ _, rfl⟩
    refine StepL.other (k := 21) rfl (fun b f W hb hG hH => ?_) ?_
    · -- 21
      obtain ⟨d19, -⟩ : (f 19 = .bool false) ∧ True := hH
      generalize hA : putL _ _ _ _ = A
      have q3 : A.eval (.tmp 3) = .pointer (some ⟨w3.heap.size, 0, none⟩) := by rw [← hA]; exact putL_none rfl rfl rfl rfl
      have r3 : A.tmps[3]?.getD undef = .pointer (some ⟨w3.heap.size, 0, none⟩) := slot_get q3
      have q55 : A.eval (.tmp 55) = .bool false := by rw [← hA]; exact putL_look rfl rfl rfl d19
      have r55 : A.tmps[55]?.getD undef = .bool false := slot_get q55
      clear hA
      exact Does.loadI (wanted_of (b := false) rfl rfl q55) 22 _ rfl 32 5 und_a32 info_a32 (w3.heap.size) q3 .u8 (r) (hG.2.1) (lr) ⟨Below.refl _ _, rfl⟩
    refine StepL.other (k := 22) rfl (fun b f W hb hG hH => ?_) ?_
    · -- 22
      obtain ⟨d20, d21, d19, -, -⟩ : (f 20 = aggI .u8 r) ∧ (f 21 = aggI .u8 r) ∧ (f 19 = .bool false) ∧ (f 19 = .bool false) ∧ True := hH
      generalize hA : putL _ _ _ _ = A
      have q56 : A.eval (.tmp 56) = aggI .u8 r := by rw [← hA]; exact putL_look rfl rfl rfl d20
      have r56 : A.tmps[56]?.getD undef = aggI .u8 r := slot_get q56
      have q57 : A.eval (.tmp 57) = aggI .u8 r := by rw [← hA]; exact putL_look rfl rfl rfl d21
      have r57 : A.tmps[57]?.getD undef = aggI .u8 r := slot_get q57
      have q55 : A.eval (.tmp 55) = .bool false := by rw [← hA]; exact putL_look rfl rfl rfl d19
      have r55 : A.tmps[55]?.getD undef = .bool false := slot_get q55
      clear hA
      refine Does.call (wanted_of (b := false) rfl rfl q55) _ _ (by go_simp) ((HD W).mono ?_)
      rintro e w' ⟨rfl, hb'⟩
      exact ⟨_, rfl, hb', rfl⟩
    refine StepL.other (k := 23) rfl (fun b f W hb hG hH => ?_) ?_
    · -- 23
      obtain ⟨d19, -⟩ : (f 19 = .bool false) ∧ True := hH
      generalize hA : putL _ _ _ _ = A
      have q1 : A.eval (.tmp 1) = .pointer (some ⟨w.heap.size, 0, none⟩) := by rw [← hA]; exact putL_none rfl rfl rfl rfl
      have r1 : A.tmps[1]?.getD undef = .pointer (some ⟨w.heap.size, 0, none⟩) := slot_get q1
      have q55 : A.eval (.tmp 55) = .bool false := by rw [← hA]; exact putL_look rfl rfl rfl d19
      have r55 : A.tmps[55]?.getD undef = .bool false := slot_get q55
      clear hA
      exact Does.loadI (wanted_of (b := false) rfl rfl q55) 22 _ rfl 32 5 und_a32 info_a32 (w.heap.size) q1 .u8 (xb) (hG.1) (lxb) ⟨Below.refl _ _, rfl⟩
    refine StepL.other (k := 24) rfl (fun b f W hb hG hH => ?_) ?_
    · -- 24
      obtain ⟨d23, d22, d19, -⟩ : (f 23 = aggI .u8 xb) ∧ (f 22 = aggI .u8 d) ∧ (f 19 = .bool false) ∧ True := hH
      generalize hA : putL _ _ _ _ = A
      have q59 : A.eval (.tmp 59) = aggI .u8 xb := by rw [← hA]; exact putL_look rfl rfl rfl d23
      have r59 : A.tmps[59]?.getD undef = aggI .u8 xb := slot_get q59
      have q55 : A.eval (.tmp 55) = .bool false := by rw [← hA]; exact putL_look rfl rfl rfl d19
      have r55 : A.tmps[55]?.getD undef = .bool false := slot_get q55
      clear hA
      refine Does.call (wanted_of (b := false) rfl rfl q55) _ _ (by go_simp) ((HE W).mono ?_)
      rintro e w' ⟨rfl, hb'⟩
      exact ⟨_, rfl, hb', rfl⟩
    refine StepL.other (k := 25) rfl (fun b f W hb hG hH => ?_) ?_
    · -- 25
      obtain ⟨d22, d24, d19, -⟩ : (f 22 = aggI .u8 d) ∧ (f 24 = aggI .u8 d) ∧ (f 19 = .bool false) ∧ True := hH
      generalize hA : putL _ _ _ _ = A
      have q58 : A.eval (.tmp 58) = aggI .u8 d := by rw [← hA]; exact putL_look rfl rfl rfl d22
      have r58 : A.tmps[58]?.getD undef = aggI .u8 d := slot_get q58
      have q60 : A.eval (.tmp 60) = aggI .u8 d := by rw [← hA]; exact putL_look rfl rfl rfl d24
      have r60 : A.tmps[60]?.getD undef = aggI .u8 d := slot_get q60
      have q55 : A.eval (.tmp 55) = .bool false := by rw [← hA]; exact putL_look rfl rfl rfl d19
      have r55 : A.tmps[55]?.getD undef = .bool false := slot_get q55
      clear hA
      exact Does.eqlI (wanted_of (b := false) rfl rfl q55) 22 _ 5 _ _ rfl 32 und_a32 .u8 .u8 Tryd.underlying5 (by kernel_rfl) (by kernel_rfl) (d) (d) q58 q60 (ld) (ld) true (by simp) ⟨Below.refl _ _, rfl⟩
    refine StepL.other (k := 26) rfl (fun b f W hb hG hH => ?_) ?_
    · -- 26
      obtain ⟨d19, d25, d16, -⟩ : (f 19 = .bool false) ∧ (f 25 = .bool true) ∧ (f 16 = .bool true) ∧ True := hH
      generalize hA : putL _ _ _ _ = A
      have q55 : A.eval (.tmp 55) = .bool false := by rw [← hA]; exact putL_look rfl rfl rfl d19
      have r55 : A.tmps[55]?.getD undef = .bool false := slot_get q55
      have q61 : A.eval (.tmp 61) = .bool true := by rw [← hA]; exact putL_look rfl rfl rfl d25
      have r61 : A.tmps[61]?.getD undef = .bool true := slot_get q61
      have q52 : A.eval (.tmp 52) = .bool true := by rw [← hA]; exact putL_look rfl rfl rfl d16
      have r52 : A.tmps[52]?.getD undef = .bool true := slot_get q52
      clear hA
      refine Does.pure (wanted_of (b := true) rfl rfl q52) (.bool true) ?_ ⟨Below.refl _ _, rfl⟩
      go_simp
    refine StepL.other (k := 27) rfl (fun b f W hb hG hH => ?_) ?_
    · -- 27
      obtain ⟨d16, d26, -⟩ : (f 16 = .bool true) ∧ (f 26 = .bool true) ∧ True := hH
      generalize hA : putL _ _ _ _ = A
      have q52 : A.eval (.tmp 52) = .bool true := by rw [← hA]; exact putL_look rfl rfl rfl d16
      have r52 : A.tmps[52]?.getD undef = .bool true := slot_get q52
      have q62 : A.eval (.tmp 62) = .bool true := by rw [← hA]; exact putL_look rfl rfl rfl d26
      have r62 : A.tmps[62]?.getD undef = .bool true := slot_get q62
      clear hA
      refine Does.pure rfl (.bool true) ?_ ⟨Below.refl _ _, rfl⟩
      go_simp
    refine StepL.other (k := 28) rfl (fun b f W hb hG hH => ?_) ?_
    · -- 28
      obtain ⟨d27, d24, d0, d1, d2, d3, d4, d5, d6, d7, d8, d9, d10, d11, d12, d13, d14, d15, d16, d17, d18, d19, d20, d21, d22, d23, -, d25, d26, -, -⟩ : (f 27 = .bool true) ∧ (f 24 = aggI .u8 d) ∧ (f 0 = .bool true) ∧ (f 1 = .bool true) ∧ (f 2 = .pointer (some ⟨w10.heap.size, 0, none⟩)) ∧ (f 3 = .int .u8 (at0 q 0)) ∧ (f 4 = .int .u8 0) ∧ (f 5 = .bool true) ∧ (f 6 = .bool true) ∧ (f 7 = .bool true) ∧ (f 8 = aggI .u8 q) ∧ (f 9 = aggI .u8 q) ∧ (f 10 = aggI .u8 m) ∧ (f 11 = aggI .u8 xb) ∧ (f 12 = aggI .u8 xb) ∧ (f 13 = aggI .u8 m) ∧ (f 14 = .bool true) ∧ (f 15 = .bool true) ∧ (f 16 = .bool true) ∧ (f 17 = .bool true) ∧ (f 18 = .bool false) ∧ (f 19 = .bool false) ∧ (f 20 = aggI .u8 r) ∧ (f 21 = aggI .u8 r) ∧ (f 22 = aggI .u8 d) ∧ (f 23 = aggI .u8 xb) ∧ (f 24 = aggI .u8 d) ∧ (f 25 = .bool true) ∧ (f 26 = .bool true) ∧ (f 27 = .bool true) ∧ True := hH
      generalize hA : putL _ _ _ _ = A
      have q63 : A.eval (.tmp 63) = .bool true := by rw [← hA]; exact putL_look rfl rfl rfl d27
      have r63 : A.tmps[63]?.getD undef = .bool true := slot_get q63
      clear hA
      refine Does.pure rfl (.bool true) ?_ ⟨Below.refl _ _, rfl⟩
      go_simp
    exact trivial
  ·
    intro f W hG hH
    obtain ⟨d0, d1, d2, d3, d4, d5, d6, d7, d8, d9, d10, d11, d12, d13, d14, d15, d16, d17, d18, d19, d20, d21, d22, d23, d24, d25, d26, d27, d28, -⟩ : (f 0 = .bool true) ∧ (f 1 = .bool true) ∧ (f 2 = .pointer (some ⟨w10.heap.size, 0, none⟩)) ∧ (f 3 = .int .u8 (at0 q 0)) ∧ (f 4 = .int .u8 0) ∧ (f 5 = .bool true) ∧ (f 6 = .bool true) ∧ (f 7 = .bool true) ∧ (f 8 = aggI .u8 q) ∧ (f 9 = aggI .u8 q) ∧ (f 10 = aggI .u8 m) ∧ (f 11 = aggI .u8 xb) ∧ (f 12 = aggI .u8 xb) ∧ (f 13 = aggI .u8 m) ∧ (f 14 = .bool true) ∧ (f 15 = .bool true) ∧ (f 16 = .bool true) ∧ (f 17 = .bool true) ∧ (f 18 = .bool false) ∧ (f 19 = .bool false) ∧ (f 20 = aggI .u8 r) ∧ (f 21 = aggI .u8 r) ∧ (f 22 = aggI .u8 d) ∧ (f 23 = aggI .u8 xb) ∧ (f 24 = aggI .u8 d) ∧ (f 25 = .bool true) ∧ (f 26 = .bool true) ∧ (f 27 = .bool true) ∧ (f 28 = .bool true) ∧ True := hH
    rw [show List.range (List.length [[], [0], [1], [2, 1], [3, 1], [4, 1], [1, 5], [6, 1], [7], [7], [8, 9, 7, 7], [7], [7], [11, 12, 10, 7], [10, 13, 7], [7, 14], [15, 13], [16], [17, 16], [18, 16, 16], [19], [19], [20, 21, 19, 19], [19], [23, 22, 19], [22, 24, 19], [19, 25, 16], [16, 26], [27, 24, 0, 1, 2, 3, 4, 5, 6, 7, 8, 9, 10, 11, 12, 13, 14, 15, 16, 17, 18, 19, 20, 21, 22, 23, 24, 25, 26, 27]]) = [0, 1, 2, 3, 4, 5, 6, 7, 8, 9, 10, 11, 12, 13, 14, 15, 16, 17, 18, 19, 20, 21, 22, 23, 24, 25, 26, 27, 28] from rfl]
    simp only [putL, List.getElem?_cons_zero, List.getElem?_cons_succ, Option.join, Option.bind_some, id_eq, Act.put, List.setIfInBounds_toArray, List.set_cons_zero, List.set_cons_succ, d0, d1, d2, d3, d4, d5, d6, d7, d8, d9, d10, d11, d12, d13, d14, d15, d16, d17, d18, d19, d20, d21, d22, d23, d24, d25, d26, d27, d28]
    clear d0 d1 d2 d3 d4 d5 d6 d7 d8 d9 d10 d11 d12 d13 d14 d15 d16 d17 d18 d19 d20 d21 d22 d23 d24 d25 d26 d27 d28
    go_wp2
    go_ret
    exact ⟨rfl, hG.2.2.2⟩
set_option maxHeartbeats 4000000 in
theorem roots_walk_f (xb r m q d : List Int) (w : World) (hT : Tab w) (lxb : xb.length = 32) (lr : r.length = 32) (lm : m.length = 32) (lq : q.length = 32) (ld : d.length = 32)
    (HR1 : ∀ W, Tab W → Calls Tryd.prog 25 #[aggI .u8 xb] W fun e w' => e = .returned (.tuple #[aggI .u8 r, .bool false]) ∧ Below W.heap.size W w')
    (HR2 : ∀ W, Calls Tryd.prog 26 #[aggI .u8 xb] W fun e w' => e = .returned (.tuple #[aggI .u8 r, .bool false]) ∧ Below W.heap.size W w')
    (HM : ∀ W, Calls Tryd.prog 19 #[aggI .u8 xb, aggI .u8 xb] W fun e w' => e = .returned (aggI .u8 m) ∧ Below W.heap.size W w') (HR3 : ∀ W, Tab W → Calls Tryd.prog 25 #[aggI .u8 m] W fun e w' => e = .returned (.tuple #[aggI .u8 q, .bool true]) ∧ Below W.heap.size W w')
    (HQ : ∀ W, Calls Tryd.prog 19 #[aggI .u8 q, aggI .u8 q] W fun e w' => e = .returned (aggI .u8 m) ∧ Below W.heap.size W w')  (hq0 : 0 ≤ at0 q 0 ∧ at0 q 0 ≤ 255) (hqe : (at0 q 0).tmod 2 = 0) :
    Calls Tryd.prog 6 #[aggI .u8 xb] w fun e w' => e = .returned (.bool true) ∧ Below w.heap.size w w' := by
  go_enter Tryd.func6, Tryd.ntmps6
  go_wp2_with (first
    | (with_reducible refine at_op (o := ⟨some 1, _, _, _, _, _⟩) ?_; refine wpList_boxI rfl 22 _ rfl .u8 xb rfl ?_; intro w1 A1 s1 b1; have BB := b1; have y1 := BB.size)
    | (with_reducible refine at_op (o := ⟨some 12, _, _, _, _, _⟩) ?_; refine wpList_val (fun R hR => Does.loadI rfl 22 _ rfl 32 5 und_a32 info_a32 (w.heap.size) rfl .u8 (xb) (A1) (lxb) hR) ?_)
    | (with_reducible refine at_op (o := ⟨some 3, _, _, _, _, _⟩) ?_; refine wpList_allocI rfl 22 rfl .u8 32 zero_a32 ?_; intro w4 A4 s4 b4; have q4A1 := A1.lt; replace A1 := A1.below b4; replace BB := below_then BB b4; have y4 := BB.size)
    | (with_reducible refine at_op (o := ⟨_, .store 22 (.tmp 3) _, _, _, _, _⟩) ?_; refine wpList_storeI rfl 22 _ _ rfl 32 info_a32 (w3.heap.size) rfl .u8 _ (r) rfl (A4) (rfl) (lr) ?_; intro D5; replace A1 := A1.rowOther (B' := w3.heap.size) (by omega) ((r).map (Value.int .u8)).toArray; replace BB := Below.setRow BB (g := w3.heap.size) (by omega) ((r).map (Value.int .u8)).toArray; clear A4; have A4 := D5)
    | (with_reducible refine at_op (o := ⟨some 17, _, _, _, _, _⟩) ?_; refine wpList_val (fun R hR => Does.loadI rfl 22 _ rfl 32 5 und_a32 info_a32 (w.heap.size) rfl .u8 (xb) (A1) (lxb) hR) ?_)
    | (with_reducible refine at_op (o := ⟨some 5, _, _, _, _, _⟩) ?_; refine wpList_allocI rfl 22 rfl .u8 32 zero_a32 ?_; intro w7 A7 s7 b7; have q7A1 := A1.lt; have q7A4 := A4.lt; replace A1 := A1.below b7; replace A4 := A4.below b7; replace BB := below_then BB b7; have y7 := BB.size)
    | (with_reducible refine at_op (o := ⟨_, .store 22 (.tmp 5) _, _, _, _, _⟩) ?_; refine wpList_storeI rfl 22 _ _ rfl 32 info_a32 (w6.heap.size) rfl .u8 _ (r) rfl (A7) (rfl) (lr) ?_; intro D8; replace A1 := A1.rowOther (B' := w6.heap.size) (by omega) ((r).map (Value.int .u8)).toArray; replace A4 := A4.rowOther (B' := w6.heap.size) (by omega) ((r).map (Value.int .u8)).toArray; replace BB := Below.setRow BB (g := w6.heap.size) (by omega) ((r).map (Value.int .u8)).toArray; clear A7; have A7 := D8)
    | (with_reducible refine at_op (o := ⟨some 21, _, _, _, _, _⟩) ?_; refine wpList_val (fun R hR => Does.loadI rfl 22 _ rfl 32 5 und_a32 info_a32 (w3.heap.size) rfl .u8 (r) (A4) (lr) hR) ?_)
    | (with_reducible refine at_op (o := ⟨some 22, _, _, _, _, _⟩) ?_; refine wpList_val (fun R hR => Does.loadI rfl 22 _ rfl 32 5 und_a32 info_a32 (w6.heap.size) rfl .u8 (r) (A7) (lr) hR) ?_)
    | (with_reducible refine at_op (o := ⟨some 23, _, _, _, _, _⟩) ?_; refine wpList_val (fun R hR => Does.neI rfl 22 _ 5 _ _ rfl 32 und_a32 .u8 .u8 Tryd.underlying5 (by kernel_rfl) (by kernel_rfl) (r) (r) rfl rfl (lr) (lr) false (by simp) hR) ?_)
    | (with_reducible refine at_op (o := ⟨some 30, _, _, _, _, _⟩) ?_; refine wpList_val (fun R hR => Does.loadI rfl 22 _ rfl 32 5 und_a32 info_a32 (w.heap.size) rfl .u8 (xb) (A1) (lxb) hR) ?_)
    | (with_reducible refine at_op (o := ⟨some 31, _, _, _, _, _⟩) ?_; refine wpList_val (fun R hR => Does.loadI rfl 22 _ rfl 32 5 und_a32 info_a32 (w.heap.size) rfl .u8 (xb) (A1) (lxb) hR) ?_)
    | (with_reducible refine at_op (o := ⟨some 7, _, _, _, _, _⟩) ?_; refine wpList_allocI rfl 22 rfl .u8 32 zero_a32 ?_; intro w11 A11 s11 b11; have q11A1 := A1.lt; have q11A4 := A4.lt; have q11A7 := A7.lt; replace A1 := A1.below b11; replace A4 := A4.below b11; replace A7 := A7.below b11; replace BB := below_then BB b11; have y11 := BB.size)
    | (with_reducible refine at_op (o := ⟨_, .store 22 (.tmp 7) _, _, _, _, _⟩) ?_; refine wpList_storeI rfl 22 _ _ rfl 32 info_a32 (w10.heap.size) rfl .u8 _ (q) rfl (A11) (rfl) (lq) ?_; intro D12; replace A1 := A1.rowOther (B' := w10.heap.size) (by omega) ((q).map (Value.int .u8)).toArray; replace A4 := A4.rowOther (B' := w10.heap.size) (by omega) ((q).map (Value.int .u8)).toArray; replace A7 := A7.rowOther (B' := w10.heap.size) (by omega) ((q).map (Value.int .u8)).toArray; replace BB := Below.setRow BB (g := w10.heap.size) (by omega) ((q).map (Value.int .u8)).toArray; clear A11; have A11 := D12)
    | (go_at_call 10; first | ((with_reducible refine (alive_v _ (hT.below BB)).mono ?_); rintro e w2 ⟨rfl, b2⟩; replace A1 := A1.below b2; replace BB := below_then BB b2; have z2 := BB.size))
    | (go_at_call 25; first | ((with_reducible refine (HR1 _ (hT.below BB)).mono ?_); rintro e w3 ⟨rfl, b3⟩; replace A1 := A1.below b3; replace BB := below_then BB b3; have z3 := BB.size) | ((with_reducible refine (HR3 _ (hT.below BB)).mono ?_); rintro e w10 ⟨rfl, b10⟩; replace A1 := A1.below b10; replace A4 := A4.below b10; replace A7 := A7.below b10; replace BB := below_then BB b10; have z10 := BB.size))
    | (go_at_call 26; first | ((with_reducible refine (HR2 _).mono ?_); rintro e w6 ⟨rfl, b6⟩; replace A1 := A1.below b6; replace A4 := A4.below b6; replace BB := below_then BB b6; have z6 := BB.size))
    | (go_at_call 19; first | ((with_reducible refine (HM _).mono ?_); rintro e w9 ⟨rfl, b9⟩; replace A1 := A1.below b9; replace A4 := A4.below b9; replace A7 := A7.below b9; replace BB := below_then BB b9; have z9 := BB.size)))
  refine wp_region_ord [[], [0], [1], [2, 1], [3, 1], [4, 1], [1, 5], [6, 1], [7], [7], [8, 9, 7, 7], [7], [7], [11, 12, 10, 7], [10, 13, 7], [7, 14], [15, 13], [16], [17, 16], [18, 16, 16], [19], [19], [20, 21, 19, 19], [19], [23, 22, 19], [22, 24, 19], [19, 25, 16], [16, 26], [27, 24, 0, 1, 2, 3, 4, 5, 6, 7, 8, 9, 10, 11, 12, 13, 14, 15, 16, 17, 18, 19, 20, 21, 22, 23, 24, 25, 26, 27]] [some 36, some 37, some 38, some 39, some 40, some 41, some 42, some 43, some 44, some 45, some 46, some 47, some 48, some 49, some 50, some 51, some 52, some 53, some 54, some 55, some 56, some 57, some 58, some 59, some 60, some 61, some 62, some 63, some 2] 29 (fun b w' => Arr .u8 w' (w.heap.size) xb ∧ Arr .u8 w' (w3.heap.size) r ∧ Arr .u8 w' (w10.heap.size) q ∧ Below w.heap.size w w') (fun opn f _ => match opn with | 0 => f 0 = .bool true | 1 => f 1 = .bool true | 2 => f 2 = .pointer (some ⟨w10.heap.size, 0, none⟩) | 3 => f 3 = .int .u8 (at0 q 0) | 4 => f 4 = .int .u8 0 | 5 => f 5 = .bool true | 6 => f 6 = .bool true | 7 => f 7 = .bool true | 8 => f 8 = aggI .u8 q | 9 => f 9 = aggI .u8 q | 10 => f 10 = aggI .u8 m | 11 => f 11 = aggI .u8 xb | 12 => f 12 = aggI .u8 xb | 13 => f 13 = aggI .u8 m | 14 => f 14 = .bool true | 15 => f 15 = .bool true | 16 => f 16 = .bool true | 17 => f 17 = .bool false | 18 => f 18 = .bool true | 19 => f 19 = .bool true | 20 => f 20 = undef | 21 => f 21 = undef | 22 => f 22 = undef | 23 => f 23 = undef | 24 => f 24 = undef | 25 => f 25 = undef | 26 => f 26 = .bool true | 27 => f 27 = .bool true | 28 => f 28 = .bool true | _ => True) (fun _ _ _ => True) (by kernel_rfl) (by kernel_rfl) (by kernel_rfl) (by kernel_rfl) (fun b v v' hb h => ⟨h.1.below hb, h.2.1.below hb, h.2.2.1.below hb, below_then h.2.2.2 hb⟩) (fun _ _ _ _ _ h => h) (fun _ _ _ _ _ _ _ h => h) ⟨A1.drew, A4.drew, A11.drew, BB.drew⟩ ?_ ?_
  ·
    refine StepL.other (k := 0) rfl (fun b f W hb hG hH => ?_) ?_
    · -- 0
      clear hH
      generalize hA : putL _ _ _ _ = A
      have q8 : A.eval (.tmp 8) = .bool true := by rw [← hA]; exact putL_none rfl rfl rfl rfl
      have r8 : A.tmps[8]?.getD undef = .bool true := slot_get q8
      clear hA
      refine Does.pure rfl (.bool true) ?_ ⟨Below.refl _ _, rfl⟩
      go_simp
    refine StepL.other (k := 1) rfl (fun b f W hb hG hH => ?_) ?_
    · -- 1
      obtain ⟨d0, -⟩ : (f 0 = .bool true) ∧ True := hH
      generalize hA : putL _ _ _ _ = A
      have q36 : A.eval (.tmp 36) = .bool true := by rw [← hA]; exact putL_look rfl rfl rfl d0
      have r36 : A.tmps[36]?.getD undef = .bool true := slot_get q36
      clear hA
      refine Does.pure rfl (.bool true) ?_ ⟨Below.refl _ _, rfl⟩
      go_simp
    refine StepL.other (k := 2) rfl (fun b f W hb hG hH => ?_) ?_
    · -- 2
      obtain ⟨d1, -⟩ : (f 1 = .bool true) ∧ True := hH
      generalize hA : putL _ _ _ _ = A
      have q7 : A.eval (.tmp 7) = .pointer (some ⟨w10.heap.size, 0, none⟩) := by rw [← hA]; exact putL_none rfl rfl rfl rfl
      have r7 : A.tmps[7]?.getD undef = .pointer (some ⟨w10.heap.size, 0, none⟩) := slot_get q7
      have q37 : A.eval (.tmp 37) = .bool true := by rw [← hA]; exact putL_look rfl rfl rfl d1
      have r37 : A.tmps[37]?.getD undef = .bool true := slot_get q37
      clear hA
      refine Does.pure (wanted_of (b := true) rfl rfl q37) (.pointer (some ⟨w10.heap.size, 0, none⟩)) ?_ ⟨Below.refl _ _, rfl⟩
      go_simp
    refine StepL.other (k := 3) rfl (fun b f W hb hG hH => ?_) ?_
    · -- 3
      obtain ⟨d2, d1, -⟩ : (f 2 = .pointer (some ⟨w10.heap.size, 0, none⟩)) ∧ (f 1 = .bool true) ∧ True := hH
      generalize hA : putL _ _ _ _ = A
      have q38 : A.eval (.tmp 38) = .pointer (some ⟨w10.heap.size, 0, none⟩) := by rw [← hA]; exact putL_look rfl rfl rfl d2
      have r38 : A.tmps[38]?.getD undef = .pointer (some ⟨w10.heap.size, 0, none⟩) := slot_get q38
      have q37 : A.eval (.tmp 37) = .bool true := by rw [← hA]; exact putL_look rfl rfl rfl d1
      have r37 : A.tmps[37]?.getD undef = .bool true := slot_get q37
      clear hA
      have c0 := hG.2.2.1.cell (k := 0) (by rw [lq]; decide)
      refine Does.pure (wanted_of (b := true) rfl rfl q37) (.int .u8 (at0 q 0)) ?_ ⟨Below.refl _ _, rfl⟩
      go_simp
    refine StepL.other (k := 4) rfl (fun b f W hb hG hH => ?_) ?_
    · -- 4
      obtain ⟨d3, d1, -⟩ : (f 3 = .int .u8 (at0 q 0)) ∧ (f 1 = .bool true) ∧ True := hH
      generalize hA : putL _ _ _ _ = A
      have q39 : A.eval (.tmp 39) = .int .u8 (at0 q 0) := by rw [← hA]; exact putL_look rfl rfl rfl d3
      have r39 : A.tmps[39]?.getD undef = .int .u8 (at0 q 0) := slot_get q39
      have q37 : A.eval (.tmp 37) = .bool true := by rw [← hA]; exact putL_look rfl rfl rfl d1
      have r37 : A.tmps[37]?.getD undef = .bool true := slot_get q37
      clear hA
      have hq1 := hq0.1; have hq2 := hq0.2
      refine Does.pure (wanted_of (b := true) rfl rfl q37) (.int .u8 0) ?_ ⟨Below.refl _ _, rfl⟩
      go_simp
    refine StepL.other (k := 5) rfl (fun b f W hb hG hH => ?_) ?_
    · -- 5
      obtain ⟨d4, d1, -⟩ : (f 4 = .int .u8 0) ∧ (f 1 = .bool true) ∧ True := hH
      generalize hA : putL _ _ _ _ = A
      have q40 : A.eval (.tmp 40) = .int .u8 0 := by rw [← hA]; exact putL_look rfl rfl rfl d4
      have r40 : A.tmps[40]?.getD undef = .int .u8 0 := slot_get q40
      have q37 : A.eval (.tmp 37) = .bool true := by rw [← hA]; exact putL_look rfl rfl rfl d1
      have r37 : A.tmps[37]?.getD undef = .bool true := slot_get q37
      clear hA
      refine Does.pure (wanted_of (b := true) rfl rfl q37) (.bool true) ?_ ⟨Below.refl _ _, rfl⟩
      go_simp
    refine StepL.other (k := 6) rfl (fun b f W hb hG hH => ?_) ?_
    · -- 6
      obtain ⟨d1, d5, -⟩ : (f 1 = .bool true) ∧ (f 5 = .bool true) ∧ True := hH
      generalize hA : putL _ _ _ _ = A
      have q37 : A.eval (.tmp 37) = .bool true := by rw [← hA]; exact putL_look rfl rfl rfl d1
      have r37 : A.tmps[37]?.getD undef = .bool true := slot_get q37
      have q41 : A.eval (.tmp 41) = .bool true := by rw [← hA]; exact putL_look rfl rfl rfl d5
      have r41 : A.tmps[41]?.getD undef = .bool true := slot_get q41
      clear hA
      refine Does.pure rfl (.bool true) ?_ ⟨Below.refl _ _, rfl⟩
      go_simp
    refine StepL.other (k := 7) rfl (fun b f W hb hG hH => ?_) ?_
    · -- 7
      obtain ⟨d6, d1, -⟩ : (f 6 = .bool true) ∧ (f 1 = .bool true) ∧ True := hH
      generalize hA : putL _ _ _ _ = A
      have q42 : A.eval (.tmp 42) = .bool true := by rw [← hA]; exact putL_look rfl rfl rfl d6
      have r42 : A.tmps[42]?.getD undef = .bool true := slot_get q42
      clear hA
      refine Does.pure rfl (.bool true) ?_ ⟨Below.refl _ _, rfl⟩
      go_simp
    refine StepL.other (k := 8) rfl (fun b f W hb hG hH => ?_) ?_
    · -- 8
      obtain ⟨d7, -⟩ : (f 7 = .bool true) ∧ True := hH
      generalize hA : putL _ _ _ _ = A
      have q7 : A.eval (.tmp 7) = .pointer (some ⟨w10.heap.size, 0, none⟩) := by rw [← hA]; exact putL_none rfl rfl rfl rfl
      have r7 : A.tmps[7]?.getD undef = .pointer (some ⟨w10.heap.size, 0, none⟩) := slot_get q7
      have q43 : A.eval (.tmp 43) = .bool true := by rw [← hA]; exact putL_look rfl rfl rfl d7
      have r43 : A.tmps[43]?.getD undef = .bool true := slot_get q43
      clear hA
      exact Does.loadI (wanted_of (b := true) rfl rfl q43) 22 _ rfl 32 5 und_a32 info_a32 (w10.heap.size) q7 .u8 (q) (hG.2.2.1) (lq) ⟨Below.refl _ _, rfl⟩
    refine StepL.other (k := 9) rfl (fun b f W hb hG hH => ?_) ?_
    · -- 9
      obtain ⟨d7, -⟩ : (f 7 = .bool true) ∧ True := hH
      generalize hA : putL _ _ _ _ = A
      have q7 : A.eval (.tmp 7) = .pointer (some ⟨w10.heap.size, 0, none⟩) := by rw [← hA]; exact putL_none rfl rfl rfl rfl
      have r7 : A.tmps[7]?.getD undef = .pointer (some ⟨w10.heap.size, 0, none⟩) := slot_get q7
      have q43 : A.eval (.tmp 43) = .bool true := by rw [← hA]; exact putL_look rfl rfl rfl d7
      have r43 : A.tmps[43]?.getD undef = .bool true := slot_get q43
      clear hA
      exact Does.loadI (wanted_of (b := true) rfl rfl q43) 22 _ rfl 32 5 und_a32 info_a32 (w10.heap.size) q7 .u8 (q) (hG.2.2.1) (lq) ⟨Below.refl _ _, rfl⟩
    refine StepL.other (k := 10) rfl (fun b f W hb hG hH => ?_) ?_
    · -- 10
      obtain ⟨d8, d9, d7, -, -⟩ : (f 8 = aggI .u8 q) ∧ (f 9 = aggI .u8 q) ∧ (f 7 = .bool true) ∧ (f 7 = .bool true) ∧ True := hH
      generalize hA : putL _ _ _ _ = A
      have q44 : A.eval (.tmp 44) = aggI .u8 q := by rw [← hA]; exact putL_look rfl rfl rfl d8
      have r44 : A.tmps[44]?.getD undef = aggI .u8 q := slot_get q44
      have q45 : A.eval (.tmp 45) = aggI .u8 q := by rw [← hA]; exact putL_look rfl rfl rfl d9
      have r45 : A.tmps[45]?.getD undef = aggI .u8 q := slot_get q45
      have q43 : A.eval (.tmp 43) = .bool true := by rw [← hA]; exact putL_look rfl rfl rfl d7
      have r43 : A.tmps[43]?.getD undef = .bool true := slot_get q43
      clear hA
      refine Does.call (wanted_of (b := true) rfl rfl q43) _ _ (by go_simp) ((HQ W).mono ?_)
      rintro e w' ⟨rfl, hb'⟩
      exact ⟨_, rfl, hb', rfl⟩
    refine StepL.other (k := 11) rfl (fun b f W hb hG hH => ?_) ?_
    · -- 11
      obtain ⟨d7, -⟩ : (f 7 = .bool true) ∧ True := hH
      generalize hA : putL _ _ _ _ = A
      have q1 : A.eval (.tmp 1) = .pointer (some ⟨w.heap.size, 0, none⟩) := by rw [← hA]; exact putL_none rfl rfl rfl rfl
      have r1 : A.tmps[1]?.getD undef = .pointer (some ⟨w.heap.size, 0, none⟩) := slot_get q1
      have q43 : A.eval (.tmp 43) = .bool true := by rw [← hA]; exact putL_look rfl rfl rfl d7
      have r43 : A.tmps[43]?.getD undef = .bool true := slot_get q43
      clear hA
      exact Does.loadI (wanted_of (b := true) rfl rfl q43) 22 _ rfl 32 5 und_a32 info_a32 (w.heap.size) q1 .u8 (xb) (hG.1) (lxb) ⟨Below.refl _ _, rfl⟩
    refine StepL.other (k := 12) rfl (fun b f W hb hG hH => ?_) ?_
    · -- 12
      obtain ⟨d7, -⟩ : (f 7 = .bool true) ∧ True := hH
      generalize hA : putL _ _ _ _ = A
      have q1 : A.eval (.tmp 1) = .pointer (some ⟨w.heap.size, 0, none⟩) := by rw [← hA]; exact putL_none rfl rfl rfl rfl
      have r1 : A.tmps[1]?.getD undef = .pointer (some ⟨w.heap.size, 0, none⟩) := slot_get q1
      have q43 : A.eval (.tmp 43) = .bool true := by rw [← hA]; exact putL_look rfl rfl rfl d7
      have r43 : A.tmps[43]?.getD undef = .bool true := slot_get q43
      clear hA
      exact Does.loadI (wanted_of (b := true) rfl rfl q43) 22 _ rfl 32 5 und_a32 info_a32 (w.heap.size) q1 .u8 (xb) (hG.1) (lxb) ⟨Below.refl _ _, rfl⟩
    refine StepL.other (k := 13) rfl (fun b f W hb hG hH => ?_) ?_
    · -- 13
      obtain ⟨d11, d12, d10, d7, -⟩ : (f 11 = aggI .u8 xb) ∧ (f 12 = aggI .u8 xb) ∧ (f 10 = aggI .u8 m) ∧ (f 7 = .bool true) ∧ True := hH
      generalize hA : putL _ _ _ _ = A
      have q47 : A.eval (.tmp 47) = aggI .u8 xb := by rw [← hA]; exact putL_look rfl rfl rfl d11
      have r47 : A.tmps[47]?.getD undef = aggI .u8 xb := slot_get q47
      have q48 : A.eval (.tmp 48) = aggI .u8 xb := by rw [← hA]; exact putL_look rfl rfl rfl d12
      have r48 : A.tmps[48]?.getD undef = aggI .u8 xb := slot_get q48
      have q43 : A.eval (.tmp 43) = .bool true := by rw [← hA]; exact putL_look rfl rfl rfl d7
      have r43 : A.tmps[43]?.getD undef = .bool true := slot_get q43
      clear hA
      refine Does.call (wanted_of (b := true) rfl rfl q43) _ _ (by go_simp) ((HM W).mono ?_)
      rintro e w' ⟨rfl, hb'⟩
      exact ⟨_, rfl, hb', rfl⟩
    refine StepL.other (k := 14) rfl (fun b f W hb hG hH => ?_) ?_
    · -- 14
      obtain ⟨d10, d13, d7, -⟩ : (f 10 = aggI .u8 m) ∧ (f 13 = aggI .u8 m) ∧ (f 7 = .bool true) ∧ True := hH
      generalize hA : putL _ _ _ _ = A
      have q46 : A.eval (.tmp 46) = aggI .u8 m := by rw [← hA]; exact putL_look rfl rfl rfl d10
      have r46 : A.tmps[46]?.getD undef = aggI .u8 m := slot_get q46
      have q49 : A.eval (.tmp 49) = aggI .u8 m := by rw [← hA]; exact putL_look rfl rfl rfl d13
      have r49 : A.tmps[49]?.getD undef = aggI .u8 m := slot_get q49
      have q43 : A.eval (.tmp 43) = .bool true := by rw [← hA]; exact putL_look rfl rfl rfl d7
      have r43 : A.tmps[43]?.getD undef = .bool true := slot_get q43
      clear hA
      exact Does.eqlI (wanted_of (b := true) rfl rfl q43) 22 _ 5 _ _ rfl 32 und_a32 .u8 .u8 Tryd.underlying5 (by kernel_rfl) (by kernel_rfl) (m) (m) q46 q49 (lm) (lm) true (by simp) ⟨Below.refl _ _, rfl⟩
    refine StepL.other (k := 15) rfl (fun b f W hb hG hH => ?_) ?_
    · -- 15
      obtain ⟨d7, d14, -⟩ : (f 7 = .bool true) ∧ (f 14 = .bool true) ∧ True := hH
      generalize hA : putL _ _ _ _ = A
      have q43 : A.eval (.tmp 43) = .bool true := by rw [← hA]; exact putL_look rfl rfl rfl d7
      have r43 : A.tmps[43]?.getD undef = .bool true := slot_get q43
      have q50 : A.eval (.tmp 50) = .bool true := by rw [← hA]; exact putL_look rfl rfl rfl d14
      have r50 : A.tmps[50]?.getD undef = .bool true := slot_get q50
      clear hA
      refine Does.pure rfl (.bool true) ?_ ⟨Below.refl _ _, rfl⟩
      go_simp
    refine StepL.other (k := 16) rfl (fun b f W hb hG hH => ?_) ?_
    · -- 16
      obtain ⟨d15, d13, -⟩ : (f 15 = .bool true) ∧ (f 13 = aggI .u8 m) ∧ True := hH
      generalize hA : putL _ _ _ _ = A
      have q51 : A.eval (.tmp 51) = .bool true := by rw [← hA]; exact putL_look rfl rfl rfl d15
      have r51 : A.tmps[51]?.getD undef = .bool true := slot_get q51
      clear hA
      refine Does.pure rfl (.bool true) ?_ ⟨Below.refl _ _, rfl⟩
      go_simp
    refine StepL.other (k := 17) rfl (fun b f W hb hG hH => ?_) ?_
    · -- 17
      obtain ⟨d16, -⟩ : (f 16 = .bool true) ∧ True := hH
      generalize hA : putL _ _ _ _ = A
      have q4 : A.eval (.tmp 4) = .bool false := by rw [← hA]; exact putL_none rfl rfl rfl rfl
      have r4 : A.tmps[4]?.getD undef = .bool false := slot_get q4
      have q52 : A.eval (.tmp 52) = .bool true := by rw [← hA]; exact putL_look rfl rfl rfl d16
      have r52 : A.tmps[52]?.getD undef = .bool true := slot_get q52
      clear hA
      refine Does.pure (wanted_of (b := true) rfl rfl q52) (.bool false) ?_ ⟨Below.refl _ _, rfl⟩
      go_simp
    refine StepL.other (k := 18) rfl (fun b f W hb hG hH => ?_) ?_
    · -- 18
      obtain ⟨d17, d16, -⟩ : (f 17 = .bool false) ∧ (f 16 = .bool true) ∧ True := hH
      generalize hA : putL _ _ _ _ = A
      have q53 : A.eval (.tmp 53) = .bool false := by rw [← hA]; exact putL_look rfl rfl rfl d17
      have r53 : A.tmps[53]?.getD undef = .bool false := slot_get q53
      have q52 : A.eval (.tmp 52) = .bool true := by rw [← hA]; exact putL_look rfl rfl rfl d16
      have r52 : A.tmps[52]?.getD undef = .bool true := slot_get q52
      clear hA
      refine Does.pure (wanted_of (b := true) rfl rfl q52) (.bool true) ?_ ⟨Below.refl _ _, rfl⟩
      go_simp
    refine StepL.other (k := 19) rfl (fun b f W hb hG hH => ?_) ?_
    · -- 19
      obtain ⟨d18, d16, -, -⟩ : (f 18 = .bool true) ∧ (f 16 = .bool true) ∧ (f 16 = .bool true) ∧ True := hH
      generalize hA : putL _ _ _ _ = A
      have q54 : A.eval (.tmp 54) = .bool true := by rw [← hA]; exact putL_look rfl rfl rfl d18
      have r54 : A.tmps[54]?.getD undef = .bool true := slot_get q54
      have q52 : A.eval (.tmp 52) = .bool true := by rw [← hA]; exact putL_look rfl rfl rfl d16
      have r52 : A.tmps[52]?.getD undef = .bool true := slot_get q52
      clear hA
      refine Does.pure (wanted_of (b := true) rfl rfl q52) (.bool true) ?_ ⟨Below.refl _ _, rfl⟩
      go_simp
    refine StepL.other (k := 20) rfl (fun b f W hb hG hH => ?_) ?_
    · -- 20
      obtain ⟨d19, -⟩ : (f 19 = .bool true) ∧ True := hH
      generalize hA : putL _ _ _ _ = A
      have q3 : A.eval (.tmp 3) = .pointer (some ⟨w3.heap.size, 0, none⟩) := by rw [← hA]; exact putL_none rfl rfl rfl rfl
      have r3 : A.tmps[3]?.getD undef = .pointer (some ⟨w3.heap.size, 0, none⟩) := slot_get q3
      have q55 : A.eval (.tmp 55) = .bool true := by rw [← hA]; exact putL_look rfl rfl rfl d19
      have r55 : A.tmps[55]?.getD undef = .bool true := slot_get q55
      clear hA
      exact Does.off (off_of (b := false) rfl rfl q55 (by decide)) ⟨Below.refl _ _, rfl⟩
    refine StepL.other (k := 21) rfl (fun b f W hb hG hH => ?_) ?_
    · -- 21
      obtain ⟨d19, -⟩ : (f 19 = .bool true) ∧ True := hH
      generalize hA : putL _ _ _ _ = A
      have q3 : A.eval (.tmp 3) = .pointer (some ⟨w3.heap.size, 0, none⟩) := by rw [← hA]; exact putL_none rfl rfl rfl rfl
      have r3 : A.tmps[3]?.getD undef = .pointer (some ⟨w3.heap.size, 0, none⟩) := slot_get q3
      have q55 : A.eval (.tmp 55) = .bool true := by rw [← hA]; exact putL_look rfl rfl rfl d19
      have r55 : A.tmps[55]?.getD undef = .bool true := slot_get q55
      clear hA
      exact Does.off (off_of (b := false) rfl rfl q55 (by decide)) ⟨Below.refl _ _, rfl⟩
    refine StepL.other (k := 22) rfl (fun b f W hb hG hH => ?_) ?_
    · -- 22
      obtain ⟨d20, d21, d19, -, -⟩ : (f 20 = undef) ∧ (f 21 = undef) ∧ (f 19 = .bool true) ∧ (f 19 = .bool true) ∧ True := hH
      generalize hA : putL _ _ _ _ = A
      have q56 : A.eval (.tmp 56) = undef := by rw [← hA]; exact putL_look rfl rfl rfl d20
      have r56 : A.tmps[56]?.getD undef = undef := slot_get q56
      have q57 : A.eval (.tmp 57) = undef := by rw [← hA]; exact putL_look rfl rfl rfl d21
      have r57 : A.tmps[57]?.getD undef = undef := slot_get q57
      have q55 : A.eval (.tmp 55) = .bool true := by rw [← hA]; exact putL_look rfl rfl rfl d19
      have r55 : A.tmps[55]?.getD undef = .bool true := slot_get q55
      clear hA
      exact Does.off (off_of (b := false) rfl rfl q55 (by decide)) ⟨Below.refl _ _, rfl⟩
    refine StepL.other (k := 23) rfl (fun b f W hb hG hH => ?_) ?_
    · -- 23
      obtain ⟨d19, -⟩ : (f 19 = .bool true) ∧ True := hH
      generalize hA : putL _ _ _ _ = A
      have q1 : A.eval (.tmp 1) = .pointer (some ⟨w.heap.size, 0, none⟩) := by rw [← hA]; exact putL_none rfl rfl rfl rfl
      have r1 : A.tmps[1]?.getD undef = .pointer (some ⟨w.heap.size, 0, none⟩) := slot_get q1
      have q55 : A.eval (.tmp 55) = .bool true := by rw [← hA]; exact putL_look rfl rfl rfl d19
      have r55 : A.tmps[55]?.getD undef = .bool true := slot_get q55
      clear hA
      exact Does.off (off_of (b := false) rfl rfl q55 (by decide)) ⟨Below.refl _ _, rfl⟩
    refine StepL.other (k := 24) rfl (fun b f W hb hG hH => ?_) ?_
    · -- 24
      obtain ⟨d23, d22, d19, -⟩ : (f 23 = undef) ∧ (f 22 = undef) ∧ (f 19 = .bool true) ∧ True := hH
      generalize hA : putL _ _ _ _ = A
      have q59 : A.eval (.tmp 59) = undef := by rw [← hA]; exact putL_look rfl rfl rfl d23
      have r59 : A.tmps[59]?.getD undef = undef := slot_get q59
      have q55 : A.eval (.tmp 55) = .bool true := by rw [← hA]; exact putL_look rfl rfl rfl d19
      have r55 : A.tmps[55]?.getD undef = .bool true := slot_get q55
      clear hA
      exact Does.off (off_of (b := false) rfl rfl q55 (by decide)) ⟨Below.refl _ _, rfl⟩
    refine StepL.other (k := 25) rfl (fun b f W hb hG hH => ?_) ?_
    · -- 25
      obtain ⟨d22, d24, d19, -⟩ : (f 22 = undef) ∧ (f 24 = undef) ∧ (f 19 = .bool true) ∧ True := hH
      generalize hA : putL _ _ _ _ = A
      have q58 : A.eval (.tmp 58) = undef := by rw [← hA]; exact putL_look rfl rfl rfl d22
      have r58 : A.tmps[58]?.getD undef = undef := slot_get q58
      have q60 : A.eval (.tmp 60) = undef := by rw [← hA]; exact putL_look rfl rfl rfl d24
      have r60 : A.tmps[60]?.getD undef = undef := slot_get q60
      have q55 : A.eval (.tmp 55) = .bool true := by rw [← hA]; exact putL_look rfl rfl rfl d19
      have r55 : A.tmps[55]?.getD undef = .bool true := slot_get q55
      clear hA
      exact Does.off (off_of (b := false) rfl rfl q55 (by decide)) ⟨Below.refl _ _, rfl⟩
    refine StepL.other (k := 26) rfl (fun b f W hb hG hH => ?_) ?_
    · -- 26
      obtain ⟨d19, d25, d16, -⟩ : (f 19 = .bool true) ∧ (f 25 = undef) ∧ (f 16 = .bool true) ∧ True := hH
      generalize hA : putL _ _ _ _ = A
      have q55 : A.eval (.tmp 55) = .bool true := by rw [← hA]; exact putL_look rfl rfl rfl d19
      have r55 : A.tmps[55]?.getD undef = .bool true := slot_get q55
      have q61 : A.eval (.tmp 61) = undef := by rw [← hA]; exact putL_look rfl rfl rfl d25
      have r61 : A.tmps[61]?.getD undef = undef := slot_get q61
      have q52 : A.eval (.tmp 52) = .bool true := by rw [← hA]; exact putL_look rfl rfl rfl d16
      have r52 : A.tmps[52]?.getD undef = .bool true := slot_get q52
      clear hA
      refine Does.pure (wanted_of (b := true) rfl rfl q52) (.bool true) ?_ ⟨Below.refl _ _, rfl⟩
      go_simp
    refine StepL.other (k := 27) rfl (fun b f W hb hG hH => ?_) ?_
    · -- 27
      obtain ⟨d16, d26, -⟩ : (f 16 = .bool true) ∧ (f 26 = .bool true) ∧ True := hH
      generalize hA : putL _ _ _ _ = A
      have q52 : A.eval (.tmp 52) = .bool true := by rw [← hA]; exact putL_look rfl rfl rfl d16
      have r52 : A.tmps[52]?.getD undef = .bool true := slot_get q52
      have q62 : A.eval (.tmp 62) = .bool true := by rw [← hA]; exact putL_look rfl rfl rfl d26
      have r62 : A.tmps[62]?.getD undef = .bool true := slot_get q62
      clear hA
      refine Does.pure rfl (.bool true) ?_ ⟨Below.refl _ _, rfl⟩
      go_simp
    refine StepL.other (k := 28) rfl (fun b f W hb hG hH => ?_) ?_
    · -- 28
      obtain ⟨d27, d24, d0, d1, d2, d3, d4, d5, d6, d7, d8, d9, d10, d11, d12, d13, d14, d15, d16, d17, d18, d19, d20, d21, d22, d23, -, d25, d26, -, -⟩ : (f 27 = .bool true) ∧ (f 24 = undef) ∧ (f 0 = .bool true) ∧ (f 1 = .bool true) ∧ (f 2 = .pointer (some ⟨w10.heap.size, 0, none⟩)) ∧ (f 3 = .int .u8 (at0 q 0)) ∧ (f 4 = .int .u8 0) ∧ (f 5 = .bool true) ∧ (f 6 = .bool true) ∧ (f 7 = .bool true) ∧ (f 8 = aggI .u8 q) ∧ (f 9 = aggI .u8 q) ∧ (f 10 = aggI .u8 m) ∧ (f 11 = aggI .u8 xb) ∧ (f 12 = aggI .u8 xb) ∧ (f 13 = aggI .u8 m) ∧ (f 14 = .bool true) ∧ (f 15 = .bool true) ∧ (f 16 = .bool true) ∧ (f 17 = .bool false) ∧ (f 18 = .bool true) ∧ (f 19 = .bool true) ∧ (f 20 = undef) ∧ (f 21 = undef) ∧ (f 22 = undef) ∧ (f 23 = undef) ∧ (f 24 = undef) ∧ (f 25 = undef) ∧ (f 26 = .bool true) ∧ (f 27 = .bool true) ∧ True := hH
      generalize hA : putL _ _ _ _ = A
      have q63 : A.eval (.tmp 63) = .bool true := by rw [← hA]; exact putL_look rfl rfl rfl d27
      have r63 : A.tmps[63]?.getD undef = .bool true := slot_get q63
      clear hA
      refine Does.pure rfl (.bool true) ?_ ⟨Below.refl _ _, rfl⟩
      go_simp
    exact trivial
  ·
    intro f W hG hH
    obtain ⟨d0, d1, d2, d3, d4, d5, d6, d7, d8, d9, d10, d11, d12, d13, d14, d15, d16, d17, d18, d19, d20, d21, d22, d23, d24, d25, d26, d27, d28, -⟩ : (f 0 = .bool true) ∧ (f 1 = .bool true) ∧ (f 2 = .pointer (some ⟨w10.heap.size, 0, none⟩)) ∧ (f 3 = .int .u8 (at0 q 0)) ∧ (f 4 = .int .u8 0) ∧ (f 5 = .bool true) ∧ (f 6 = .bool true) ∧ (f 7 = .bool true) ∧ (f 8 = aggI .u8 q) ∧ (f 9 = aggI .u8 q) ∧ (f 10 = aggI .u8 m) ∧ (f 11 = aggI .u8 xb) ∧ (f 12 = aggI .u8 xb) ∧ (f 13 = aggI .u8 m) ∧ (f 14 = .bool true) ∧ (f 15 = .bool true) ∧ (f 16 = .bool true) ∧ (f 17 = .bool false) ∧ (f 18 = .bool true) ∧ (f 19 = .bool true) ∧ (f 20 = undef) ∧ (f 21 = undef) ∧ (f 22 = undef) ∧ (f 23 = undef) ∧ (f 24 = undef) ∧ (f 25 = undef) ∧ (f 26 = .bool true) ∧ (f 27 = .bool true) ∧ (f 28 = .bool true) ∧ True := hH
    rw [show List.range (List.length [[], [0], [1], [2, 1], [3, 1], [4, 1], [1, 5], [6, 1], [7], [7], [8, 9, 7, 7], [7], [7], [11, 12, 10, 7], [10, 13, 7], [7, 14], [15, 13], [16], [17, 16], [18, 16, 16], [19], [19], [20, 21, 19, 19], [19], [23, 22, 19], [22, 24, 19], [19, 25, 16], [16, 26], [27, 24, 0, 1, 2, 3, 4, 5, 6, 7, 8, 9, 10, 11, 12, 13, 14, 15, 16, 17, 18, 19, 20, 21, 22, 23, 24, 25, 26, 27]]) = [0, 1, 2, 3, 4, 5, 6, 7, 8, 9, 10, 11, 12, 13, 14, 15, 16, 17, 18, 19, 20, 21, 22, 23, 24, 25, 26, 27, 28] from rfl]
    simp only [putL, List.getElem?_cons_zero, List.getElem?_cons_succ, Option.join, Option.bind_some, id_eq, Act.put, List.setIfInBounds_toArray, List.set_cons_zero, List.set_cons_succ, d0, d1, d2, d3, d4, d5, d6, d7, d8, d9, d10, d11, d12, d13, d14, d15, d16, d17, d18, d19, d20, d21, d22, d23, d24, d25, d26, d27, d28]
    clear d0 d1 d2 d3 d4 d5 d6 d7 d8 d9 d10 d11 d12 d13 d14 d15 d16 d17 d18 d19 d20 d21 d22 d23 d24 d25 d26 d27 d28
    go_wp2
    go_ret
    exact ⟨rfl, hG.2.2.2⟩
theorem law_roots (xb : List Int) (w : World) (hT : Tab w) (hxb : Bytes xb) (hxl : xb.length = 32) :
    Calls Tryd.prog 6 #[aggI .u8 xb] w fun e w' => e = .returned (.bool true) ∧ Below w.heap.size w w' := by
  have nl := numB_length
  have nb := numB_bytes
  have hp := pV_lt
  have HR1 := fun W hW => root_v xb W hxb hxl hW
  have HR2 := fun W => ref_root_v xb W hxb hxl
  have HM := fun W => mul_v xb xb W hxb hxb hxl hxl
  have HR3 := fun W hW => root_v (numB (valB xb 32 * valB xb 32 % pV)) W (nb _) (nl _) hW
  rw [vnB, Int.emod_emod_of_dvd _ (Int.dvd_refl _), ok_square] at HR3
  have hrl := rV_lt (valB xb 32 * valB xb 32 % pV)
  have HQ := fun W => mul_v (numB (rV (valB xb 32 * valB xb 32 % pV))) (numB (rV (valB xb 32 * valB xb 32 % pV))) W (nb _) (nb _) (nl _) (nl _)
  rw [valB_numB _ hrl.1 (by omega), rV_sq (ok_square _)] at HQ
  have hq0 := (nb (rV (valB xb 32 * valB xb 32 % pV))).at 0
  have hqe : (at0 (numB (rV (valB xb 32 * valB xb 32 % pV))) 0).tmod 2 = 0 := by
    have h := rV_even (valB xb 32 * valB xb 32 % pV)
    rw [Int.tmod_eq_emod_of_nonneg hq0.1, at0_numB _ 0 (by omega), Nat.mul_zero, Int.pow_zero, Int.ediv_one]
    omega
  cases ho : okV (valB xb 32 % pV)
  · rw [ho] at HR1 HR2
    exact roots_walk_f xb _ _ _ xb w hT hxl (nl _) (nl _) (nl _) hxl HR1 HR2 HM HR3 HQ hq0 hqe
  · rw [ho] at HR1 HR2
    have hrl2 := rV_lt (valB xb 32 % pV)
    have HD := fun W => mul_v (numB (rV (valB xb 32 % pV))) (numB (rV (valB xb 32 % pV))) W (nb _) (nb _) (nl _) (nl _)
    rw [valB_numB _ hrl2.1 (by omega), rV_sq ho] at HD
    exact roots_walk_t xb _ _ _ _ w hT hxl (nl _) (nl _) (nl _) (nl _) HR1 HR2 HM HR3 HQ HD (fun W => reduce_v xb W hxb hxl) hq0 hqe
end Go.Proofs.YtlhloldjlfcchaaDoor
