/- CurveTimes, CurveMixes, CurveNegs, CurveGroup of layer 10. -/
import Derived.Test.YtelppapkffjmpaaDoorMS
namespace Go.Proofs.YtelppapkffjmpaaDoor
open Go.RowKit Go.Shelf
set_option linter.unusedVariables false
set_option maxRecDepth 8000

set_option maxHeartbeats 4000000 in
theorem times_l (xk xa ra rb : List Int) (ec : Int) (w : World) (hT : TabD w)
  (l_xk : xk.length = 32) (l_xa : xa.length = 32) (l_ra : ra.length = 32) (l_rb : rb.length = 32)
  (H0 : ∀ W, TabD W → Ret 10 #[] (.bool true) W)
  (H1 : ∀ W, TabD W → Ret 17 #[aggI .u8 xk, aggI .u8 xa] (.tuple #[aggI .u8 ra, .int .i64 ec]) W)
  (H2 : ∀ W, Ret 18 #[aggI .u8 xk, aggI .u8 xa] (.tuple #[aggI .u8 ra, .int .i64 ec]) W)
  (H3 : ∀ W, TabD W → Ret 19 #[aggI .u8 xk] (aggI .u8 rb) W)
  (H4 : ∀ W, Ret 20 #[aggI .u8 xk] (aggI .u8 rb) W) :
  Calls Tryd.prog 4 #[aggI .u8 xk, aggI .u8 xa] w fun e w' => e = .returned (.bool true) ∧ Below w.heap.size w w' := by
 go_enter Tryd.func4, Tryd.ntmps4
 go_wp2_with (first
   | (with_reducible refine at_n 2 ?_; refine wpList_boxI rfl 22 _ rfl .u8 xk rfl ?_; intro w1 A2 s1 b1; have BB := b1; have y1 := BB.size)
   | (with_reducible refine at_n 3 ?_; refine wpList_boxI rfl 22 _ rfl .u8 xa rfl ?_; intro w2 A3 s2 b2; have q2_2 := A2.lt; replace A2 := A2.below b2; replace BB := below_then BB b2; have y2 := BB.size)
   | (with_reducible refine at_n 12 ?_; refine wpList_val' (fun R hR => Does.loadM rfl 22 _ rfl 32 _ und_a32 rfl info_a32 (w.heap.size) 0 rfl .u8 (xk) (A2) (by omega) (sl_all l_xk) hR) ?_)
   | (with_reducible refine at_n 13 ?_; refine wpList_val' (fun R hR => Does.loadM rfl 22 _ rfl 32 _ und_a32 rfl info_a32 (w1.heap.size) 0 rfl .u8 (xa) (A3) (by omega) (sl_all l_xa) hR) ?_)
   | (with_reducible refine at_n 5 ?_; refine wpList_allocI rfl 22 rfl .u8 32 zero_a32 ?_; intro w5 A5 s5 b5; have q5_2 := A2.lt; have q5_3 := A3.lt; replace A2 := A2.below b5; replace A3 := A3.below b5; replace BB := below_then BB b5; have y5 := BB.size)
   | (with_reducible refine at_op (o := ⟨_, .store 22 (.tmp 5) _, _, _, _, _⟩) ?_; refine wpList_storeI rfl 22 _ _ rfl 32 info_a32 (w4.heap.size) rfl .u8 _ (ra) rfl (A5) (rfl) (l_ra) ?_; intro D6; replace A2 := A2.rowOther (B' := w4.heap.size) (by omega) ((ra).map (Value.int .u8)).toArray; replace A3 := A3.rowOther (B' := w4.heap.size) (by omega) ((ra).map (Value.int .u8)).toArray; replace BB := Below.setRow BB (g := w4.heap.size) (by omega) ((ra).map (Value.int .u8)).toArray; clear A5; have A5 := D6)
   | (with_reducible refine at_n 18 ?_; refine wpList_val' (fun R hR => Does.loadM rfl 22 _ rfl 32 _ und_a32 rfl info_a32 (w.heap.size) 0 rfl .u8 (xk) (A2) (by omega) (sl_all l_xk) hR) ?_)
   | (with_reducible refine at_n 19 ?_; refine wpList_val' (fun R hR => Does.loadM rfl 22 _ rfl 32 _ und_a32 rfl info_a32 (w1.heap.size) 0 rfl .u8 (xa) (A3) (by omega) (sl_all l_xa) hR) ?_)
   | (with_reducible refine at_n 7 ?_; refine wpList_allocI rfl 22 rfl .u8 32 zero_a32 ?_; intro w8 A7 s8 b8; have q8_2 := A2.lt; have q8_3 := A3.lt; have q8_5 := A5.lt; replace A2 := A2.below b8; replace A3 := A3.below b8; replace A5 := A5.below b8; replace BB := below_then BB b8; have y8 := BB.size)
   | (with_reducible refine at_op (o := ⟨_, .store 22 (.tmp 7) _, _, _, _, _⟩) ?_; refine wpList_storeI rfl 22 _ _ rfl 32 info_a32 (w7.heap.size) rfl .u8 _ (ra) rfl (A7) (rfl) (l_ra) ?_; intro D9; replace A2 := A2.rowOther (B' := w7.heap.size) (by omega) ((ra).map (Value.int .u8)).toArray; replace A3 := A3.rowOther (B' := w7.heap.size) (by omega) ((ra).map (Value.int .u8)).toArray; replace A5 := A5.rowOther (B' := w7.heap.size) (by omega) ((ra).map (Value.int .u8)).toArray; replace BB := Below.setRow BB (g := w7.heap.size) (by omega) ((ra).map (Value.int .u8)).toArray; clear A7; have A7 := D9)
   | (go_at_call 10; first | ((with_reducible refine (H0 _ (hT.below BB)).mono ?_); rintro e w3 ⟨rfl, b3⟩; replace A2 := A2.below b3; replace A3 := A3.below b3; replace BB := below_then BB b3; have z3 := BB.size))
   | (go_at_call 17; first | ((with_reducible refine (H1 _ (hT.below BB)).mono ?_); rintro e w4 ⟨rfl, b4⟩; replace A2 := A2.below b4; replace A3 := A3.below b4; replace BB := below_then BB b4; have z4 := BB.size))
   | (go_at_call 18; first | ((with_reducible refine (H2 _).mono ?_); rintro e w7 ⟨rfl, b7⟩; replace A2 := A2.below b7; replace A3 := A3.below b7; replace A5 := A5.below b7; replace BB := below_then BB b7; have z7 := BB.size)))
 refine wp_world fun Wc10 hWc => ?_
 rw [← hWc] at BB A2 A3 A5 A7
 clear hWc
 have k10_0 := A2.lt
 have k10_1 := A3.lt
 have k10_2 := A5.lt
 have k10_3 := A7.lt
 refine wp_region_ord [[], [], [0, 1], [2], [3], [3], [4, 5, 3], [3, 6], [7, 3], [8], [9, 8, 8], [8], [11, 10, 8], [10, 12, 8], [8, 13], [14, 12, 0, 1, 2, 3, 4, 5, 6, 7, 8, 9, 10, 11, 12, 13, 14]] [some 23, some 24, some 25, some 26, some 27, some 28, some 29, some 30, some 31, some 32, some 33, some 34, some 35, some 36, some 37, some 4] 16 (fun b w' => Arr .u8 w' (w.heap.size) xk ∧ Arr .u8 w' (w1.heap.size) xa ∧ Arr .u8 w' (w4.heap.size) ra ∧ Arr .u8 w' (w7.heap.size) ra ∧ Below w.heap.size w w') (fun opn f _ => match opn with | 0 => f 0 = aggI .u8 ra | 1 => f 1 = aggI .u8 ra | 2 => f 2 = .bool true | 3 => f 3 = .bool true | 4 => f 4 = .int .i64 ec | 5 => f 5 = .int .i64 ec | 6 => f 6 = .bool true | 7 => f 7 = .bool true | 8 => f 8 = .bool true | 9 => f 9 = aggI .u8 xk | 10 => f 10 = aggI .u8 rb | 11 => f 11 = aggI .u8 xk | 12 => f 12 = aggI .u8 rb | 13 => f 13 = .bool true | 14 => f 14 = .bool true | 15 => f 15 = .bool true | _ => True) (fun _ _ _ => True) (by kernel_rfl) (by kernel_rfl) (by kernel_rfl) (by kernel_rfl) (fun b v v' hb h => ⟨h.1.below hb, h.2.1.below hb, h.2.2.1.below hb, h.2.2.2.1.below hb, below_then h.2.2.2.2 hb⟩) (fun _ _ _ _ _ h => h) (fun _ _ _ _ _ _ _ h => h) ⟨A2.drew, A3.drew, A5.drew, A7.drew, BB.drew⟩ ?_ ?_
 ·
  refine StepL.other (k := 0) rfl (fun b f W hb hG hH => ?_) ?_
  ·
   clear hH
   generalize hA : putL _ _ _ _ = A
   have q5 : A.eval (.tmp 5) = .pointer (some ⟨w4.heap.size, 0, none⟩) := putLn hA 5 rfl rfl rfl
   clear hA
   exact Does.loadM rfl 22 _ rfl 32 _ und_a32 rfl info_a32 (w4.heap.size) (0) q5 .u8 (ra) (hG.2.2.1) (by omega) (sl_all l_ra) ⟨Below.refl _ _, rfl⟩
  refine StepL.other (k := 1) rfl (fun b f W hb hG hH => ?_) ?_
  ·
   clear hH
   generalize hA : putL _ _ _ _ = A
   have q7 : A.eval (.tmp 7) = .pointer (some ⟨w7.heap.size, 0, none⟩) := putLn hA 7 rfl rfl rfl
   clear hA
   exact Does.loadM rfl 22 _ rfl 32 _ und_a32 rfl info_a32 (w7.heap.size) (0) q7 .u8 (ra) (hG.2.2.2.1) (by omega) (sl_all l_ra) ⟨Below.refl _ _, rfl⟩
  refine StepL.other (k := 2) rfl (fun b f W hb hG hH => ?_) ?_
  ·
   obtain ⟨d0, d1, -⟩ := hH
   generalize hA : putL _ _ _ _ = A
   have q23 := putLl hA 23 d0 rfl rfl
   have r23 := slot_get q23
   have q24 := putLl hA 24 d1 rfl rfl
   have r24 := slot_get q24
   clear hA
   exact Does.eqlI rfl 22 _ 5 _ _ rfl 32 und_a32 .u8 .u8 Tryd.underlying5 (by kernel_rfl) (by kernel_rfl) (ra) (ra) q23 q24 (l_ra) (l_ra) true (by simp) ⟨Below.refl _ _, rfl⟩
  refine StepL.other (k := 3) rfl (fun b f W hb hG hH => ?_) ?_
  ·
   obtain ⟨d2, -⟩ := hH
   generalize hA : putL _ _ _ _ = A
   have q25 := putLl hA 25 d2 rfl rfl
   have r25 := slot_get q25
   clear hA
   refine Does.pure rfl (.bool true) ?_ ⟨Below.refl _ _, rfl⟩
   go_simp
  refine StepL.other (k := 4) rfl (fun b f W hb hG hH => ?_) ?_
  ·
   obtain ⟨d3, -⟩ := hH
   generalize hA : putL _ _ _ _ = A
   have q6 : A.eval (.tmp 6) = .int .i64 ec := putLn hA 6 rfl rfl rfl
   have r6 := slot_get q6
   have q26 := putLl hA 26 d3 rfl rfl
   have r26 := slot_get q26
   clear hA
   refine Does.pure (wanted_of (b := true) rfl rfl q26) (.int .i64 ec) ?_ ⟨Below.refl _ _, rfl⟩
   go_simp
  refine StepL.other (k := 5) rfl (fun b f W hb hG hH => ?_) ?_
  ·
   obtain ⟨d3, -⟩ := hH
   generalize hA : putL _ _ _ _ = A
   have q8 : A.eval (.tmp 8) = .int .i64 ec := putLn hA 8 rfl rfl rfl
   have r8 := slot_get q8
   have q26 := putLl hA 26 d3 rfl rfl
   have r26 := slot_get q26
   clear hA
   refine Does.pure (wanted_of (b := true) rfl rfl q26) (.int .i64 ec) ?_ ⟨Below.refl _ _, rfl⟩
   go_simp
  refine StepL.other (k := 6) rfl (fun b f W hb hG hH => ?_) ?_
  ·
   obtain ⟨d4, d5, d3, -⟩ := hH
   generalize hA : putL _ _ _ _ = A
   have q27 := putLl hA 27 d4 rfl rfl
   have r27 := slot_get q27
   have q28 := putLl hA 28 d5 rfl rfl
   have r28 := slot_get q28
   have q26 := putLl hA 26 d3 rfl rfl
   have r26 := slot_get q26
   clear hA
   refine Does.pure (wanted_of (b := true) rfl rfl q26) (.bool true) ?_ ⟨Below.refl _ _, rfl⟩
   go_simp
  refine StepL.other (k := 7) rfl (fun b f W hb hG hH => ?_) ?_
  ·
   obtain ⟨d3, d6, -⟩ := hH
   generalize hA : putL _ _ _ _ = A
   have q26 := putLl hA 26 d3 rfl rfl
   have r26 := slot_get q26
   have q29 := putLl hA 29 d6 rfl rfl
   have r29 := slot_get q29
   clear hA
   refine Does.pure rfl (.bool true) ?_ ⟨Below.refl _ _, rfl⟩
   go_simp
  refine StepL.other (k := 8) rfl (fun b f W hb hG hH => ?_) ?_
  ·
   obtain ⟨d7, d3, -⟩ := hH
   generalize hA : putL _ _ _ _ = A
   have q30 := putLl hA 30 d7 rfl rfl
   have r30 := slot_get q30
   clear hA
   refine Does.pure rfl (.bool true) ?_ ⟨Below.refl _ _, rfl⟩
   go_simp
  refine StepL.other (k := 9) rfl (fun b f W hb hG hH => ?_) ?_
  ·
   obtain ⟨d8, -⟩ := hH
   generalize hA : putL _ _ _ _ = A
   have q2 : A.eval (.tmp 2) = .pointer (some ⟨w.heap.size, 0, none⟩) := putLn hA 2 rfl rfl rfl
   have r2 := slot_get q2
   have q31 := putLl hA 31 d8 rfl rfl
   have r31 := slot_get q31
   clear hA
   exact Does.loadM (wanted_of (b := true) rfl rfl q31) 22 _ rfl 32 _ und_a32 rfl info_a32 (w.heap.size) (0) q2 .u8 (xk) (hG.1) (by omega) (sl_all l_xk) ⟨Below.refl _ _, rfl⟩
  refine StepL.other (k := 10) rfl (fun b f W hb hG hH => ?_) ?_
  ·
   obtain ⟨d9, d8, -, -⟩ := hH
   generalize hA : putL _ _ _ _ = A
   have q32 := putLl hA 32 d9 rfl rfl
   have r32 := slot_get q32
   have q31 := putLl hA 31 d8 rfl rfl
   have r31 := slot_get q31
   clear hA
   refine Does.call (wanted_of (b := true) rfl rfl q31) _ _ (by go_simp) ((H3 W (hT.below (hG.2.2.2.2))).mono ?_)
   rintro e w' ⟨rfl, hb'⟩
   exact ⟨_, rfl, hb', rfl⟩
  refine StepL.other (k := 11) rfl (fun b f W hb hG hH => ?_) ?_
  ·
   obtain ⟨d8, -⟩ := hH
   generalize hA : putL _ _ _ _ = A
   have q2 : A.eval (.tmp 2) = .pointer (some ⟨w.heap.size, 0, none⟩) := putLn hA 2 rfl rfl rfl
   have r2 := slot_get q2
   have q31 := putLl hA 31 d8 rfl rfl
   have r31 := slot_get q31
   clear hA
   exact Does.loadM (wanted_of (b := true) rfl rfl q31) 22 _ rfl 32 _ und_a32 rfl info_a32 (w.heap.size) (0) q2 .u8 (xk) (hG.1) (by omega) (sl_all l_xk) ⟨Below.refl _ _, rfl⟩
  refine StepL.other (k := 12) rfl (fun b f W hb hG hH => ?_) ?_
  ·
   obtain ⟨d11, d10, d8, -⟩ := hH
   generalize hA : putL _ _ _ _ = A
   have q34 := putLl hA 34 d11 rfl rfl
   have r34 := slot_get q34
   have q31 := putLl hA 31 d8 rfl rfl
   have r31 := slot_get q31
   clear hA
   refine Does.call (wanted_of (b := true) rfl rfl q31) _ _ (by go_simp) ((H4 W).mono ?_)
   rintro e w' ⟨rfl, hb'⟩
   exact ⟨_, rfl, hb', rfl⟩
  refine StepL.other (k := 13) rfl (fun b f W hb hG hH => ?_) ?_
  ·
   obtain ⟨d10, d12, d8, -⟩ := hH
   generalize hA : putL _ _ _ _ = A
   have q33 := putLl hA 33 d10 rfl rfl
   have r33 := slot_get q33
   have q35 := putLl hA 35 d12 rfl rfl
   have r35 := slot_get q35
   have q31 := putLl hA 31 d8 rfl rfl
   have r31 := slot_get q31
   clear hA
   exact Does.eqlI (wanted_of (b := true) rfl rfl q31) 22 _ 5 _ _ rfl 32 und_a32 .u8 .u8 Tryd.underlying5 (by kernel_rfl) (by kernel_rfl) (rb) (rb) q33 q35 (l_rb) (l_rb) true (by simp) ⟨Below.refl _ _, rfl⟩
  refine StepL.other (k := 14) rfl (fun b f W hb hG hH => ?_) ?_
  ·
   obtain ⟨d8, d13, -⟩ := hH
   generalize hA : putL _ _ _ _ = A
   have q31 := putLl hA 31 d8 rfl rfl
   have r31 := slot_get q31
   have q36 := putLl hA 36 d13 rfl rfl
   have r36 := slot_get q36
   clear hA
   refine Does.pure rfl (.bool true) ?_ ⟨Below.refl _ _, rfl⟩
   go_simp
  refine StepL.other (k := 15) rfl (fun b f W hb hG hH => ?_) ?_
  ·
   obtain ⟨d14, d12, d0, d1, d2, d3, d4, d5, d6, d7, d8, d9, d10, d11, -, d13, -, -⟩ := hH
   generalize hA : putL _ _ _ _ = A
   have q37 := putLl hA 37 d14 rfl rfl
   have r37 := slot_get q37
   clear hA
   refine Does.pure rfl (.bool true) ?_ ⟨Below.refl _ _, rfl⟩
   go_simp
  exact trivial
 ·
  intro f V10 hG hH
  obtain ⟨d0, d1, d2, d3, d4, d5, d6, d7, d8, d9, d10, d11, d12, d13, d14, d15, -⟩ : (f 0 = aggI .u8 ra) ∧ (f 1 = aggI .u8 ra) ∧ (f 2 = .bool true) ∧ (f 3 = .bool true) ∧ (f 4 = .int .i64 ec) ∧ (f 5 = .int .i64 ec) ∧ (f 6 = .bool true) ∧ (f 7 = .bool true) ∧ (f 8 = .bool true) ∧ (f 9 = aggI .u8 xk) ∧ (f 10 = aggI .u8 rb) ∧ (f 11 = aggI .u8 xk) ∧ (f 12 = aggI .u8 rb) ∧ (f 13 = .bool true) ∧ (f 14 = .bool true) ∧ (f 15 = .bool true) ∧ True := hH
  rw [show List.range (List.length [[], [], [0, 1], [2], [3], [3], [4, 5, 3], [3, 6], [7, 3], [8], [9, 8, 8], [8], [11, 10, 8], [10, 12, 8], [8, 13], [14, 12, 0, 1, 2, 3, 4, 5, 6, 7, 8, 9, 10, 11, 12, 13, 14]]) = [0, 1, 2, 3, 4, 5, 6, 7, 8, 9, 10, 11, 12, 13, 14, 15] from rfl]
  simp only [putL, List.getElem?_cons_zero, List.getElem?_cons_succ, Option.join, Option.bind_some, id_eq, Act.put, List.setIfInBounds_toArray, List.set_cons_zero, List.set_cons_succ, d0, d1, d2, d3, d4, d5, d6, d7, d8, d9, d10, d11, d12, d13, d14, d15]
  clear d0 d1 d2 d3 d4 d5 d6 d7 d8 d9 d10 d11 d12 d13 d14 d15
  clear A2 A3 A5 A7
  obtain ⟨A2, A3, A5, A7, BV⟩ := hG
  clear BB
  have BB := BV
  clear BV
  have zz10 := BB.size
  go_wp2
  go_ret
  exact ⟨rfl, BB⟩
set_option maxHeartbeats 4000000 in
theorem mixes_l (xk xa xc ra : List Int) (ec : Int) (w : World) (hT : TabD w)
    (l_xk : xk.length = 32) (l_xa : xa.length = 32) (l_xc : xc.length = 32) (l_ra : ra.length = 32)
    (H0 : ∀ W, TabD W → Ret 10 #[] (.bool true) W)
    (H1 : ∀ W, TabD W → Ret 21 #[aggI .u8 xk, aggI .u8 xa, aggI .u8 xc] (.tuple #[aggI .u8 ra, .int .i64 ec]) W)
    (H2 : ∀ W, Ret 22 #[aggI .u8 xk, aggI .u8 xa, aggI .u8 xc] (.tuple #[aggI .u8 ra, .int .i64 ec]) W) :
    Calls Tryd.prog 5 #[aggI .u8 xk, aggI .u8 xa, aggI .u8 xc] w fun e w' => e = .returned (.bool true) ∧ Below w.heap.size w w' := by
  go_enter Tryd.func5, Tryd.ntmps5
  go_wp2_with (first
      | (with_reducible refine at_n 3 ?_; refine wpList_boxI rfl 22 _ rfl .u8 xk rfl ?_; intro w1 A3 s1 b1; have BB := b1; have y1 := BB.size)
      | (with_reducible refine at_n 4 ?_; refine wpList_boxI rfl 22 _ rfl .u8 xa rfl ?_; intro w2 A4 s2 b2; have q2_3 := A3.lt; replace A3 := A3.below b2; replace BB := below_then BB b2; have y2 := BB.size)
      | (with_reducible refine at_n 5 ?_; refine wpList_boxI rfl 22 _ rfl .u8 xc rfl ?_; intro w3 A5 s3 b3; have q3_3 := A3.lt; have q3_4 := A4.lt; replace A3 := A3.below b3; replace A4 := A4.below b3; replace BB := below_then BB b3; have y3 := BB.size)
      | (with_reducible refine at_n 14 ?_; refine wpList_val' (fun R hR => Does.loadM rfl 22 _ rfl 32 _ und_a32 rfl info_a32 (w.heap.size) 0 rfl .u8 (xk) (A3) (by omega) (sl_all l_xk) hR) ?_)
      | (with_reducible refine at_n 15 ?_; refine wpList_val' (fun R hR => Does.loadM rfl 22 _ rfl 32 _ und_a32 rfl info_a32 (w1.heap.size) 0 rfl .u8 (xa) (A4) (by omega) (sl_all l_xa) hR) ?_)
      | (with_reducible refine at_n 16 ?_; refine wpList_val' (fun R hR => Does.loadM rfl 22 _ rfl 32 _ und_a32 rfl info_a32 (w2.heap.size) 0 rfl .u8 (xc) (A5) (by omega) (sl_all l_xc) hR) ?_)
      | (with_reducible refine at_n 7 ?_; refine wpList_allocI rfl 22 rfl .u8 32 zero_a32 ?_; intro w6 A7 s6 b6; have q6_3 := A3.lt; have q6_4 := A4.lt; have q6_5 := A5.lt; replace A3 := A3.below b6; replace A4 := A4.below b6; replace A5 := A5.below b6; replace BB := below_then BB b6; have y6 := BB.size)
      | (with_reducible refine at_op (o := ⟨_, .store 22 (.tmp 7) _, _, _, _, _⟩) ?_; refine wpList_storeI rfl 22 _ _ rfl 32 info_a32 (w5.heap.size) rfl .u8 _ (ra) rfl (A7) (rfl) (l_ra) ?_; intro D7; replace A3 := A3.rowOther (B' := w5.heap.size) (by omega) ((ra).map (Value.int .u8)).toArray; replace A4 := A4.rowOther (B' := w5.heap.size) (by omega) ((ra).map (Value.int .u8)).toArray; replace A5 := A5.rowOther (B' := w5.heap.size) (by omega) ((ra).map (Value.int .u8)).toArray; replace BB := Below.setRow BB (g := w5.heap.size) (by omega) ((ra).map (Value.int .u8)).toArray; clear A7; have A7 := D7)
      | (with_reducible refine at_n 21 ?_; refine wpList_val' (fun R hR => Does.loadM rfl 22 _ rfl 32 _ und_a32 rfl info_a32 (w.heap.size) 0 rfl .u8 (xk) (A3) (by omega) (sl_all l_xk) hR) ?_)
      | (with_reducible refine at_n 22 ?_; refine wpList_val' (fun R hR => Does.loadM rfl 22 _ rfl 32 _ und_a32 rfl info_a32 (w1.heap.size) 0 rfl .u8 (xa) (A4) (by omega) (sl_all l_xa) hR) ?_)
      | (with_reducible refine at_n 23 ?_; refine wpList_val' (fun R hR => Does.loadM rfl 22 _ rfl 32 _ und_a32 rfl info_a32 (w2.heap.size) 0 rfl .u8 (xc) (A5) (by omega) (sl_all l_xc) hR) ?_)
      | (with_reducible refine at_n 9 ?_; refine wpList_allocI rfl 22 rfl .u8 32 zero_a32 ?_; intro w9 A9 s9 b9; have q9_3 := A3.lt; have q9_4 := A4.lt; have q9_5 := A5.lt; have q9_7 := A7.lt; replace A3 := A3.below b9; replace A4 := A4.below b9; replace A5 := A5.below b9; replace A7 := A7.below b9; replace BB := below_then BB b9; have y9 := BB.size)
      | (with_reducible refine at_op (o := ⟨_, .store 22 (.tmp 9) _, _, _, _, _⟩) ?_; refine wpList_storeI rfl 22 _ _ rfl 32 info_a32 (w8.heap.size) rfl .u8 _ (ra) rfl (A9) (rfl) (l_ra) ?_; intro D10; replace A3 := A3.rowOther (B' := w8.heap.size) (by omega) ((ra).map (Value.int .u8)).toArray; replace A4 := A4.rowOther (B' := w8.heap.size) (by omega) ((ra).map (Value.int .u8)).toArray; replace A5 := A5.rowOther (B' := w8.heap.size) (by omega) ((ra).map (Value.int .u8)).toArray; replace A7 := A7.rowOther (B' := w8.heap.size) (by omega) ((ra).map (Value.int .u8)).toArray; replace BB := Below.setRow BB (g := w8.heap.size) (by omega) ((ra).map (Value.int .u8)).toArray; clear A9; have A9 := D10)
      | (with_reducible refine at_n 27 ?_; refine wpList_val' (fun R hR => Does.loadM rfl 22 _ rfl 32 _ und_a32 rfl info_a32 (w5.heap.size) 0 rfl .u8 (ra) (A7) (by omega) (sl_all l_ra) hR) ?_)
      | (with_reducible refine at_n 28 ?_; refine wpList_val' (fun R hR => Does.loadM rfl 22 _ rfl 32 _ und_a32 rfl info_a32 (w8.heap.size) 0 rfl .u8 (ra) (A9) (by omega) (sl_all l_ra) hR) ?_)
      | (with_reducible refine at_n 29 ?_; refine wpList_val' (fun R hR => Does.eqlI rfl 22 _ 5 _ _ rfl 32 und_a32 .u8 .u8 Tryd.underlying5 (by kernel_rfl) (by kernel_rfl) (ra) (ra) rfl rfl (l_ra) (l_ra) true (by simp) hR) ?_)
      | (go_at_call 10; first | ((with_reducible refine (H0 _ (hT.below BB)).mono ?_); rintro e w4 ⟨rfl, b4⟩; replace A3 := A3.below b4; replace A4 := A4.below b4; replace A5 := A5.below b4; replace BB := below_then BB b4; have z4 := BB.size))
      | (go_at_call 21; first | ((with_reducible refine (H1 _ (hT.below BB)).mono ?_); rintro e w5 ⟨rfl, b5⟩; replace A3 := A3.below b5; replace A4 := A4.below b5; replace A5 := A5.below b5; replace BB := below_then BB b5; have z5 := BB.size))
      | (go_at_call 22; first | ((with_reducible refine (H2 _).mono ?_); rintro e w8 ⟨rfl, b8⟩; replace A3 := A3.below b8; replace A4 := A4.below b8; replace A5 := A5.below b8; replace A7 := A7.below b8; replace BB := below_then BB b8; have z8 := BB.size)))
  go_ret
  exact ⟨rfl, BB⟩
set_option maxHeartbeats 4000000 in
theorem negs_t (xk xa rn ra rb : List Int) (w : World) (hT : TabD w)
    (l_xk : xk.length = 32) (l_xa : xa.length = 32) (l_rn : rn.length = 32) (l_ra : ra.length = 32) (l_rb : rb.length = 32)
    (H0 : ∀ W, TabD W → Ret 10 #[] (.bool true) W)
    (H1 : ∀ W, TabD W → Ret 13 #[aggI .u8 xa] (.tuple #[aggI .u8 rn, .int .i64 0]) W)
    (H2 : ∀ W, TabD W → Ret 17 #[aggI .u8 xk, aggI .u8 rn] (.tuple #[aggI .u8 ra, .int .i64 0]) W)
    (H3 : ∀ W, TabD W → Ret 17 #[aggI .u8 xk, aggI .u8 xa] (.tuple #[aggI .u8 rb, .int .i64 0]) W)
    (H4 : ∀ W, TabD W → Ret 13 #[aggI .u8 rb] (.tuple #[aggI .u8 ra, .int .i64 0]) W)
    (H5 : ∀ W, TabD W → Ret 15 #[aggI .u8 xa] (.bool true) W) :
    Calls Tryd.prog 8 #[aggI .u8 xk, aggI .u8 xa] w fun e w' => e = .returned (.bool true) ∧ Below w.heap.size w w' := by
  go_enter Tryd.func8, Tryd.ntmps8
  go_wp2_with (first
      | (with_reducible refine at_n 2 ?_; refine wpList_boxI rfl 22 _ rfl .u8 xk rfl ?_; intro w1 A2 s1 b1; have BB := b1; have y1 := BB.size)
      | (with_reducible refine at_n 3 ?_; refine wpList_boxI rfl 22 _ rfl .u8 xa rfl ?_; intro w2 A3 s2 b2; have q2_2 := A2.lt; replace A2 := A2.below b2; replace BB := below_then BB b2; have y2 := BB.size)
      | (with_reducible refine at_n 16 ?_; refine wpList_val' (fun R hR => Does.loadM rfl 22 _ rfl 32 _ und_a32 rfl info_a32 (w1.heap.size) 0 rfl .u8 (xa) (A3) (by omega) (sl_all l_xa) hR) ?_)
      | (with_reducible refine at_n 5 ?_; refine wpList_allocI rfl 22 rfl .u8 32 zero_a32 ?_; intro w5 A5 s5 b5; have q5_2 := A2.lt; have q5_3 := A3.lt; replace A2 := A2.below b5; replace A3 := A3.below b5; replace BB := below_then BB b5; have y5 := BB.size)
      | (with_reducible refine at_op (o := ⟨_, .store 22 (.tmp 5) _, _, _, _, _⟩) ?_; refine wpList_storeI rfl 22 _ _ rfl 32 info_a32 (w4.heap.size) rfl .u8 _ (rn) rfl (A5) (rfl) (l_rn) ?_; intro D6; replace A2 := A2.rowOther (B' := w4.heap.size) (by omega) ((rn).map (Value.int .u8)).toArray; replace A3 := A3.rowOther (B' := w4.heap.size) (by omega) ((rn).map (Value.int .u8)).toArray; replace BB := Below.setRow BB (g := w4.heap.size) (by omega) ((rn).map (Value.int .u8)).toArray; clear A5; have A5 := D6)
      | (with_reducible refine at_n 21 ?_; refine wpList_val' (fun R hR => Does.loadM rfl 22 _ rfl 32 _ und_a32 rfl info_a32 (w.heap.size) 0 rfl .u8 (xk) (A2) (by omega) (sl_all l_xk) hR) ?_)
      | (with_reducible refine at_n 22 ?_; refine wpList_val' (fun R hR => Does.loadM rfl 22 _ rfl 32 _ und_a32 rfl info_a32 (w4.heap.size) 0 rfl .u8 (rn) (A5) (by omega) (sl_all l_rn) hR) ?_)
      | (with_reducible refine at_n 7 ?_; refine wpList_allocI rfl 22 rfl .u8 32 zero_a32 ?_; intro w8 A7 s8 b8; have q8_2 := A2.lt; have q8_3 := A3.lt; have q8_5 := A5.lt; replace A2 := A2.below b8; replace A3 := A3.below b8; replace A5 := A5.below b8; replace BB := below_then BB b8; have y8 := BB.size)
      | (with_reducible refine at_op (o := ⟨_, .store 22 (.tmp 7) _, _, _, _, _⟩) ?_; refine wpList_storeI rfl 22 _ _ rfl 32 info_a32 (w7.heap.size) rfl .u8 _ (ra) rfl (A7) (rfl) (l_ra) ?_; intro D9; replace A2 := A2.rowOther (B' := w7.heap.size) (by omega) ((ra).map (Value.int .u8)).toArray; replace A3 := A3.rowOther (B' := w7.heap.size) (by omega) ((ra).map (Value.int .u8)).toArray; replace A5 := A5.rowOther (B' := w7.heap.size) (by omega) ((ra).map (Value.int .u8)).toArray; replace BB := Below.setRow BB (g := w7.heap.size) (by omega) ((ra).map (Value.int .u8)).toArray; clear A7; have A7 := D9)
      | (with_reducible refine at_n 27 ?_; refine wpList_val' (fun R hR => Does.loadM rfl 22 _ rfl 32 _ und_a32 rfl info_a32 (w.heap.size) 0 rfl .u8 (xk) (A2) (by omega) (sl_all l_xk) hR) ?_)
      | (with_reducible refine at_n 28 ?_; refine wpList_val' (fun R hR => Does.loadM rfl 22 _ rfl 32 _ und_a32 rfl info_a32 (w1.heap.size) 0 rfl .u8 (xa) (A3) (by omega) (sl_all l_xa) hR) ?_)
      | (with_reducible refine at_n 9 ?_; refine wpList_allocI rfl 22 rfl .u8 32 zero_a32 ?_; intro w11 A9 s11 b11; have q11_2 := A2.lt; have q11_3 := A3.lt; have q11_5 := A5.lt; have q11_7 := A7.lt; replace A2 := A2.below b11; replace A3 := A3.below b11; replace A5 := A5.below b11; replace A7 := A7.below b11; replace BB := below_then BB b11; have y11 := BB.size)
      | (with_reducible refine at_op (o := ⟨_, .store 22 (.tmp 9) _, _, _, _, _⟩) ?_; refine wpList_storeI rfl 22 _ _ rfl 32 info_a32 (w10.heap.size) rfl .u8 _ (rb) rfl (A9) (rfl) (l_rb) ?_; intro D12; replace A2 := A2.rowOther (B' := w10.heap.size) (by omega) ((rb).map (Value.int .u8)).toArray; replace A3 := A3.rowOther (B' := w10.heap.size) (by omega) ((rb).map (Value.int .u8)).toArray; replace A5 := A5.rowOther (B' := w10.heap.size) (by omega) ((rb).map (Value.int .u8)).toArray; replace A7 := A7.rowOther (B' := w10.heap.size) (by omega) ((rb).map (Value.int .u8)).toArray; replace BB := Below.setRow BB (g := w10.heap.size) (by omega) ((rb).map (Value.int .u8)).toArray; clear A9; have A9 := D12)
      | (with_reducible refine at_n 33 ?_; refine wpList_val' (fun R hR => Does.loadM rfl 22 _ rfl 32 _ und_a32 rfl info_a32 (w10.heap.size) 0 rfl .u8 (rb) (A9) (by omega) (sl_all l_rb) hR) ?_)
      | (with_reducible refine at_n 11 ?_; refine wpList_allocI rfl 22 rfl .u8 32 zero_a32 ?_; intro w14 A11 s14 b14; have q14_2 := A2.lt; have q14_3 := A3.lt; have q14_5 := A5.lt; have q14_7 := A7.lt; have q14_9 := A9.lt; replace A2 := A2.below b14; replace A3 := A3.below b14; replace A5 := A5.below b14; replace A7 := A7.below b14; replace A9 := A9.below b14; replace BB := below_then BB b14; have y14 := BB.size)
      | (with_reducible refine at_op (o := ⟨_, .store 22 (.tmp 11) _, _, _, _, _⟩) ?_; refine wpList_storeI rfl 22 _ _ rfl 32 info_a32 (w13.heap.size) rfl .u8 _ (ra) rfl (A11) (rfl) (l_ra) ?_; intro D15; replace A2 := A2.rowOther (B' := w13.heap.size) (by omega) ((ra).map (Value.int .u8)).toArray; replace A3 := A3.rowOther (B' := w13.heap.size) (by omega) ((ra).map (Value.int .u8)).toArray; replace A5 := A5.rowOther (B' := w13.heap.size) (by omega) ((ra).map (Value.int .u8)).toArray; replace A7 := A7.rowOther (B' := w13.heap.size) (by omega) ((ra).map (Value.int .u8)).toArray; replace A9 := A9.rowOther (B' := w13.heap.size) (by omega) ((ra).map (Value.int .u8)).toArray; replace BB := Below.setRow BB (g := w13.heap.size) (by omega) ((ra).map (Value.int .u8)).toArray; clear A11; have A11 := D15)
      | (with_reducible refine at_n 37 ?_; refine wpList_val' (fun R hR => Does.loadM rfl 22 _ rfl 32 _ und_a32 rfl info_a32 (w1.heap.size) 0 rfl .u8 (xa) (A3) (by omega) (sl_all l_xa) hR) ?_)
      | (with_reducible refine at_n 61 ?_; refine wpList_val' (fun R hR => Does.loadM rfl 22 _ rfl 32 _ und_a32 rfl info_a32 (w7.heap.size) 0 rfl .u8 (ra) (A7) (by omega) (sl_all l_ra) hR) ?_)
      | (with_reducible refine at_n 62 ?_; refine wpList_val' (fun R hR => Does.loadM rfl 22 _ rfl 32 _ und_a32 rfl info_a32 (w13.heap.size) 0 rfl .u8 (ra) (A11) (by omega) (sl_all l_ra) hR) ?_)
      | (with_reducible refine at_n 63 ?_; refine wpList_val' (fun R hR => Does.eqlI rfl 22 _ 5 _ _ rfl 32 und_a32 .u8 .u8 Tryd.underlying5 (by kernel_rfl) (by kernel_rfl) (ra) (ra) rfl rfl (l_ra) (l_ra) true (by simp) hR) ?_)
      | (go_at_call 10; first | ((with_reducible refine (H0 _ (hT.below BB)).mono ?_); rintro e w3 ⟨rfl, b3⟩; replace A2 := A2.below b3; replace A3 := A3.below b3; replace BB := below_then BB b3; have z3 := BB.size))
      | (go_at_call 13; first | ((with_reducible refine (H1 _ (hT.below BB)).mono ?_); rintro e w4 ⟨rfl, b4⟩; replace A2 := A2.below b4; replace A3 := A3.below b4; replace BB := below_then BB b4; have z4 := BB.size) | ((with_reducible refine (H4 _ (hT.below BB)).mono ?_); rintro e w13 ⟨rfl, b13⟩; replace A2 := A2.below b13; replace A3 := A3.below b13; replace A5 := A5.below b13; replace A7 := A7.below b13; replace A9 := A9.below b13; replace BB := below_then BB b13; have z13 := BB.size))
      | (go_at_call 17; first | ((with_reducible refine (H2 _ (hT.below BB)).mono ?_); rintro e w7 ⟨rfl, b7⟩; replace A2 := A2.below b7; replace A3 := A3.below b7; replace A5 := A5.below b7; replace BB := below_then BB b7; have z7 := BB.size) | ((with_reducible refine (H3 _ (hT.below BB)).mono ?_); rintro e w10 ⟨rfl, b10⟩; replace A2 := A2.below b10; replace A3 := A3.below b10; replace A5 := A5.below b10; replace A7 := A7.below b10; replace BB := below_then BB b10; have z10 := BB.size))
      | (go_at_call 15; first | ((with_reducible refine (H5 _ (hT.below BB)).mono ?_); rintro e w16 ⟨rfl, b16⟩; replace A2 := A2.below b16; replace A3 := A3.below b16; replace A5 := A5.below b16; replace A7 := A7.below b16; replace A9 := A9.below b16; replace A11 := A11.below b16; replace BB := below_then BB b16; have z16 := BB.size)))
  go_ret
  exact ⟨rfl, BB⟩
set_option maxHeartbeats 4000000 in
theorem negs_f (xk xa rn ra rb rc : List Int) (fc hc : Int) (w : World) (hT : TabD w)
    (l_xk : xk.length = 32) (l_xa : xa.length = 32) (l_rn : rn.length = 32) (l_ra : ra.length = 32) (l_rb : rb.length = 32) (l_rc : rc.length = 32)
    (H0 : ∀ W, TabD W → Ret 10 #[] (.bool true) W)
    (H1 : ∀ W, TabD W → Ret 13 #[aggI .u8 xa] (.tuple #[aggI .u8 rn, .int .i64 1]) W)
    (H2 : ∀ W, TabD W → Ret 17 #[aggI .u8 xk, aggI .u8 rn] (.tuple #[aggI .u8 ra, .int .i64 fc]) W)
    (H3 : ∀ W, TabD W → Ret 17 #[aggI .u8 xk, aggI .u8 xa] (.tuple #[aggI .u8 rb, .int .i64 1]) W)
    (H4 : ∀ W, TabD W → Ret 13 #[aggI .u8 rb] (.tuple #[aggI .u8 rc, .int .i64 hc]) W)
    (H5 : ∀ W, TabD W → Ret 15 #[aggI .u8 xa] (.bool false) W) :
    Calls Tryd.prog 8 #[aggI .u8 xk, aggI .u8 xa] w fun e w' => e = .returned (.bool true) ∧ Below w.heap.size w w' := by
  go_enter Tryd.func8, Tryd.ntmps8
  go_wp2_with (first
      | (with_reducible refine at_n 2 ?_; refine wpList_boxI rfl 22 _ rfl .u8 xk rfl ?_; intro w1 A2 s1 b1; have BB := b1; have y1 := BB.size)
      | (with_reducible refine at_n 3 ?_; refine wpList_boxI rfl 22 _ rfl .u8 xa rfl ?_; intro w2 A3 s2 b2; have q2_2 := A2.lt; replace A2 := A2.below b2; replace BB := below_then BB b2; have y2 := BB.size)
      | (with_reducible refine at_n 16 ?_; refine wpList_val' (fun R hR => Does.loadM rfl 22 _ rfl 32 _ und_a32 rfl info_a32 (w1.heap.size) 0 rfl .u8 (xa) (A3) (by omega) (sl_all l_xa) hR) ?_)
      | (with_reducible refine at_n 5 ?_; refine wpList_allocI rfl 22 rfl .u8 32 zero_a32 ?_; intro w5 A5 s5 b5; have q5_2 := A2.lt; have q5_3 := A3.lt; replace A2 := A2.below b5; replace A3 := A3.below b5; replace BB := below_then BB b5; have y5 := BB.size)
      | (with_reducible refine at_op (o := ⟨_, .store 22 (.tmp 5) _, _, _, _, _⟩) ?_; refine wpList_storeI rfl 22 _ _ rfl 32 info_a32 (w4.heap.size) rfl .u8 _ (rn) rfl (A5) (rfl) (l_rn) ?_; intro D6; replace A2 := A2.rowOther (B' := w4.heap.size) (by omega) ((rn).map (Value.int .u8)).toArray; replace A3 := A3.rowOther (B' := w4.heap.size) (by omega) ((rn).map (Value.int .u8)).toArray; replace BB := Below.setRow BB (g := w4.heap.size) (by omega) ((rn).map (Value.int .u8)).toArray; clear A5; have A5 := D6)
      | (with_reducible refine at_n 21 ?_; refine wpList_val' (fun R hR => Does.loadM rfl 22 _ rfl 32 _ und_a32 rfl info_a32 (w.heap.size) 0 rfl .u8 (xk) (A2) (by omega) (sl_all l_xk) hR) ?_)
      | (with_reducible refine at_n 22 ?_; refine wpList_val' (fun R hR => Does.loadM rfl 22 _ rfl 32 _ und_a32 rfl info_a32 (w4.heap.size) 0 rfl .u8 (rn) (A5) (by omega) (sl_all l_rn) hR) ?_)
      | (with_reducible refine at_n 7 ?_; refine wpList_allocI rfl 22 rfl .u8 32 zero_a32 ?_; intro w8 A7 s8 b8; have q8_2 := A2.lt; have q8_3 := A3.lt; have q8_5 := A5.lt; replace A2 := A2.below b8; replace A3 := A3.below b8; replace A5 := A5.below b8; replace BB := below_then BB b8; have y8 := BB.size)
      | (with_reducible refine at_op (o := ⟨_, .store 22 (.tmp 7) _, _, _, _, _⟩) ?_; refine wpList_storeI rfl 22 _ _ rfl 32 info_a32 (w7.heap.size) rfl .u8 _ (ra) rfl (A7) (rfl) (l_ra) ?_; intro D9; replace A2 := A2.rowOther (B' := w7.heap.size) (by omega) ((ra).map (Value.int .u8)).toArray; replace A3 := A3.rowOther (B' := w7.heap.size) (by omega) ((ra).map (Value.int .u8)).toArray; replace A5 := A5.rowOther (B' := w7.heap.size) (by omega) ((ra).map (Value.int .u8)).toArray; replace BB := Below.setRow BB (g := w7.heap.size) (by omega) ((ra).map (Value.int .u8)).toArray; clear A7; have A7 := D9)
      | (with_reducible refine at_n 27 ?_; refine wpList_val' (fun R hR => Does.loadM rfl 22 _ rfl 32 _ und_a32 rfl info_a32 (w.heap.size) 0 rfl .u8 (xk) (A2) (by omega) (sl_all l_xk) hR) ?_)
      | (with_reducible refine at_n 28 ?_; refine wpList_val' (fun R hR => Does.loadM rfl 22 _ rfl 32 _ und_a32 rfl info_a32 (w1.heap.size) 0 rfl .u8 (xa) (A3) (by omega) (sl_all l_xa) hR) ?_)
      | (with_reducible refine at_n 9 ?_; refine wpList_allocI rfl 22 rfl .u8 32 zero_a32 ?_; intro w11 A9 s11 b11; have q11_2 := A2.lt; have q11_3 := A3.lt; have q11_5 := A5.lt; have q11_7 := A7.lt; replace A2 := A2.below b11; replace A3 := A3.below b11; replace A5 := A5.below b11; replace A7 := A7.below b11; replace BB := below_then BB b11; have y11 := BB.size)
      | (with_reducible refine at_op (o := ⟨_, .store 22 (.tmp 9) _, _, _, _, _⟩) ?_; refine wpList_storeI rfl 22 _ _ rfl 32 info_a32 (w10.heap.size) rfl .u8 _ (rb) rfl (A9) (rfl) (l_rb) ?_; intro D12; replace A2 := A2.rowOther (B' := w10.heap.size) (by omega) ((rb).map (Value.int .u8)).toArray; replace A3 := A3.rowOther (B' := w10.heap.size) (by omega) ((rb).map (Value.int .u8)).toArray; replace A5 := A5.rowOther (B' := w10.heap.size) (by omega) ((rb).map (Value.int .u8)).toArray; replace A7 := A7.rowOther (B' := w10.heap.size) (by omega) ((rb).map (Value.int .u8)).toArray; replace BB := Below.setRow BB (g := w10.heap.size) (by omega) ((rb).map (Value.int .u8)).toArray; clear A9; have A9 := D12)
      | (with_reducible refine at_n 33 ?_; refine wpList_val' (fun R hR => Does.loadM rfl 22 _ rfl 32 _ und_a32 rfl info_a32 (w10.heap.size) 0 rfl .u8 (rb) (A9) (by omega) (sl_all l_rb) hR) ?_)
      | (with_reducible refine at_n 11 ?_; refine wpList_allocI rfl 22 rfl .u8 32 zero_a32 ?_; intro w14 A11 s14 b14; have q14_2 := A2.lt; have q14_3 := A3.lt; have q14_5 := A5.lt; have q14_7 := A7.lt; have q14_9 := A9.lt; replace A2 := A2.below b14; replace A3 := A3.below b14; replace A5 := A5.below b14; replace A7 := A7.below b14; replace A9 := A9.below b14; replace BB := below_then BB b14; have y14 := BB.size)
      | (with_reducible refine at_op (o := ⟨_, .store 22 (.tmp 11) _, _, _, _, _⟩) ?_; refine wpList_storeI rfl 22 _ _ rfl 32 info_a32 (w13.heap.size) rfl .u8 _ (rc) rfl (A11) (rfl) (l_rc) ?_; intro D15; replace A2 := A2.rowOther (B' := w13.heap.size) (by omega) ((rc).map (Value.int .u8)).toArray; replace A3 := A3.rowOther (B' := w13.heap.size) (by omega) ((rc).map (Value.int .u8)).toArray; replace A5 := A5.rowOther (B' := w13.heap.size) (by omega) ((rc).map (Value.int .u8)).toArray; replace A7 := A7.rowOther (B' := w13.heap.size) (by omega) ((rc).map (Value.int .u8)).toArray; replace A9 := A9.rowOther (B' := w13.heap.size) (by omega) ((rc).map (Value.int .u8)).toArray; replace BB := Below.setRow BB (g := w13.heap.size) (by omega) ((rc).map (Value.int .u8)).toArray; clear A11; have A11 := D15)
      | (with_reducible refine at_n 37 ?_; refine wpList_val' (fun R hR => Does.loadM rfl 22 _ rfl 32 _ und_a32 rfl info_a32 (w1.heap.size) 0 rfl .u8 (xa) (A3) (by omega) (sl_all l_xa) hR) ?_)
      | (go_at_call 10; first | ((with_reducible refine (H0 _ (hT.below BB)).mono ?_); rintro e w3 ⟨rfl, b3⟩; replace A2 := A2.below b3; replace A3 := A3.below b3; replace BB := below_then BB b3; have z3 := BB.size))
      | (go_at_call 13; first | ((with_reducible refine (H1 _ (hT.below BB)).mono ?_); rintro e w4 ⟨rfl, b4⟩; replace A2 := A2.below b4; replace A3 := A3.below b4; replace BB := below_then BB b4; have z4 := BB.size) | ((with_reducible refine (H4 _ (hT.below BB)).mono ?_); rintro e w13 ⟨rfl, b13⟩; replace A2 := A2.below b13; replace A3 := A3.below b13; replace A5 := A5.below b13; replace A7 := A7.below b13; replace A9 := A9.below b13; replace BB := below_then BB b13; have z13 := BB.size))
      | (go_at_call 17; first | ((with_reducible refine (H2 _ (hT.below BB)).mono ?_); rintro e w7 ⟨rfl, b7⟩; replace A2 := A2.below b7; replace A3 := A3.below b7; replace A5 := A5.below b7; replace BB := below_then BB b7; have z7 := BB.size) | ((with_reducible refine (H3 _ (hT.below BB)).mono ?_); rintro e w10 ⟨rfl, b10⟩; replace A2 := A2.below b10; replace A3 := A3.below b10; replace A5 := A5.below b10; replace A7 := A7.below b10; replace BB := below_then BB b10; have z10 := BB.size))
      | (go_at_call 15; first | ((with_reducible refine (H5 _ (hT.below BB)).mono ?_); rintro e w16 ⟨rfl, b16⟩; replace A2 := A2.below b16; replace A3 := A3.below b16; replace A5 := A5.below b16; replace A7 := A7.below b16; replace A9 := A9.below b16; replace A11 := A11.below b16; replace BB := below_then BB b16; have z16 := BB.size)))
  go_ret
  exact ⟨rfl, BB⟩
set_option maxHeartbeats 8000000 in
theorem group_t (xp xq xr ra rc rd rk bu0 : List Int) (w : World) (hT : TabD w)
    (l_xp : xp.length = 32) (l_xq : xq.length = 32) (l_xr : xr.length = 32) (l_ra : ra.length = 32) (l_rc : rc.length = 32) (l_rd : rd.length = 32) (l_rk : rk.length = 32) (l_bu0 : bu0.length = 32)
    (hbu0 : Tryd.prog.built 22 [(0, .int .u8 1)] = some (bu0.map (Value.int .u8)).toArray)
    (H0 : ∀ W, TabD W → Ret 10 #[] (.bool true) W)
    (H1 : ∀ W, TabD W → Ret 15 #[aggI .u8 xp] (.bool true) W)
    (H2 : ∀ W, TabD W → Ret 15 #[aggI .u8 xq] (.bool true) W)
    (H3 : ∀ W, TabD W → Ret 15 #[aggI .u8 xr] (.bool true) W)
    (H4 : ∀ W, TabD W → Ret 11 #[aggI .u8 xp, aggI .u8 xq] (.tuple #[aggI .u8 ra, .int .i64 0]) W)
    (H5 : ∀ W, TabD W → Ret 11 #[aggI .u8 xq, aggI .u8 xp] (.tuple #[aggI .u8 ra, .int .i64 0]) W)
    (H6 : ∀ W, TabD W → Ret 11 #[aggI .u8 ra, aggI .u8 xr] (.tuple #[aggI .u8 rc, .int .i64 0]) W)
    (H7 : ∀ W, TabD W → Ret 11 #[aggI .u8 xq, aggI .u8 xr] (.tuple #[aggI .u8 rd, .int .i64 0]) W)
    (H8 : ∀ W, TabD W → Ret 11 #[aggI .u8 xp, aggI .u8 rd] (.tuple #[aggI .u8 rc, .int .i64 0]) W)
    (H9 : ∀ W, TabD W → Ret 13 #[aggI .u8 xp] (.tuple #[aggI .u8 rk, .int .i64 0]) W)
    (H10 : ∀ W, TabD W → Ret 11 #[aggI .u8 xp, aggI .u8 rk] (.tuple #[aggI .u8 bu0, .int .i64 0]) W) :
    Calls Tryd.prog 6 #[aggI .u8 xp, aggI .u8 xq, aggI .u8 xr] w fun e w' => e = .returned (.bool true) ∧ Below w.heap.size w w' := by
  go_enter Tryd.func6, Tryd.ntmps6
  go_wp2_with (first
      | (with_reducible refine at_n 3 ?_; refine wpList_boxI rfl 22 _ rfl .u8 xp rfl ?_; intro w1 A3 s1 b1; have BB := b1; have y1 := BB.size)
      | (with_reducible refine at_n 4 ?_; refine wpList_boxI rfl 22 _ rfl .u8 xq rfl ?_; intro w2 A4 s2 b2; have q2_3 := A3.lt; replace A3 := A3.below b2; replace BB := below_then BB b2; have y2 := BB.size)
      | (with_reducible refine at_n 5 ?_; refine wpList_boxI rfl 22 _ rfl .u8 xr rfl ?_; intro w3 A5 s3 b3; have q3_3 := A3.lt; have q3_4 := A4.lt; replace A3 := A3.below b3; replace A4 := A4.below b3; replace BB := below_then BB b3; have y3 := BB.size)
      | (with_reducible refine at_n 27 ?_; refine wpList_val' (fun R hR => Does.loadM rfl 22 _ rfl 32 _ und_a32 rfl info_a32 (w.heap.size) 0 rfl .u8 (xp) (A3) (by omega) (sl_all l_xp) hR) ?_)
      | (with_reducible refine at_n 31 ?_; refine wpList_val' (fun R hR => Does.loadM rfl 22 _ rfl 32 _ und_a32 rfl info_a32 (w1.heap.size) 0 rfl .u8 (xq) (A4) (by omega) (sl_all l_xq) hR) ?_)
      | (with_reducible refine at_n 36 ?_; refine wpList_val' (fun R hR => Does.loadM rfl 22 _ rfl 32 _ und_a32 rfl info_a32 (w2.heap.size) 0 rfl .u8 (xr) (A5) (by omega) (sl_all l_xr) hR) ?_)
      | (with_reducible refine at_n 59 ?_; refine wpList_val' (fun R hR => Does.loadM rfl 22 _ rfl 32 _ und_a32 rfl info_a32 (w.heap.size) 0 rfl .u8 (xp) (A3) (by omega) (sl_all l_xp) hR) ?_)
      | (with_reducible refine at_n 60 ?_; refine wpList_val' (fun R hR => Does.loadM rfl 22 _ rfl 32 _ und_a32 rfl info_a32 (w1.heap.size) 0 rfl .u8 (xq) (A4) (by omega) (sl_all l_xq) hR) ?_)
      | (with_reducible refine at_n 11 ?_; refine wpList_allocI rfl 22 rfl .u8 32 zero_a32 ?_; intro w9 A11 s9 b9; have q9_3 := A3.lt; have q9_4 := A4.lt; have q9_5 := A5.lt; replace A3 := A3.below b9; replace A4 := A4.below b9; replace A5 := A5.below b9; replace BB := below_then BB b9; have y9 := BB.size)
      | (with_reducible refine at_op (o := ⟨_, .store 22 (.tmp 11) _, _, _, _, _⟩) ?_; refine wpList_storeI rfl 22 _ _ rfl 32 info_a32 (w8.heap.size) rfl .u8 _ (ra) rfl (A11) (rfl) (l_ra) ?_; intro D10; replace A3 := A3.rowOther (B' := w8.heap.size) (by omega) ((ra).map (Value.int .u8)).toArray; replace A4 := A4.rowOther (B' := w8.heap.size) (by omega) ((ra).map (Value.int .u8)).toArray; replace A5 := A5.rowOther (B' := w8.heap.size) (by omega) ((ra).map (Value.int .u8)).toArray; replace BB := Below.setRow BB (g := w8.heap.size) (by omega) ((ra).map (Value.int .u8)).toArray; clear A11; have A11 := D10)
      | (with_reducible refine at_n 65 ?_; refine wpList_val' (fun R hR => Does.loadM rfl 22 _ rfl 32 _ und_a32 rfl info_a32 (w1.heap.size) 0 rfl .u8 (xq) (A4) (by omega) (sl_all l_xq) hR) ?_)
      | (with_reducible refine at_n 66 ?_; refine wpList_val' (fun R hR => Does.loadM rfl 22 _ rfl 32 _ und_a32 rfl info_a32 (w.heap.size) 0 rfl .u8 (xp) (A3) (by omega) (sl_all l_xp) hR) ?_)
      | (with_reducible refine at_n 13 ?_; refine wpList_allocI rfl 22 rfl .u8 32 zero_a32 ?_; intro w12 A13 s12 b12; have q12_3 := A3.lt; have q12_4 := A4.lt; have q12_5 := A5.lt; have q12_11 := A11.lt; replace A3 := A3.below b12; replace A4 := A4.below b12; replace A5 := A5.below b12; replace A11 := A11.below b12; replace BB := below_then BB b12; have y12 := BB.size)
      | (with_reducible refine at_op (o := ⟨_, .store 22 (.tmp 13) _, _, _, _, _⟩) ?_; refine wpList_storeI rfl 22 _ _ rfl 32 info_a32 (w11.heap.size) rfl .u8 _ (ra) rfl (A13) (rfl) (l_ra) ?_; intro D13; replace A3 := A3.rowOther (B' := w11.heap.size) (by omega) ((ra).map (Value.int .u8)).toArray; replace A4 := A4.rowOther (B' := w11.heap.size) (by omega) ((ra).map (Value.int .u8)).toArray; replace A5 := A5.rowOther (B' := w11.heap.size) (by omega) ((ra).map (Value.int .u8)).toArray; replace A11 := A11.rowOther (B' := w11.heap.size) (by omega) ((ra).map (Value.int .u8)).toArray; replace BB := Below.setRow BB (g := w11.heap.size) (by omega) ((ra).map (Value.int .u8)).toArray; clear A13; have A13 := D13)
      | (with_reducible refine at_n 71 ?_; refine wpList_val' (fun R hR => Does.loadM rfl 22 _ rfl 32 _ und_a32 rfl info_a32 (w8.heap.size) 0 rfl .u8 (ra) (A11) (by omega) (sl_all l_ra) hR) ?_)
      | (with_reducible refine at_n 72 ?_; refine wpList_val' (fun R hR => Does.loadM rfl 22 _ rfl 32 _ und_a32 rfl info_a32 (w2.heap.size) 0 rfl .u8 (xr) (A5) (by omega) (sl_all l_xr) hR) ?_)
      | (with_reducible refine at_n 15 ?_; refine wpList_allocI rfl 22 rfl .u8 32 zero_a32 ?_; intro w15 A15 s15 b15; have q15_3 := A3.lt; have q15_4 := A4.lt; have q15_5 := A5.lt; have q15_11 := A11.lt; have q15_13 := A13.lt; replace A3 := A3.below b15; replace A4 := A4.below b15; replace A5 := A5.below b15; replace A11 := A11.below b15; replace A13 := A13.below b15; replace BB := below_then BB b15; have y15 := BB.size)
      | (with_reducible refine at_op (o := ⟨_, .store 22 (.tmp 15) _, _, _, _, _⟩) ?_; refine wpList_storeI rfl 22 _ _ rfl 32 info_a32 (w14.heap.size) rfl .u8 _ (rc) rfl (A15) (rfl) (l_rc) ?_; intro D16; replace A3 := A3.rowOther (B' := w14.heap.size) (by omega) ((rc).map (Value.int .u8)).toArray; replace A4 := A4.rowOther (B' := w14.heap.size) (by omega) ((rc).map (Value.int .u8)).toArray; replace A5 := A5.rowOther (B' := w14.heap.size) (by omega) ((rc).map (Value.int .u8)).toArray; replace A11 := A11.rowOther (B' := w14.heap.size) (by omega) ((rc).map (Value.int .u8)).toArray; replace A13 := A13.rowOther (B' := w14.heap.size) (by omega) ((rc).map (Value.int .u8)).toArray; replace BB := Below.setRow BB (g := w14.heap.size) (by omega) ((rc).map (Value.int .u8)).toArray; clear A15; have A15 := D16)
      | (with_reducible refine at_n 77 ?_; refine wpList_val' (fun R hR => Does.loadM rfl 22 _ rfl 32 _ und_a32 rfl info_a32 (w1.heap.size) 0 rfl .u8 (xq) (A4) (by omega) (sl_all l_xq) hR) ?_)
      | (with_reducible refine at_n 78 ?_; refine wpList_val' (fun R hR => Does.loadM rfl 22 _ rfl 32 _ und_a32 rfl info_a32 (w2.heap.size) 0 rfl .u8 (xr) (A5) (by omega) (sl_all l_xr) hR) ?_)
      | (with_reducible refine at_n 17 ?_; refine wpList_allocI rfl 22 rfl .u8 32 zero_a32 ?_; intro w18 A17 s18 b18; have q18_3 := A3.lt; have q18_4 := A4.lt; have q18_5 := A5.lt; have q18_11 := A11.lt; have q18_13 := A13.lt; have q18_15 := A15.lt; replace A3 := A3.below b18; replace A4 := A4.below b18; replace A5 := A5.below b18; replace A11 := A11.below b18; replace A13 := A13.below b18; replace A15 := A15.below b18; replace BB := below_then BB b18; have y18 := BB.size)
      | (with_reducible refine at_op (o := ⟨_, .store 22 (.tmp 17) _, _, _, _, _⟩) ?_; refine wpList_storeI rfl 22 _ _ rfl 32 info_a32 (w17.heap.size) rfl .u8 _ (rd) rfl (A17) (rfl) (l_rd) ?_; intro D19; replace A3 := A3.rowOther (B' := w17.heap.size) (by omega) ((rd).map (Value.int .u8)).toArray; replace A4 := A4.rowOther (B' := w17.heap.size) (by omega) ((rd).map (Value.int .u8)).toArray; replace A5 := A5.rowOther (B' := w17.heap.size) (by omega) ((rd).map (Value.int .u8)).toArray; replace A11 := A11.rowOther (B' := w17.heap.size) (by omega) ((rd).map (Value.int .u8)).toArray; replace A13 := A13.rowOther (B' := w17.heap.size) (by omega) ((rd).map (Value.int .u8)).toArray; replace A15 := A15.rowOther (B' := w17.heap.size) (by omega) ((rd).map (Value.int .u8)).toArray; replace BB := Below.setRow BB (g := w17.heap.size) (by omega) ((rd).map (Value.int .u8)).toArray; clear A17; have A17 := D19)
      | (with_reducible refine at_n 83 ?_; refine wpList_val' (fun R hR => Does.loadM rfl 22 _ rfl 32 _ und_a32 rfl info_a32 (w.heap.size) 0 rfl .u8 (xp) (A3) (by omega) (sl_all l_xp) hR) ?_)
      | (with_reducible refine at_n 84 ?_; refine wpList_val' (fun R hR => Does.loadM rfl 22 _ rfl 32 _ und_a32 rfl info_a32 (w17.heap.size) 0 rfl .u8 (rd) (A17) (by omega) (sl_all l_rd) hR) ?_)
      | (with_reducible refine at_n 19 ?_; refine wpList_allocI rfl 22 rfl .u8 32 zero_a32 ?_; intro w21 A19 s21 b21; have q21_3 := A3.lt; have q21_4 := A4.lt; have q21_5 := A5.lt; have q21_11 := A11.lt; have q21_13 := A13.lt; have q21_15 := A15.lt; have q21_17 := A17.lt; replace A3 := A3.below b21; replace A4 := A4.below b21; replace A5 := A5.below b21; replace A11 := A11.below b21; replace A13 := A13.below b21; replace A15 := A15.below b21; replace A17 := A17.below b21; replace BB := below_then BB b21; have y21 := BB.size)
      | (with_reducible refine at_op (o := ⟨_, .store 22 (.tmp 19) _, _, _, _, _⟩) ?_; refine wpList_storeI rfl 22 _ _ rfl 32 info_a32 (w20.heap.size) rfl .u8 _ (rc) rfl (A19) (rfl) (l_rc) ?_; intro D22; replace A3 := A3.rowOther (B' := w20.heap.size) (by omega) ((rc).map (Value.int .u8)).toArray; replace A4 := A4.rowOther (B' := w20.heap.size) (by omega) ((rc).map (Value.int .u8)).toArray; replace A5 := A5.rowOther (B' := w20.heap.size) (by omega) ((rc).map (Value.int .u8)).toArray; replace A11 := A11.rowOther (B' := w20.heap.size) (by omega) ((rc).map (Value.int .u8)).toArray; replace A13 := A13.rowOther (B' := w20.heap.size) (by omega) ((rc).map (Value.int .u8)).toArray; replace A15 := A15.rowOther (B' := w20.heap.size) (by omega) ((rc).map (Value.int .u8)).toArray; replace A17 := A17.rowOther (B' := w20.heap.size) (by omega) ((rc).map (Value.int .u8)).toArray; replace BB := Below.setRow BB (g := w20.heap.size) (by omega) ((rc).map (Value.int .u8)).toArray; clear A19; have A19 := D22)
      | (with_reducible refine at_n 89 ?_; refine wpList_val' (fun R hR => Does.loadM rfl 22 _ rfl 32 _ und_a32 rfl info_a32 (w.heap.size) 0 rfl .u8 (xp) (A3) (by omega) (sl_all l_xp) hR) ?_)
      | (with_reducible refine at_n 21 ?_; refine wpList_allocI rfl 22 rfl .u8 32 zero_a32 ?_; intro w24 A21 s24 b24; have q24_3 := A3.lt; have q24_4 := A4.lt; have q24_5 := A5.lt; have q24_11 := A11.lt; have q24_13 := A13.lt; have q24_15 := A15.lt; have q24_17 := A17.lt; have q24_19 := A19.lt; replace A3 := A3.below b24; replace A4 := A4.below b24; replace A5 := A5.below b24; replace A11 := A11.below b24; replace A13 := A13.below b24; replace A15 := A15.below b24; replace A17 := A17.below b24; replace A19 := A19.below b24; replace BB := below_then BB b24; have y24 := BB.size)
      | (with_reducible refine at_op (o := ⟨_, .store 22 (.tmp 21) _, _, _, _, _⟩) ?_; refine wpList_storeI rfl 22 _ _ rfl 32 info_a32 (w23.heap.size) rfl .u8 _ (rk) rfl (A21) (rfl) (l_rk) ?_; intro D25; replace A3 := A3.rowOther (B' := w23.heap.size) (by omega) ((rk).map (Value.int .u8)).toArray; replace A4 := A4.rowOther (B' := w23.heap.size) (by omega) ((rk).map (Value.int .u8)).toArray; replace A5 := A5.rowOther (B' := w23.heap.size) (by omega) ((rk).map (Value.int .u8)).toArray; replace A11 := A11.rowOther (B' := w23.heap.size) (by omega) ((rk).map (Value.int .u8)).toArray; replace A13 := A13.rowOther (B' := w23.heap.size) (by omega) ((rk).map (Value.int .u8)).toArray; replace A15 := A15.rowOther (B' := w23.heap.size) (by omega) ((rk).map (Value.int .u8)).toArray; replace A17 := A17.rowOther (B' := w23.heap.size) (by omega) ((rk).map (Value.int .u8)).toArray; replace A19 := A19.rowOther (B' := w23.heap.size) (by omega) ((rk).map (Value.int .u8)).toArray; replace BB := Below.setRow BB (g := w23.heap.size) (by omega) ((rk).map (Value.int .u8)).toArray; clear A21; have A21 := D25)
      | (with_reducible refine at_n 94 ?_; refine wpList_val' (fun R hR => Does.loadM rfl 22 _ rfl 32 _ und_a32 rfl info_a32 (w.heap.size) 0 rfl .u8 (xp) (A3) (by omega) (sl_all l_xp) hR) ?_)
      | (with_reducible refine at_n 95 ?_; refine wpList_val' (fun R hR => Does.loadM rfl 22 _ rfl 32 _ und_a32 rfl info_a32 (w23.heap.size) 0 rfl .u8 (rk) (A21) (by omega) (sl_all l_rk) hR) ?_)
      | (with_reducible refine at_n 23 ?_; refine wpList_allocI rfl 22 rfl .u8 32 zero_a32 ?_; intro w27 A23 s27 b27; have q27_3 := A3.lt; have q27_4 := A4.lt; have q27_5 := A5.lt; have q27_11 := A11.lt; have q27_13 := A13.lt; have q27_15 := A15.lt; have q27_17 := A17.lt; have q27_19 := A19.lt; have q27_21 := A21.lt; replace A3 := A3.below b27; replace A4 := A4.below b27; replace A5 := A5.below b27; replace A11 := A11.below b27; replace A13 := A13.below b27; replace A15 := A15.below b27; replace A17 := A17.below b27; replace A19 := A19.below b27; replace A21 := A21.below b27; replace BB := below_then BB b27; have y27 := BB.size)
      | (with_reducible refine at_op (o := ⟨_, .store 22 (.tmp 23) _, _, _, _, _⟩) ?_; refine wpList_storeI rfl 22 _ _ rfl 32 info_a32 (w26.heap.size) rfl .u8 _ (bu0) rfl (A23) (rfl) (l_bu0) ?_; intro D28; replace A3 := A3.rowOther (B' := w26.heap.size) (by omega) ((bu0).map (Value.int .u8)).toArray; replace A4 := A4.rowOther (B' := w26.heap.size) (by omega) ((bu0).map (Value.int .u8)).toArray; replace A5 := A5.rowOther (B' := w26.heap.size) (by omega) ((bu0).map (Value.int .u8)).toArray; replace A11 := A11.rowOther (B' := w26.heap.size) (by omega) ((bu0).map (Value.int .u8)).toArray; replace A13 := A13.rowOther (B' := w26.heap.size) (by omega) ((bu0).map (Value.int .u8)).toArray; replace A15 := A15.rowOther (B' := w26.heap.size) (by omega) ((bu0).map (Value.int .u8)).toArray; replace A17 := A17.rowOther (B' := w26.heap.size) (by omega) ((bu0).map (Value.int .u8)).toArray; replace A19 := A19.rowOther (B' := w26.heap.size) (by omega) ((bu0).map (Value.int .u8)).toArray; replace A21 := A21.rowOther (B' := w26.heap.size) (by omega) ((bu0).map (Value.int .u8)).toArray; replace BB := Below.setRow BB (g := w26.heap.size) (by omega) ((bu0).map (Value.int .u8)).toArray; clear A23; have A23 := D28)
      | (with_reducible refine at_n 126 ?_; refine wpList_val' (fun R hR => Does.loadM rfl 22 _ rfl 32 _ und_a32 rfl info_a32 (w8.heap.size) 0 rfl .u8 (ra) (A11) (by omega) (sl_all l_ra) hR) ?_)
      | (with_reducible refine at_n 127 ?_; refine wpList_val' (fun R hR => Does.loadM rfl 22 _ rfl 32 _ und_a32 rfl info_a32 (w11.heap.size) 0 rfl .u8 (ra) (A13) (by omega) (sl_all l_ra) hR) ?_)
      | (with_reducible refine at_n 128 ?_; refine wpList_val' (fun R hR => Does.eqlI rfl 22 _ 5 _ _ rfl 32 und_a32 .u8 .u8 Tryd.underlying5 (by kernel_rfl) (by kernel_rfl) (ra) (ra) rfl rfl (l_ra) (l_ra) true (by simp) hR) ?_)
      | (with_reducible refine at_n 131 ?_; refine wpList_val' (fun R hR => Does.loadM rfl 22 _ rfl 32 _ und_a32 rfl info_a32 (w14.heap.size) 0 rfl .u8 (rc) (A15) (by omega) (sl_all l_rc) hR) ?_)
      | (with_reducible refine at_n 132 ?_; refine wpList_val' (fun R hR => Does.loadM rfl 22 _ rfl 32 _ und_a32 rfl info_a32 (w20.heap.size) 0 rfl .u8 (rc) (A19) (by omega) (sl_all l_rc) hR) ?_)
      | (with_reducible refine at_n 133 ?_; refine wpList_val' (fun R hR => Does.eqlI rfl 22 _ 5 _ _ rfl 32 und_a32 .u8 .u8 Tryd.underlying5 (by kernel_rfl) (by kernel_rfl) (rc) (rc) rfl rfl (l_rc) (l_rc) true (by simp) hR) ?_)
      | (with_reducible refine at_n 136 ?_; refine wpList_val' (fun R hR => Does.loadM rfl 22 _ rfl 32 _ und_a32 rfl info_a32 (w26.heap.size) 0 rfl .u8 (bu0) (A23) (by omega) (sl_all l_bu0) hR) ?_)
      | (with_reducible refine at_n 137 ?_; go_loud (refine wpList_val' (fun R hR => Does.buildI rfl 22 _ rfl .u8 (bu0) _ (hbu0) rfl hR) ?_))
      | (with_reducible refine at_n 138 ?_; refine wpList_val' (fun R hR => Does.eqlI rfl 22 _ 5 _ _ rfl 32 und_a32 .u8 .u8 Tryd.underlying5 (by kernel_rfl) (by kernel_rfl) (bu0) (bu0) rfl rfl (l_bu0) (l_bu0) true (by simp) hR) ?_)
      | (go_at_call 10; first | ((with_reducible refine (H0 _ (hT.below BB)).mono ?_); rintro e w4 ⟨rfl, b4⟩; replace A3 := A3.below b4; replace A4 := A4.below b4; replace A5 := A5.below b4; replace BB := below_then BB b4; have z4 := BB.size))
      | (go_at_call 15; first | ((with_reducible refine (H1 _ (hT.below BB)).mono ?_); rintro e w5 ⟨rfl, b5⟩; replace A3 := A3.below b5; replace A4 := A4.below b5; replace A5 := A5.below b5; replace BB := below_then BB b5; have z5 := BB.size) | ((with_reducible refine (H2 _ (hT.below BB)).mono ?_); rintro e w6 ⟨rfl, b6⟩; replace A3 := A3.below b6; replace A4 := A4.below b6; replace A5 := A5.below b6; replace BB := below_then BB b6; have z6 := BB.size) | ((with_reducible refine (H3 _ (hT.below BB)).mono ?_); rintro e w7 ⟨rfl, b7⟩; replace A3 := A3.below b7; replace A4 := A4.below b7; replace A5 := A5.below b7; replace BB := below_then BB b7; have z7 := BB.size))
      | (go_at_call 11; first | ((with_reducible refine (H4 _ (hT.below BB)).mono ?_); rintro e w8 ⟨rfl, b8⟩; replace A3 := A3.below b8; replace A4 := A4.below b8; replace A5 := A5.below b8; replace BB := below_then BB b8; have z8 := BB.size) | ((with_reducible refine (H5 _ (hT.below BB)).mono ?_); rintro e w11 ⟨rfl, b11⟩; replace A3 := A3.below b11; replace A4 := A4.below b11; replace A5 := A5.below b11; replace A11 := A11.below b11; replace BB := below_then BB b11; have z11 := BB.size) | ((with_reducible refine (H6 _ (hT.below BB)).mono ?_); rintro e w14 ⟨rfl, b14⟩; replace A3 := A3.below b14; replace A4 := A4.below b14; replace A5 := A5.below b14; replace A11 := A11.below b14; replace A13 := A13.below b14; replace BB := below_then BB b14; have z14 := BB.size) | ((with_reducible refine (H7 _ (hT.below BB)).mono ?_); rintro e w17 ⟨rfl, b17⟩; replace A3 := A3.below b17; replace A4 := A4.below b17; replace A5 := A5.below b17; replace A11 := A11.below b17; replace A13 := A13.below b17; replace A15 := A15.below b17; replace BB := below_then BB b17; have z17 := BB.size) | ((with_reducible refine (H8 _ (hT.below BB)).mono ?_); rintro e w20 ⟨rfl, b20⟩; replace A3 := A3.below b20; replace A4 := A4.below b20; replace A5 := A5.below b20; replace A11 := A11.below b20; replace A13 := A13.below b20; replace A15 := A15.below b20; replace A17 := A17.below b20; replace BB := below_then BB b20; have z20 := BB.size) | ((with_reducible refine (H10 _ (hT.below BB)).mono ?_); rintro e w26 ⟨rfl, b26⟩; replace A3 := A3.below b26; replace A4 := A4.below b26; replace A5 := A5.below b26; replace A11 := A11.below b26; replace A13 := A13.below b26; replace A15 := A15.below b26; replace A17 := A17.below b26; replace A19 := A19.below b26; replace A21 := A21.below b26; replace BB := below_then BB b26; have z26 := BB.size))
      | (go_at_call 13; first | ((with_reducible refine (H9 _ (hT.below BB)).mono ?_); rintro e w23 ⟨rfl, b23⟩; replace A3 := A3.below b23; replace A4 := A4.below b23; replace A5 := A5.below b23; replace A11 := A11.below b23; replace A13 := A13.below b23; replace A15 := A15.below b23; replace A17 := A17.below b23; replace A19 := A19.below b23; replace BB := below_then BB b23; have z23 := BB.size)))
  go_ret
  exact ⟨rfl, BB⟩
set_option maxHeartbeats 4000000 in
theorem group_f0 (xp xq xr ra rb : List Int) (fc : Int) (w : World) (hT : TabD w)
    (l_xp : xp.length = 32) (l_xq : xq.length = 32) (l_xr : xr.length = 32) (l_ra : ra.length = 32) (l_rb : rb.length = 32)
    (H0 : ∀ W, TabD W → Ret 10 #[] (.bool true) W)
    (H1 : ∀ W, TabD W → Ret 15 #[aggI .u8 xp] (.bool false) W)
    (H2 : ∀ W, TabD W → Ret 11 #[aggI .u8 xp, aggI .u8 xq] (.tuple #[aggI .u8 ra, .int .i64 1]) W)
    (H3 : ∀ W, TabD W → Ret 11 #[aggI .u8 xq, aggI .u8 xr] (.tuple #[aggI .u8 rb, .int .i64 fc]) W) :
    Calls Tryd.prog 6 #[aggI .u8 xp, aggI .u8 xq, aggI .u8 xr] w fun e w' => e = .returned (.bool true) ∧ Below w.heap.size w w' := by
  go_enter Tryd.func6, Tryd.ntmps6
  go_wp2_with (first
      | (with_reducible refine at_n 3 ?_; refine wpList_boxI rfl 22 _ rfl .u8 xp rfl ?_; intro w1 A3 s1 b1; have BB := b1; have y1 := BB.size)
      | (with_reducible refine at_n 4 ?_; refine wpList_boxI rfl 22 _ rfl .u8 xq rfl ?_; intro w2 A4 s2 b2; have q2_3 := A3.lt; replace A3 := A3.below b2; replace BB := below_then BB b2; have y2 := BB.size)
      | (with_reducible refine at_n 5 ?_; refine wpList_boxI rfl 22 _ rfl .u8 xr rfl ?_; intro w3 A5 s3 b3; have q3_3 := A3.lt; have q3_4 := A4.lt; replace A3 := A3.below b3; replace A4 := A4.below b3; replace BB := below_then BB b3; have y3 := BB.size)
      | (with_reducible refine at_n 27 ?_; refine wpList_val' (fun R hR => Does.loadM rfl 22 _ rfl 32 _ und_a32 rfl info_a32 (w.heap.size) 0 rfl .u8 (xp) (A3) (by omega) (sl_all l_xp) hR) ?_)
      | (with_reducible refine at_n 41 ?_; refine wpList_val' (fun R hR => Does.loadM rfl 22 _ rfl 32 _ und_a32 rfl info_a32 (w.heap.size) 0 rfl .u8 (xp) (A3) (by omega) (sl_all l_xp) hR) ?_)
      | (with_reducible refine at_n 42 ?_; refine wpList_val' (fun R hR => Does.loadM rfl 22 _ rfl 32 _ und_a32 rfl info_a32 (w1.heap.size) 0 rfl .u8 (xq) (A4) (by omega) (sl_all l_xq) hR) ?_)
      | (with_reducible refine at_n 7 ?_; refine wpList_allocI rfl 22 rfl .u8 32 zero_a32 ?_; intro w7 A7 s7 b7; have q7_3 := A3.lt; have q7_4 := A4.lt; have q7_5 := A5.lt; replace A3 := A3.below b7; replace A4 := A4.below b7; replace A5 := A5.below b7; replace BB := below_then BB b7; have y7 := BB.size)
      | (with_reducible refine at_op (o := ⟨_, .store 22 (.tmp 7) _, _, _, _, _⟩) ?_; refine wpList_storeI rfl 22 _ _ rfl 32 info_a32 (w6.heap.size) rfl .u8 _ (ra) rfl (A7) (rfl) (l_ra) ?_; intro D8; replace A3 := A3.rowOther (B' := w6.heap.size) (by omega) ((ra).map (Value.int .u8)).toArray; replace A4 := A4.rowOther (B' := w6.heap.size) (by omega) ((ra).map (Value.int .u8)).toArray; replace A5 := A5.rowOther (B' := w6.heap.size) (by omega) ((ra).map (Value.int .u8)).toArray; replace BB := Below.setRow BB (g := w6.heap.size) (by omega) ((ra).map (Value.int .u8)).toArray; clear A7; have A7 := D8)
      | (with_reducible refine at_n 47 ?_; refine wpList_val' (fun R hR => Does.loadM rfl 22 _ rfl 32 _ und_a32 rfl info_a32 (w1.heap.size) 0 rfl .u8 (xq) (A4) (by omega) (sl_all l_xq) hR) ?_)
      | (with_reducible refine at_n 48 ?_; refine wpList_val' (fun R hR => Does.loadM rfl 22 _ rfl 32 _ und_a32 rfl info_a32 (w2.heap.size) 0 rfl .u8 (xr) (A5) (by omega) (sl_all l_xr) hR) ?_)
      | (with_reducible refine at_n 9 ?_; refine wpList_allocI rfl 22 rfl .u8 32 zero_a32 ?_; intro w10 A9 s10 b10; have q10_3 := A3.lt; have q10_4 := A4.lt; have q10_5 := A5.lt; have q10_7 := A7.lt; replace A3 := A3.below b10; replace A4 := A4.below b10; replace A5 := A5.below b10; replace A7 := A7.below b10; replace BB := below_then BB b10; have y10 := BB.size)
      | (with_reducible refine at_op (o := ⟨_, .store 22 (.tmp 9) _, _, _, _, _⟩) ?_; refine wpList_storeI rfl 22 _ _ rfl 32 info_a32 (w9.heap.size) rfl .u8 _ (rb) rfl (A9) (rfl) (l_rb) ?_; intro D11; replace A3 := A3.rowOther (B' := w9.heap.size) (by omega) ((rb).map (Value.int .u8)).toArray; replace A4 := A4.rowOther (B' := w9.heap.size) (by omega) ((rb).map (Value.int .u8)).toArray; replace A5 := A5.rowOther (B' := w9.heap.size) (by omega) ((rb).map (Value.int .u8)).toArray; replace A7 := A7.rowOther (B' := w9.heap.size) (by omega) ((rb).map (Value.int .u8)).toArray; replace BB := Below.setRow BB (g := w9.heap.size) (by omega) ((rb).map (Value.int .u8)).toArray; clear A9; have A9 := D11)
      | (go_at_call 10; first | ((with_reducible refine (H0 _ (hT.below BB)).mono ?_); rintro e w4 ⟨rfl, b4⟩; replace A3 := A3.below b4; replace A4 := A4.below b4; replace A5 := A5.below b4; replace BB := below_then BB b4; have z4 := BB.size))
      | (go_at_call 15; first | ((with_reducible refine (H1 _ (hT.below BB)).mono ?_); rintro e w5 ⟨rfl, b5⟩; replace A3 := A3.below b5; replace A4 := A4.below b5; replace A5 := A5.below b5; replace BB := below_then BB b5; have z5 := BB.size))
      | (go_at_call 11; first | ((with_reducible refine (H2 _ (hT.below BB)).mono ?_); rintro e w6 ⟨rfl, b6⟩; replace A3 := A3.below b6; replace A4 := A4.below b6; replace A5 := A5.below b6; replace BB := below_then BB b6; have z6 := BB.size) | ((with_reducible refine (H3 _ (hT.below BB)).mono ?_); rintro e w9 ⟨rfl, b9⟩; replace A3 := A3.below b9; replace A4 := A4.below b9; replace A5 := A5.below b9; replace A7 := A7.below b9; replace BB := below_then BB b9; have z9 := BB.size)))
  go_ret
  exact ⟨rfl, BB⟩
set_option maxHeartbeats 4000000 in
theorem group_f1 (xp xq xr ra rb : List Int) (fc : Int) (w : World) (hT : TabD w)
    (l_xp : xp.length = 32) (l_xq : xq.length = 32) (l_xr : xr.length = 32) (l_ra : ra.length = 32) (l_rb : rb.length = 32)
    (H0 : ∀ W, TabD W → Ret 10 #[] (.bool true) W)
    (H1 : ∀ W, TabD W → Ret 15 #[aggI .u8 xp] (.bool true) W)
    (H2 : ∀ W, TabD W → Ret 15 #[aggI .u8 xq] (.bool false) W)
    (H3 : ∀ W, TabD W → Ret 11 #[aggI .u8 xp, aggI .u8 xq] (.tuple #[aggI .u8 ra, .int .i64 1]) W)
    (H4 : ∀ W, TabD W → Ret 11 #[aggI .u8 xq, aggI .u8 xr] (.tuple #[aggI .u8 rb, .int .i64 fc]) W) :
    Calls Tryd.prog 6 #[aggI .u8 xp, aggI .u8 xq, aggI .u8 xr] w fun e w' => e = .returned (.bool true) ∧ Below w.heap.size w w' := by
  go_enter Tryd.func6, Tryd.ntmps6
  go_wp2_with (first
      | (with_reducible refine at_n 3 ?_; refine wpList_boxI rfl 22 _ rfl .u8 xp rfl ?_; intro w1 A3 s1 b1; have BB := b1; have y1 := BB.size)
      | (with_reducible refine at_n 4 ?_; refine wpList_boxI rfl 22 _ rfl .u8 xq rfl ?_; intro w2 A4 s2 b2; have q2_3 := A3.lt; replace A3 := A3.below b2; replace BB := below_then BB b2; have y2 := BB.size)
      | (with_reducible refine at_n 5 ?_; refine wpList_boxI rfl 22 _ rfl .u8 xr rfl ?_; intro w3 A5 s3 b3; have q3_3 := A3.lt; have q3_4 := A4.lt; replace A3 := A3.below b3; replace A4 := A4.below b3; replace BB := below_then BB b3; have y3 := BB.size)
      | (with_reducible refine at_n 27 ?_; refine wpList_val' (fun R hR => Does.loadM rfl 22 _ rfl 32 _ und_a32 rfl info_a32 (w.heap.size) 0 rfl .u8 (xp) (A3) (by omega) (sl_all l_xp) hR) ?_)
      | (with_reducible refine at_n 31 ?_; refine wpList_val' (fun R hR => Does.loadM rfl 22 _ rfl 32 _ und_a32 rfl info_a32 (w1.heap.size) 0 rfl .u8 (xq) (A4) (by omega) (sl_all l_xq) hR) ?_)
      | (with_reducible refine at_n 41 ?_; refine wpList_val' (fun R hR => Does.loadM rfl 22 _ rfl 32 _ und_a32 rfl info_a32 (w.heap.size) 0 rfl .u8 (xp) (A3) (by omega) (sl_all l_xp) hR) ?_)
      | (with_reducible refine at_n 42 ?_; refine wpList_val' (fun R hR => Does.loadM rfl 22 _ rfl 32 _ und_a32 rfl info_a32 (w1.heap.size) 0 rfl .u8 (xq) (A4) (by omega) (sl_all l_xq) hR) ?_)
      | (with_reducible refine at_n 7 ?_; refine wpList_allocI rfl 22 rfl .u8 32 zero_a32 ?_; intro w8 A7 s8 b8; have q8_3 := A3.lt; have q8_4 := A4.lt; have q8_5 := A5.lt; replace A3 := A3.below b8; replace A4 := A4.below b8; replace A5 := A5.below b8; replace BB := below_then BB b8; have y8 := BB.size)
      | (with_reducible refine at_op (o := ⟨_, .store 22 (.tmp 7) _, _, _, _, _⟩) ?_; refine wpList_storeI rfl 22 _ _ rfl 32 info_a32 (w7.heap.size) rfl .u8 _ (ra) rfl (A7) (rfl) (l_ra) ?_; intro D9; replace A3 := A3.rowOther (B' := w7.heap.size) (by omega) ((ra).map (Value.int .u8)).toArray; replace A4 := A4.rowOther (B' := w7.heap.size) (by omega) ((ra).map (Value.int .u8)).toArray; replace A5 := A5.rowOther (B' := w7.heap.size) (by omega) ((ra).map (Value.int .u8)).toArray; replace BB := Below.setRow BB (g := w7.heap.size) (by omega) ((ra).map (Value.int .u8)).toArray; clear A7; have A7 := D9)
      | (with_reducible refine at_n 47 ?_; refine wpList_val' (fun R hR => Does.loadM rfl 22 _ rfl 32 _ und_a32 rfl info_a32 (w1.heap.size) 0 rfl .u8 (xq) (A4) (by omega) (sl_all l_xq) hR) ?_)
      | (with_reducible refine at_n 48 ?_; refine wpList_val' (fun R hR => Does.loadM rfl 22 _ rfl 32 _ und_a32 rfl info_a32 (w2.heap.size) 0 rfl .u8 (xr) (A5) (by omega) (sl_all l_xr) hR) ?_)
      | (with_reducible refine at_n 9 ?_; refine wpList_allocI rfl 22 rfl .u8 32 zero_a32 ?_; intro w11 A9 s11 b11; have q11_3 := A3.lt; have q11_4 := A4.lt; have q11_5 := A5.lt; have q11_7 := A7.lt; replace A3 := A3.below b11; replace A4 := A4.below b11; replace A5 := A5.below b11; replace A7 := A7.below b11; replace BB := below_then BB b11; have y11 := BB.size)
      | (with_reducible refine at_op (o := ⟨_, .store 22 (.tmp 9) _, _, _, _, _⟩) ?_; refine wpList_storeI rfl 22 _ _ rfl 32 info_a32 (w10.heap.size) rfl .u8 _ (rb) rfl (A9) (rfl) (l_rb) ?_; intro D12; replace A3 := A3.rowOther (B' := w10.heap.size) (by omega) ((rb).map (Value.int .u8)).toArray; replace A4 := A4.rowOther (B' := w10.heap.size) (by omega) ((rb).map (Value.int .u8)).toArray; replace A5 := A5.rowOther (B' := w10.heap.size) (by omega) ((rb).map (Value.int .u8)).toArray; replace A7 := A7.rowOther (B' := w10.heap.size) (by omega) ((rb).map (Value.int .u8)).toArray; replace BB := Below.setRow BB (g := w10.heap.size) (by omega) ((rb).map (Value.int .u8)).toArray; clear A9; have A9 := D12)
      | (go_at_call 10; first | ((with_reducible refine (H0 _ (hT.below BB)).mono ?_); rintro e w4 ⟨rfl, b4⟩; replace A3 := A3.below b4; replace A4 := A4.below b4; replace A5 := A5.below b4; replace BB := below_then BB b4; have z4 := BB.size))
      | (go_at_call 15; first | ((with_reducible refine (H1 _ (hT.below BB)).mono ?_); rintro e w5 ⟨rfl, b5⟩; replace A3 := A3.below b5; replace A4 := A4.below b5; replace A5 := A5.below b5; replace BB := below_then BB b5; have z5 := BB.size) | ((with_reducible refine (H2 _ (hT.below BB)).mono ?_); rintro e w6 ⟨rfl, b6⟩; replace A3 := A3.below b6; replace A4 := A4.below b6; replace A5 := A5.below b6; replace BB := below_then BB b6; have z6 := BB.size))
      | (go_at_call 11; first | ((with_reducible refine (H3 _ (hT.below BB)).mono ?_); rintro e w7 ⟨rfl, b7⟩; replace A3 := A3.below b7; replace A4 := A4.below b7; replace A5 := A5.below b7; replace BB := below_then BB b7; have z7 := BB.size) | ((with_reducible refine (H4 _ (hT.below BB)).mono ?_); rintro e w10 ⟨rfl, b10⟩; replace A3 := A3.below b10; replace A4 := A4.below b10; replace A5 := A5.below b10; replace A7 := A7.below b10; replace BB := below_then BB b10; have z10 := BB.size)))
  go_ret
  exact ⟨rfl, BB⟩
set_option maxHeartbeats 4000000 in
theorem group_f2 (xp xq xr ra rb : List Int) (w : World) (hT : TabD w)
    (l_xp : xp.length = 32) (l_xq : xq.length = 32) (l_xr : xr.length = 32) (l_ra : ra.length = 32) (l_rb : rb.length = 32)
    (H0 : ∀ W, TabD W → Ret 10 #[] (.bool true) W)
    (H1 : ∀ W, TabD W → Ret 15 #[aggI .u8 xp] (.bool true) W)
    (H2 : ∀ W, TabD W → Ret 15 #[aggI .u8 xq] (.bool true) W)
    (H3 : ∀ W, TabD W → Ret 15 #[aggI .u8 xr] (.bool false) W)
    (H4 : ∀ W, TabD W → Ret 11 #[aggI .u8 xp, aggI .u8 xq] (.tuple #[aggI .u8 ra, .int .i64 0]) W)
    (H5 : ∀ W, TabD W → Ret 11 #[aggI .u8 xq, aggI .u8 xr] (.tuple #[aggI .u8 rb, .int .i64 1]) W) :
    Calls Tryd.prog 6 #[aggI .u8 xp, aggI .u8 xq, aggI .u8 xr] w fun e w' => e = .returned (.bool true) ∧ Below w.heap.size w w' := by
  go_enter Tryd.func6, Tryd.ntmps6
  go_wp2_with (first
      | (with_reducible refine at_n 3 ?_; refine wpList_boxI rfl 22 _ rfl .u8 xp rfl ?_; intro w1 A3 s1 b1; have BB := b1; have y1 := BB.size)
      | (with_reducible refine at_n 4 ?_; refine wpList_boxI rfl 22 _ rfl .u8 xq rfl ?_; intro w2 A4 s2 b2; have q2_3 := A3.lt; replace A3 := A3.below b2; replace BB := below_then BB b2; have y2 := BB.size)
      | (with_reducible refine at_n 5 ?_; refine wpList_boxI rfl 22 _ rfl .u8 xr rfl ?_; intro w3 A5 s3 b3; have q3_3 := A3.lt; have q3_4 := A4.lt; replace A3 := A3.below b3; replace A4 := A4.below b3; replace BB := below_then BB b3; have y3 := BB.size)
      | (with_reducible refine at_n 27 ?_; refine wpList_val' (fun R hR => Does.loadM rfl 22 _ rfl 32 _ und_a32 rfl info_a32 (w.heap.size) 0 rfl .u8 (xp) (A3) (by omega) (sl_all l_xp) hR) ?_)
      | (with_reducible refine at_n 31 ?_; refine wpList_val' (fun R hR => Does.loadM rfl 22 _ rfl 32 _ und_a32 rfl info_a32 (w1.heap.size) 0 rfl .u8 (xq) (A4) (by omega) (sl_all l_xq) hR) ?_)
      | (with_reducible refine at_n 36 ?_; refine wpList_val' (fun R hR => Does.loadM rfl 22 _ rfl 32 _ und_a32 rfl info_a32 (w2.heap.size) 0 rfl .u8 (xr) (A5) (by omega) (sl_all l_xr) hR) ?_)
      | (with_reducible refine at_n 41 ?_; refine wpList_val' (fun R hR => Does.loadM rfl 22 _ rfl 32 _ und_a32 rfl info_a32 (w.heap.size) 0 rfl .u8 (xp) (A3) (by omega) (sl_all l_xp) hR) ?_)
      | (with_reducible refine at_n 42 ?_; refine wpList_val' (fun R hR => Does.loadM rfl 22 _ rfl 32 _ und_a32 rfl info_a32 (w1.heap.size) 0 rfl .u8 (xq) (A4) (by omega) (sl_all l_xq) hR) ?_)
      | (with_reducible refine at_n 7 ?_; refine wpList_allocI rfl 22 rfl .u8 32 zero_a32 ?_; intro w9 A7 s9 b9; have q9_3 := A3.lt; have q9_4 := A4.lt; have q9_5 := A5.lt; replace A3 := A3.below b9; replace A4 := A4.below b9; replace A5 := A5.below b9; replace BB := below_then BB b9; have y9 := BB.size)
      | (with_reducible refine at_op (o := ⟨_, .store 22 (.tmp 7) _, _, _, _, _⟩) ?_; refine wpList_storeI rfl 22 _ _ rfl 32 info_a32 (w8.heap.size) rfl .u8 _ (ra) rfl (A7) (rfl) (l_ra) ?_; intro D10; replace A3 := A3.rowOther (B' := w8.heap.size) (by omega) ((ra).map (Value.int .u8)).toArray; replace A4 := A4.rowOther (B' := w8.heap.size) (by omega) ((ra).map (Value.int .u8)).toArray; replace A5 := A5.rowOther (B' := w8.heap.size) (by omega) ((ra).map (Value.int .u8)).toArray; replace BB := Below.setRow BB (g := w8.heap.size) (by omega) ((ra).map (Value.int .u8)).toArray; clear A7; have A7 := D10)
      | (with_reducible refine at_n 47 ?_; refine wpList_val' (fun R hR => Does.loadM rfl 22 _ rfl 32 _ und_a32 rfl info_a32 (w1.heap.size) 0 rfl .u8 (xq) (A4) (by omega) (sl_all l_xq) hR) ?_)
      | (with_reducible refine at_n 48 ?_; refine wpList_val' (fun R hR => Does.loadM rfl 22 _ rfl 32 _ und_a32 rfl info_a32 (w2.heap.size) 0 rfl .u8 (xr) (A5) (by omega) (sl_all l_xr) hR) ?_)
      | (with_reducible refine at_n 9 ?_; refine wpList_allocI rfl 22 rfl .u8 32 zero_a32 ?_; intro w12 A9 s12 b12; have q12_3 := A3.lt; have q12_4 := A4.lt; have q12_5 := A5.lt; have q12_7 := A7.lt; replace A3 := A3.below b12; replace A4 := A4.below b12; replace A5 := A5.below b12; replace A7 := A7.below b12; replace BB := below_then BB b12; have y12 := BB.size)
      | (with_reducible refine at_op (o := ⟨_, .store 22 (.tmp 9) _, _, _, _, _⟩) ?_; refine wpList_storeI rfl 22 _ _ rfl 32 info_a32 (w11.heap.size) rfl .u8 _ (rb) rfl (A9) (rfl) (l_rb) ?_; intro D13; replace A3 := A3.rowOther (B' := w11.heap.size) (by omega) ((rb).map (Value.int .u8)).toArray; replace A4 := A4.rowOther (B' := w11.heap.size) (by omega) ((rb).map (Value.int .u8)).toArray; replace A5 := A5.rowOther (B' := w11.heap.size) (by omega) ((rb).map (Value.int .u8)).toArray; replace A7 := A7.rowOther (B' := w11.heap.size) (by omega) ((rb).map (Value.int .u8)).toArray; replace BB := Below.setRow BB (g := w11.heap.size) (by omega) ((rb).map (Value.int .u8)).toArray; clear A9; have A9 := D13)
      | (go_at_call 10; first | ((with_reducible refine (H0 _ (hT.below BB)).mono ?_); rintro e w4 ⟨rfl, b4⟩; replace A3 := A3.below b4; replace A4 := A4.below b4; replace A5 := A5.below b4; replace BB := below_then BB b4; have z4 := BB.size))
      | (go_at_call 15; first | ((with_reducible refine (H1 _ (hT.below BB)).mono ?_); rintro e w5 ⟨rfl, b5⟩; replace A3 := A3.below b5; replace A4 := A4.below b5; replace A5 := A5.below b5; replace BB := below_then BB b5; have z5 := BB.size) | ((with_reducible refine (H2 _ (hT.below BB)).mono ?_); rintro e w6 ⟨rfl, b6⟩; replace A3 := A3.below b6; replace A4 := A4.below b6; replace A5 := A5.below b6; replace BB := below_then BB b6; have z6 := BB.size) | ((with_reducible refine (H3 _ (hT.below BB)).mono ?_); rintro e w7 ⟨rfl, b7⟩; replace A3 := A3.below b7; replace A4 := A4.below b7; replace A5 := A5.below b7; replace BB := below_then BB b7; have z7 := BB.size))
      | (go_at_call 11; first | ((with_reducible refine (H4 _ (hT.below BB)).mono ?_); rintro e w8 ⟨rfl, b8⟩; replace A3 := A3.below b8; replace A4 := A4.below b8; replace A5 := A5.below b8; replace BB := below_then BB b8; have z8 := BB.size) | ((with_reducible refine (H5 _ (hT.below BB)).mono ?_); rintro e w11 ⟨rfl, b11⟩; replace A3 := A3.below b11; replace A4 := A4.below b11; replace A5 := A5.below b11; replace A7 := A7.below b11; replace BB := below_then BB b11; have z11 := BB.size)))
  go_ret
  exact ⟨rfl, BB⟩
theorem ltimes_v {k a : List Int} (hk : Bytes k) (lk : k.length = 32) (ha : Bytes a) (la : a.length = 32) (w : World) (hT : TabD w) : Calls Tryd.prog 4 #[aggI .u8 k, aggI .u8 a] w fun e w' => e = .returned (.bool true) ∧ Below w.heap.size w w' := by
  by_cases h : IsPt a
  · exact times_l (hT := hT) (l_xk := lk) (l_xa := la) (l_ra := encB_len _) (l_rb := encB_len _) (H0 := alive_v) (H1 := times_yes hk lk ha la h) (H2 := fun W => rtimes_yes hk lk ha la h W) (H3 := base_r hk lk) (H4 := fun W => rbase_r hk lk W)
  · exact times_l (hT := hT) (l_xk := lk) (l_xa := la) (l_ra := z32_len) (l_rb := encB_len _) (H0 := alive_v) (H1 := times_not lk ha la h) (H2 := fun W => rtimes_not lk ha la h W) (H3 := base_r hk lk) (H4 := fun W => rbase_r hk lk W)
theorem lmixes_v {k a c : List Int} (hk : Bytes k) (lk : k.length = 32) (ha : Bytes a) (la : a.length = 32) (hc : Bytes c) (lc : c.length = 32) (w : World) (hT : TabD w) : Calls Tryd.prog 5 #[aggI .u8 k, aggI .u8 a, aggI .u8 c] w fun e w' => e = .returned (.bool true) ∧ Below w.heap.size w w' := by
  by_cases h : IsPt a
  · exact mixes_l (hT := hT) (l_xk := lk) (l_xa := la) (l_xc := lc) (l_ra := encB_len _) (H0 := alive_v) (H1 := mix_yes hk lk ha la hc lc h) (H2 := fun W => rmix_yes hk lk ha la hc lc h W)
  · exact mixes_l (hT := hT) (l_xk := lk) (l_xa := la) (l_xc := lc) (l_ra := z32_len) (H0 := alive_v) (H1 := mix_not lk ha la lc h) (H2 := fun W => rmix_not lk ha la lc h W)
theorem lnegs_v {k a : List Int} (hk : Bytes k) (lk : k.length = 32) (ha : Bytes a) (la : a.length = 32) (w : World) (hT : TabD w) : Calls Tryd.prog 8 #[aggI .u8 k, aggI .u8 a] w fun e w' => e = .returned (.bool true) ∧ Below w.heap.size w w' := by
  by_cases h : IsPt a
  · exact negs_t (hT := hT) (l_xk := lk) (l_xa := la) (l_rn := encB_len _) (l_ra := encB_len _) (l_rb := encB_len _) (H0 := alive_v) (H1 := neg_yes ha la h) (H2 := times_enc hk lk _) (H3 := times_yes hk lk ha la h) (H4 := fun W hW => by rw [smul_neg]; exact neg_enc _ W hW) (H5 := right_yes ha la h)
  · obtain ⟨r1, c1, l1, -, H1⟩ := ptimes_any hk lk zb32 z32_len
    obtain ⟨r2, c2, l2, H2⟩ := pneg_any zb32 z32_len
    exact negs_f (hT := hT) (l_xk := lk) (l_xa := la) (l_rn := z32_len) (l_ra := l1) (l_rb := z32_len) (l_rc := l2) (H0 := alive_v) (H1 := neg_not ha la h) (H2 := H1) (H3 := times_not lk ha la h) (H4 := H2) (H5 := right_not ha la h)
theorem lgroup_v {p q r : List Int} (hp : Bytes p) (lp : p.length = 32) (hq : Bytes q) (lq : q.length = 32) (hr : Bytes r) (lr : r.length = 32) (w : World) (hT : TabD w) : Calls Tryd.prog 6 #[aggI .u8 p, aggI .u8 q, aggI .u8 r] w fun e w' => e = .returned (.bool true) ∧ Below w.heap.size w w' := by
  by_cases h : IsPt p
  · by_cases i : IsPt q
    · by_cases j : IsPt r
      · exact group_t (hT := hT) (l_xp := lp) (l_xq := lq) (l_xr := lr) (l_ra := encB_len _) (l_rc := encB_len _) (l_rd := encB_len _) (l_rk := encB_len _) (l_bu0 := rfl) (hbu0 := built_one) (H0 := alive_v) (H1 := right_yes hp lp h) (H2 := right_yes hq lq i) (H3 := right_yes hr lr j) (H4 := add_yes hp lp hq lq h i) (H5 := fun W hW => by rw [padd_comm]; exact add_yes hq lq hp lp i h W hW) (H6 := add_enc_l _ hr lr j) (H7 := add_yes hq lq hr lr i j) (H8 := fun W hW => by rw [padd_assoc]; exact add_enc_r hp lp h _ W hW) (H9 := neg_yes hp lp h) (H10 := fun W hW => by have k := add_enc_r hp lp h (pneg (ptB p h)) W hW; rw [padd_neg, encB_zero] at k; exact k)
      · exact group_f2 (hT := hT) (l_xp := lp) (l_xq := lq) (l_xr := lr) (l_ra := encB_len _) (l_rb := z32_len) (H0 := alive_v) (H1 := right_yes hp lp h) (H2 := right_yes hq lq i) (H3 := right_not hr lr j) (H4 := add_yes hp lp hq lq h i) (H5 := add_not hq lq hr lr (fun x => j x.2))
    · obtain ⟨r1, c1, l1, H1⟩ := padd_any hq lq hr lr
      exact group_f1 (hT := hT) (l_xp := lp) (l_xq := lq) (l_xr := lr) (l_ra := z32_len) (l_rb := l1) (H0 := alive_v) (H1 := right_yes hp lp h) (H2 := right_not hq lq i) (H3 := add_not hp lp hq lq (fun x => i x.2)) (H4 := H1)
  · obtain ⟨r1, c1, l1, H1⟩ := padd_any hq lq hr lr
    exact group_f0 (hT := hT) (l_xp := lp) (l_xq := lq) (l_xr := lr) (l_ra := z32_len) (l_rb := l1) (H0 := alive_v) (H1 := right_not hp lp h) (H2 := add_not hp lp hq lq (fun x => h x.1)) (H3 := H1)
end Go.Proofs.YtelppapkffjmpaaDoor
