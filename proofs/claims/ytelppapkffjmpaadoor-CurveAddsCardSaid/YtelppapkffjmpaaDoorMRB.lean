/- CurveAdds of layer 10. -/
import Derived.Test.YtelppapkffjmpaaDoorMR
namespace Go.Proofs.YtelppapkffjmpaaDoor
open Go.RowKit Go.Shelf
set_option linter.unusedVariables false
set_option maxRecDepth 8000

set_option maxHeartbeats 4000000 in
theorem adds_tt (xa xb ra rn : List Int) (w : World) (hT : TabD w)
  (l_xa : xa.length = 32) (l_xb : xb.length = 32) (l_ra : ra.length = 32) (l_rn : rn.length = 32)
  (H0 : ∀ W, TabD W → Ret 10 #[] (.bool true) W)
  (H1 : ∀ W, TabD W → Ret 11 #[aggI .u8 xa, aggI .u8 xb] (.tuple #[aggI .u8 ra, .int .i64 0]) W)
  (H2 : ∀ W, Ret 12 #[aggI .u8 xa, aggI .u8 xb] (.tuple #[aggI .u8 ra, .int .i64 0]) W)
  (H3 : ∀ W, TabD W → Ret 13 #[aggI .u8 xa] (.tuple #[aggI .u8 rn, .int .i64 0]) W)
  (H4 : ∀ W, Ret 14 #[aggI .u8 xa] (.tuple #[aggI .u8 rn, .int .i64 0]) W)
  (H5 : ∀ W, TabD W → Ret 15 #[aggI .u8 xa] (.bool true) W)
  (H6 : ∀ W, Ret 16 #[aggI .u8 xa] (.bool true) W) :
  Calls Tryd.prog 3 #[aggI .u8 xa, aggI .u8 xb] w fun e w' => e = .returned (.bool true) ∧ Below w.heap.size w w' := by
 go_enter Tryd.func3, Tryd.ntmps3
 go_wp2_with (first
   | (with_reducible refine at_n 2 ?_; refine wpList_boxI rfl 22 _ rfl .u8 xa rfl ?_; intro w1 A2 s1 b1; have BB := b1; have y1 := BB.size)
   | (with_reducible refine at_n 3 ?_; refine wpList_boxI rfl 22 _ rfl .u8 xb rfl ?_; intro w2 A3 s2 b2; have q2_2 := A2.lt; replace A2 := A2.below b2; replace BB := below_then BB b2; have y2 := BB.size)
   | (with_reducible refine at_n 16 ?_; refine wpList_val' (fun R hR => Does.loadM rfl 22 _ rfl 32 _ und_a32 rfl info_a32 (w.heap.size) 0 rfl .u8 (xa) (A2) (by omega) (sl_all l_xa) hR) ?_)
   | (with_reducible refine at_n 17 ?_; refine wpList_val' (fun R hR => Does.loadM rfl 22 _ rfl 32 _ und_a32 rfl info_a32 (w1.heap.size) 0 rfl .u8 (xb) (A3) (by omega) (sl_all l_xb) hR) ?_)
   | (with_reducible refine at_n 5 ?_; refine wpList_allocI rfl 22 rfl .u8 32 zero_a32 ?_; intro w5 A5 s5 b5; have q5_2 := A2.lt; have q5_3 := A3.lt; replace A2 := A2.below b5; replace A3 := A3.below b5; replace BB := below_then BB b5; have y5 := BB.size)
   | (with_reducible refine at_op (o := ⟨_, .store 22 (.tmp 5) _, _, _, _, _⟩) ?_; refine wpList_storeI rfl 22 _ _ rfl 32 info_a32 (w4.heap.size) rfl .u8 _ (ra) rfl (A5) (rfl) (l_ra) ?_; intro D6; replace A2 := A2.rowOther (B' := w4.heap.size) (by omega) ((ra).map (Value.int .u8)).toArray; replace A3 := A3.rowOther (B' := w4.heap.size) (by omega) ((ra).map (Value.int .u8)).toArray; replace BB := Below.setRow BB (g := w4.heap.size) (by omega) ((ra).map (Value.int .u8)).toArray; clear A5; have A5 := D6)
   | (with_reducible refine at_n 22 ?_; refine wpList_val' (fun R hR => Does.loadM rfl 22 _ rfl 32 _ und_a32 rfl info_a32 (w.heap.size) 0 rfl .u8 (xa) (A2) (by omega) (sl_all l_xa) hR) ?_)
   | (with_reducible refine at_n 23 ?_; refine wpList_val' (fun R hR => Does.loadM rfl 22 _ rfl 32 _ und_a32 rfl info_a32 (w1.heap.size) 0 rfl .u8 (xb) (A3) (by omega) (sl_all l_xb) hR) ?_)
   | (with_reducible refine at_n 7 ?_; refine wpList_allocI rfl 22 rfl .u8 32 zero_a32 ?_; intro w8 A7 s8 b8; have q8_2 := A2.lt; have q8_3 := A3.lt; have q8_5 := A5.lt; replace A2 := A2.below b8; replace A3 := A3.below b8; replace A5 := A5.below b8; replace BB := below_then BB b8; have y8 := BB.size)
   | (with_reducible refine at_op (o := ⟨_, .store 22 (.tmp 7) _, _, _, _, _⟩) ?_; refine wpList_storeI rfl 22 _ _ rfl 32 info_a32 (w7.heap.size) rfl .u8 _ (ra) rfl (A7) (rfl) (l_ra) ?_; intro D9; replace A2 := A2.rowOther (B' := w7.heap.size) (by omega) ((ra).map (Value.int .u8)).toArray; replace A3 := A3.rowOther (B' := w7.heap.size) (by omega) ((ra).map (Value.int .u8)).toArray; replace A5 := A5.rowOther (B' := w7.heap.size) (by omega) ((ra).map (Value.int .u8)).toArray; replace BB := Below.setRow BB (g := w7.heap.size) (by omega) ((ra).map (Value.int .u8)).toArray; clear A7; have A7 := D9)
   | (with_reducible refine at_n 28 ?_; refine wpList_val' (fun R hR => Does.loadM rfl 22 _ rfl 32 _ und_a32 rfl info_a32 (w.heap.size) 0 rfl .u8 (xa) (A2) (by omega) (sl_all l_xa) hR) ?_)
   | (with_reducible refine at_n 9 ?_; refine wpList_allocI rfl 22 rfl .u8 32 zero_a32 ?_; intro w11 A9 s11 b11; have q11_2 := A2.lt; have q11_3 := A3.lt; have q11_5 := A5.lt; have q11_7 := A7.lt; replace A2 := A2.below b11; replace A3 := A3.below b11; replace A5 := A5.below b11; replace A7 := A7.below b11; replace BB := below_then BB b11; have y11 := BB.size)
   | (with_reducible refine at_op (o := ⟨_, .store 22 (.tmp 9) _, _, _, _, _⟩) ?_; refine wpList_storeI rfl 22 _ _ rfl 32 info_a32 (w10.heap.size) rfl .u8 _ (rn) rfl (A9) (rfl) (l_rn) ?_; intro D12; replace A2 := A2.rowOther (B' := w10.heap.size) (by omega) ((rn).map (Value.int .u8)).toArray; replace A3 := A3.rowOther (B' := w10.heap.size) (by omega) ((rn).map (Value.int .u8)).toArray; replace A5 := A5.rowOther (B' := w10.heap.size) (by omega) ((rn).map (Value.int .u8)).toArray; replace A7 := A7.rowOther (B' := w10.heap.size) (by omega) ((rn).map (Value.int .u8)).toArray; replace BB := Below.setRow BB (g := w10.heap.size) (by omega) ((rn).map (Value.int .u8)).toArray; clear A9; have A9 := D12)
   | (with_reducible refine at_n 33 ?_; refine wpList_val' (fun R hR => Does.loadM rfl 22 _ rfl 32 _ und_a32 rfl info_a32 (w.heap.size) 0 rfl .u8 (xa) (A2) (by omega) (sl_all l_xa) hR) ?_)
   | (with_reducible refine at_n 11 ?_; refine wpList_allocI rfl 22 rfl .u8 32 zero_a32 ?_; intro w14 A11 s14 b14; have q14_2 := A2.lt; have q14_3 := A3.lt; have q14_5 := A5.lt; have q14_7 := A7.lt; have q14_9 := A9.lt; replace A2 := A2.below b14; replace A3 := A3.below b14; replace A5 := A5.below b14; replace A7 := A7.below b14; replace A9 := A9.below b14; replace BB := below_then BB b14; have y14 := BB.size)
   | (with_reducible refine at_op (o := ⟨_, .store 22 (.tmp 11) _, _, _, _, _⟩) ?_; refine wpList_storeI rfl 22 _ _ rfl 32 info_a32 (w13.heap.size) rfl .u8 _ (rn) rfl (A11) (rfl) (l_rn) ?_; intro D15; replace A2 := A2.rowOther (B' := w13.heap.size) (by omega) ((rn).map (Value.int .u8)).toArray; replace A3 := A3.rowOther (B' := w13.heap.size) (by omega) ((rn).map (Value.int .u8)).toArray; replace A5 := A5.rowOther (B' := w13.heap.size) (by omega) ((rn).map (Value.int .u8)).toArray; replace A7 := A7.rowOther (B' := w13.heap.size) (by omega) ((rn).map (Value.int .u8)).toArray; replace A9 := A9.rowOther (B' := w13.heap.size) (by omega) ((rn).map (Value.int .u8)).toArray; replace BB := Below.setRow BB (g := w13.heap.size) (by omega) ((rn).map (Value.int .u8)).toArray; clear A11; have A11 := D15)
   | (go_at_call 10; first | ((with_reducible refine (H0 _ (hT.below BB)).mono ?_); rintro e w3 ⟨rfl, b3⟩; replace A2 := A2.below b3; replace A3 := A3.below b3; replace BB := below_then BB b3; have z3 := BB.size))
   | (go_at_call 11; first | ((with_reducible refine (H1 _ (hT.below BB)).mono ?_); rintro e w4 ⟨rfl, b4⟩; replace A2 := A2.below b4; replace A3 := A3.below b4; replace BB := below_then BB b4; have z4 := BB.size))
   | (go_at_call 12; first | ((with_reducible refine (H2 _).mono ?_); rintro e w7 ⟨rfl, b7⟩; replace A2 := A2.below b7; replace A3 := A3.below b7; replace A5 := A5.below b7; replace BB := below_then BB b7; have z7 := BB.size))
   | (go_at_call 13; first | ((with_reducible refine (H3 _ (hT.below BB)).mono ?_); rintro e w10 ⟨rfl, b10⟩; replace A2 := A2.below b10; replace A3 := A3.below b10; replace A5 := A5.below b10; replace A7 := A7.below b10; replace BB := below_then BB b10; have z10 := BB.size))
   | (go_at_call 14; first | ((with_reducible refine (H4 _).mono ?_); rintro e w13 ⟨rfl, b13⟩; replace A2 := A2.below b13; replace A3 := A3.below b13; replace A5 := A5.below b13; replace A7 := A7.below b13; replace A9 := A9.below b13; replace BB := below_then BB b13; have z13 := BB.size)))
 refine wp_world fun Wc16 hWc => ?_
 rw [← hWc] at BB A2 A3 A5 A7 A9 A11
 clear hWc
 have k16_0 := A2.lt
 have k16_1 := A3.lt
 have k16_2 := A5.lt
 have k16_3 := A7.lt
 have k16_4 := A9.lt
 have k16_5 := A11.lt
 refine wp_region_ord [[], [0], [], [2, 1], [1, 3], [4, 3], [5], [5], [6, 7, 5], [5, 8], [9, 5], [10], [10], [11, 12, 10], [10, 13], [14, 10], [15], [15], [16, 17, 15], [15, 18], [19, 15], [20], [20], [21, 22, 20], [20, 23], [24, 20, 0, 1, 2, 3, 4, 5, 6, 7, 8, 9, 10, 11, 12, 13, 14, 15, 16, 17, 18, 19, 20, 21, 22, 23, 24]] [some 37, some 38, some 39, some 40, some 41, some 42, some 43, some 44, some 45, some 46, some 47, some 48, some 49, some 50, some 51, some 52, some 53, some 54, some 55, some 56, some 57, some 58, some 59, some 60, some 61, some 4] 26 (fun b w' => Arr .u8 w' (w.heap.size) xa ∧ Arr .u8 w' (w1.heap.size) xb ∧ Arr .u8 w' (w4.heap.size) ra ∧ Arr .u8 w' (w7.heap.size) ra ∧ Arr .u8 w' (w10.heap.size) rn ∧ Arr .u8 w' (w13.heap.size) rn ∧ Below w.heap.size w w') (fun opn f _ => match opn with | 0 => f 0 = aggI .u8 xa | 1 => f 1 = .bool true | 2 => f 2 = aggI .u8 xa | 3 => f 3 = .bool true | 4 => f 4 = .bool true | 5 => f 5 = .bool true | 6 => f 6 = aggI .u8 ra | 7 => f 7 = aggI .u8 ra | 8 => f 8 = .bool true | 9 => f 9 = .bool true | 10 => f 10 = .bool true | 11 => f 11 = .int .i64 0 | 12 => f 12 = .int .i64 0 | 13 => f 13 = .bool true | 14 => f 14 = .bool true | 15 => f 15 = .bool true | 16 => f 16 = aggI .u8 rn | 17 => f 17 = aggI .u8 rn | 18 => f 18 = .bool true | 19 => f 19 = .bool true | 20 => f 20 = .bool true | 21 => f 21 = .int .i64 0 | 22 => f 22 = .int .i64 0 | 23 => f 23 = .bool true | 24 => f 24 = .bool true | 25 => f 25 = .bool true | _ => True) (fun _ _ _ => True) (by kernel_rfl) (by kernel_rfl) (by kernel_rfl) (by kernel_rfl) (fun b v v' hb h => ⟨h.1.below hb, h.2.1.below hb, h.2.2.1.below hb, h.2.2.2.1.below hb, h.2.2.2.2.1.below hb, h.2.2.2.2.2.1.below hb, below_then h.2.2.2.2.2.2 hb⟩) (fun _ _ _ _ _ h => h) (fun _ _ _ _ _ _ _ h => h) ⟨A2.drew, A3.drew, A5.drew, A7.drew, A9.drew, A11.drew, BB.drew⟩ ?_ ?_
 ·
  refine StepL.other (k := 0) rfl (fun b f W hb hG hH => ?_) ?_
  ·
   clear hH
   generalize hA : putL _ _ _ _ = A
   have q2 : A.eval (.tmp 2) = .pointer (some ⟨w.heap.size, 0, none⟩) := putLn hA 2 rfl rfl rfl
   clear hA
   exact Does.loadM rfl 22 _ rfl 32 _ und_a32 rfl info_a32 (w.heap.size) (0) q2 .u8 (xa) (hG.1) (by omega) (sl_all l_xa) ⟨Below.refl _ _, rfl⟩
  refine StepL.other (k := 1) rfl (fun b f W hb hG hH => ?_) ?_
  ·
   obtain ⟨d0, -⟩ := hH
   generalize hA : putL _ _ _ _ = A
   have q37 := putLl hA 37 d0 rfl rfl
   have r37 := slot_get q37
   clear hA
   refine Does.call rfl _ _ (by go_simp) ((H5 W (hT.below (hG.2.2.2.2.2.2))).mono ?_)
   rintro e w' ⟨rfl, hb'⟩
   exact ⟨_, rfl, hb', rfl⟩
  refine StepL.other (k := 2) rfl (fun b f W hb hG hH => ?_) ?_
  ·
   clear hH
   generalize hA : putL _ _ _ _ = A
   have q2 : A.eval (.tmp 2) = .pointer (some ⟨w.heap.size, 0, none⟩) := putLn hA 2 rfl rfl rfl
   clear hA
   exact Does.loadM rfl 22 _ rfl 32 _ und_a32 rfl info_a32 (w.heap.size) (0) q2 .u8 (xa) (hG.1) (by omega) (sl_all l_xa) ⟨Below.refl _ _, rfl⟩
  refine StepL.other (k := 3) rfl (fun b f W hb hG hH => ?_) ?_
  ·
   obtain ⟨d2, d1, -⟩ := hH
   generalize hA : putL _ _ _ _ = A
   have q39 := putLl hA 39 d2 rfl rfl
   have r39 := slot_get q39
   clear hA
   refine Does.call rfl _ _ (by go_simp) ((H6 W).mono ?_)
   rintro e w' ⟨rfl, hb'⟩
   exact ⟨_, rfl, hb', rfl⟩
  refine StepL.other (k := 4) rfl (fun b f W hb hG hH => ?_) ?_
  ·
   obtain ⟨d1, d3, -⟩ := hH
   generalize hA : putL _ _ _ _ = A
   have q38 := putLl hA 38 d1 rfl rfl
   have r38 := slot_get q38
   have q40 := putLl hA 40 d3 rfl rfl
   have r40 := slot_get q40
   clear hA
   refine Does.pure rfl (.bool true) ?_ ⟨Below.refl _ _, rfl⟩
   go_simp
  refine StepL.other (k := 5) rfl (fun b f W hb hG hH => ?_) ?_
  ·
   obtain ⟨d4, d3, -⟩ := hH
   generalize hA : putL _ _ _ _ = A
   have q41 := putLl hA 41 d4 rfl rfl
   have r41 := slot_get q41
   clear hA
   refine Does.pure rfl (.bool true) ?_ ⟨Below.refl _ _, rfl⟩
   go_simp
  refine StepL.other (k := 6) rfl (fun b f W hb hG hH => ?_) ?_
  ·
   obtain ⟨d5, -⟩ := hH
   generalize hA : putL _ _ _ _ = A
   have q5 : A.eval (.tmp 5) = .pointer (some ⟨w4.heap.size, 0, none⟩) := putLn hA 5 rfl rfl rfl
   have r5 := slot_get q5
   have q42 := putLl hA 42 d5 rfl rfl
   have r42 := slot_get q42
   clear hA
   exact Does.loadM (wanted_of (b := true) rfl rfl q42) 22 _ rfl 32 _ und_a32 rfl info_a32 (w4.heap.size) (0) q5 .u8 (ra) (hG.2.2.1) (by omega) (sl_all l_ra) ⟨Below.refl _ _, rfl⟩
  refine StepL.other (k := 7) rfl (fun b f W hb hG hH => ?_) ?_
  ·
   obtain ⟨d5, -⟩ := hH
   generalize hA : putL _ _ _ _ = A
   have q7 : A.eval (.tmp 7) = .pointer (some ⟨w7.heap.size, 0, none⟩) := putLn hA 7 rfl rfl rfl
   have r7 := slot_get q7
   have q42 := putLl hA 42 d5 rfl rfl
   have r42 := slot_get q42
   clear hA
   exact Does.loadM (wanted_of (b := true) rfl rfl q42) 22 _ rfl 32 _ und_a32 rfl info_a32 (w7.heap.size) (0) q7 .u8 (ra) (hG.2.2.2.1) (by omega) (sl_all l_ra) ⟨Below.refl _ _, rfl⟩
  refine StepL.other (k := 8) rfl (fun b f W hb hG hH => ?_) ?_
  ·
   obtain ⟨d6, d7, d5, -⟩ := hH
   generalize hA : putL _ _ _ _ = A
   have q43 := putLl hA 43 d6 rfl rfl
   have r43 := slot_get q43
   have q44 := putLl hA 44 d7 rfl rfl
   have r44 := slot_get q44
   have q42 := putLl hA 42 d5 rfl rfl
   have r42 := slot_get q42
   clear hA
   exact Does.eqlI (wanted_of (b := true) rfl rfl q42) 22 _ 5 _ _ rfl 32 und_a32 .u8 .u8 Tryd.underlying5 (by kernel_rfl) (by kernel_rfl) (ra) (ra) q43 q44 (l_ra) (l_ra) true (by simp) ⟨Below.refl _ _, rfl⟩
  refine StepL.other (k := 9) rfl (fun b f W hb hG hH => ?_) ?_
  ·
   obtain ⟨d5, d8, -⟩ := hH
   generalize hA : putL _ _ _ _ = A
   have q42 := putLl hA 42 d5 rfl rfl
   have r42 := slot_get q42
   have q45 := putLl hA 45 d8 rfl rfl
   have r45 := slot_get q45
   clear hA
   refine Does.pure rfl (.bool true) ?_ ⟨Below.refl _ _, rfl⟩
   go_simp
  refine StepL.other (k := 10) rfl (fun b f W hb hG hH => ?_) ?_
  ·
   obtain ⟨d9, d5, -⟩ := hH
   generalize hA : putL _ _ _ _ = A
   have q46 := putLl hA 46 d9 rfl rfl
   have r46 := slot_get q46
   clear hA
   refine Does.pure rfl (.bool true) ?_ ⟨Below.refl _ _, rfl⟩
   go_simp
  refine StepL.other (k := 11) rfl (fun b f W hb hG hH => ?_) ?_
  ·
   obtain ⟨d10, -⟩ := hH
   generalize hA : putL _ _ _ _ = A
   have q6 : A.eval (.tmp 6) = .int .i64 0 := putLn hA 6 rfl rfl rfl
   have r6 := slot_get q6
   have q47 := putLl hA 47 d10 rfl rfl
   have r47 := slot_get q47
   clear hA
   refine Does.pure (wanted_of (b := true) rfl rfl q47) (.int .i64 0) ?_ ⟨Below.refl _ _, rfl⟩
   go_simp
  refine StepL.other (k := 12) rfl (fun b f W hb hG hH => ?_) ?_
  ·
   obtain ⟨d10, -⟩ := hH
   generalize hA : putL _ _ _ _ = A
   have q8 : A.eval (.tmp 8) = .int .i64 0 := putLn hA 8 rfl rfl rfl
   have r8 := slot_get q8
   have q47 := putLl hA 47 d10 rfl rfl
   have r47 := slot_get q47
   clear hA
   refine Does.pure (wanted_of (b := true) rfl rfl q47) (.int .i64 0) ?_ ⟨Below.refl _ _, rfl⟩
   go_simp
  refine StepL.other (k := 13) rfl (fun b f W hb hG hH => ?_) ?_
  ·
   obtain ⟨d11, d12, d10, -⟩ := hH
   generalize hA : putL _ _ _ _ = A
   have q48 := putLl hA 48 d11 rfl rfl
   have r48 := slot_get q48
   have q49 := putLl hA 49 d12 rfl rfl
   have r49 := slot_get q49
   have q47 := putLl hA 47 d10 rfl rfl
   have r47 := slot_get q47
   clear hA
   refine Does.pure (wanted_of (b := true) rfl rfl q47) (.bool true) ?_ ⟨Below.refl _ _, rfl⟩
   go_simp
  refine StepL.other (k := 14) rfl (fun b f W hb hG hH => ?_) ?_
  ·
   obtain ⟨d10, d13, -⟩ := hH
   generalize hA : putL _ _ _ _ = A
   have q47 := putLl hA 47 d10 rfl rfl
   have r47 := slot_get q47
   have q50 := putLl hA 50 d13 rfl rfl
   have r50 := slot_get q50
   clear hA
   refine Does.pure rfl (.bool true) ?_ ⟨Below.refl _ _, rfl⟩
   go_simp
  refine StepL.other (k := 15) rfl (fun b f W hb hG hH => ?_) ?_
  ·
   obtain ⟨d14, d10, -⟩ := hH
   generalize hA : putL _ _ _ _ = A
   have q51 := putLl hA 51 d14 rfl rfl
   have r51 := slot_get q51
   clear hA
   refine Does.pure rfl (.bool true) ?_ ⟨Below.refl _ _, rfl⟩
   go_simp
  refine StepL.other (k := 16) rfl (fun b f W hb hG hH => ?_) ?_
  ·
   obtain ⟨d15, -⟩ := hH
   generalize hA : putL _ _ _ _ = A
   have q9 : A.eval (.tmp 9) = .pointer (some ⟨w10.heap.size, 0, none⟩) := putLn hA 9 rfl rfl rfl
   have r9 := slot_get q9
   have q52 := putLl hA 52 d15 rfl rfl
   have r52 := slot_get q52
   clear hA
   exact Does.loadM (wanted_of (b := true) rfl rfl q52) 22 _ rfl 32 _ und_a32 rfl info_a32 (w10.heap.size) (0) q9 .u8 (rn) (hG.2.2.2.2.1) (by omega) (sl_all l_rn) ⟨Below.refl _ _, rfl⟩
  refine StepL.other (k := 17) rfl (fun b f W hb hG hH => ?_) ?_
  ·
   obtain ⟨d15, -⟩ := hH
   generalize hA : putL _ _ _ _ = A
   have q11 : A.eval (.tmp 11) = .pointer (some ⟨w13.heap.size, 0, none⟩) := putLn hA 11 rfl rfl rfl
   have r11 := slot_get q11
   have q52 := putLl hA 52 d15 rfl rfl
   have r52 := slot_get q52
   clear hA
   exact Does.loadM (wanted_of (b := true) rfl rfl q52) 22 _ rfl 32 _ und_a32 rfl info_a32 (w13.heap.size) (0) q11 .u8 (rn) (hG.2.2.2.2.2.1) (by omega) (sl_all l_rn) ⟨Below.refl _ _, rfl⟩
  refine StepL.other (k := 18) rfl (fun b f W hb hG hH => ?_) ?_
  ·
   obtain ⟨d16, d17, d15, -⟩ := hH
   generalize hA : putL _ _ _ _ = A
   have q53 := putLl hA 53 d16 rfl rfl
   have r53 := slot_get q53
   have q54 := putLl hA 54 d17 rfl rfl
   have r54 := slot_get q54
   have q52 := putLl hA 52 d15 rfl rfl
   have r52 := slot_get q52
   clear hA
   exact Does.eqlI (wanted_of (b := true) rfl rfl q52) 22 _ 5 _ _ rfl 32 und_a32 .u8 .u8 Tryd.underlying5 (by kernel_rfl) (by kernel_rfl) (rn) (rn) q53 q54 (l_rn) (l_rn) true (by simp) ⟨Below.refl _ _, rfl⟩
  refine StepL.other (k := 19) rfl (fun b f W hb hG hH => ?_) ?_
  ·
   obtain ⟨d15, d18, -⟩ := hH
   generalize hA : putL _ _ _ _ = A
   have q52 := putLl hA 52 d15 rfl rfl
   have r52 := slot_get q52
   have q55 := putLl hA 55 d18 rfl rfl
   have r55 := slot_get q55
   clear hA
   refine Does.pure rfl (.bool true) ?_ ⟨Below.refl _ _, rfl⟩
   go_simp
  refine StepL.other (k := 20) rfl (fun b f W hb hG hH => ?_) ?_
  ·
   obtain ⟨d19, d15, -⟩ := hH
   generalize hA : putL _ _ _ _ = A
   have q56 := putLl hA 56 d19 rfl rfl
   have r56 := slot_get q56
   clear hA
   refine Does.pure rfl (.bool true) ?_ ⟨Below.refl _ _, rfl⟩
   go_simp
  refine StepL.other (k := 21) rfl (fun b f W hb hG hH => ?_) ?_
  ·
   obtain ⟨d20, -⟩ := hH
   generalize hA : putL _ _ _ _ = A
   have q10 : A.eval (.tmp 10) = .int .i64 0 := putLn hA 10 rfl rfl rfl
   have r10 := slot_get q10
   have q57 := putLl hA 57 d20 rfl rfl
   have r57 := slot_get q57
   clear hA
   refine Does.pure (wanted_of (b := true) rfl rfl q57) (.int .i64 0) ?_ ⟨Below.refl _ _, rfl⟩
   go_simp
  refine StepL.other (k := 22) rfl (fun b f W hb hG hH => ?_) ?_
  ·
   obtain ⟨d20, -⟩ := hH
   generalize hA : putL _ _ _ _ = A
   have q12 : A.eval (.tmp 12) = .int .i64 0 := putLn hA 12 rfl rfl rfl
   have r12 := slot_get q12
   have q57 := putLl hA 57 d20 rfl rfl
   have r57 := slot_get q57
   clear hA
   refine Does.pure (wanted_of (b := true) rfl rfl q57) (.int .i64 0) ?_ ⟨Below.refl _ _, rfl⟩
   go_simp
  refine StepL.other (k := 23) rfl (fun b f W hb hG hH => ?_) ?_
  ·
   obtain ⟨d21, d22, d20, -⟩ := hH
   generalize hA : putL _ _ _ _ = A
   have q58 := putLl hA 58 d21 rfl rfl
   have r58 := slot_get q58
   have q59 := putLl hA 59 d22 rfl rfl
   have r59 := slot_get q59
   have q57 := putLl hA 57 d20 rfl rfl
   have r57 := slot_get q57
   clear hA
   refine Does.pure (wanted_of (b := true) rfl rfl q57) (.bool true) ?_ ⟨Below.refl _ _, rfl⟩
   go_simp
  refine StepL.other (k := 24) rfl (fun b f W hb hG hH => ?_) ?_
  ·
   obtain ⟨d20, d23, -⟩ := hH
   generalize hA : putL _ _ _ _ = A
   have q57 := putLl hA 57 d20 rfl rfl
   have r57 := slot_get q57
   have q60 := putLl hA 60 d23 rfl rfl
   have r60 := slot_get q60
   clear hA
   refine Does.pure rfl (.bool true) ?_ ⟨Below.refl _ _, rfl⟩
   go_simp
  refine StepL.other (k := 25) rfl (fun b f W hb hG hH => ?_) ?_
  ·
   obtain ⟨d24, d20, d0, d1, d2, d3, d4, d5, d6, d7, d8, d9, d10, d11, d12, d13, d14, d15, d16, d17, d18, d19, -, d21, d22, d23, -, -⟩ := hH
   generalize hA : putL _ _ _ _ = A
   have q61 := putLl hA 61 d24 rfl rfl
   have r61 := slot_get q61
   clear hA
   refine Does.pure rfl (.bool true) ?_ ⟨Below.refl _ _, rfl⟩
   go_simp
  exact trivial
 ·
  intro f V16 hG hH
  obtain ⟨d0, d1, d2, d3, d4, d5, d6, d7, d8, d9, d10, d11, d12, d13, d14, d15, d16, d17, d18, d19, d20, d21, d22, d23, d24, d25, -⟩ : (f 0 = aggI .u8 xa) ∧ (f 1 = .bool true) ∧ (f 2 = aggI .u8 xa) ∧ (f 3 = .bool true) ∧ (f 4 = .bool true) ∧ (f 5 = .bool true) ∧ (f 6 = aggI .u8 ra) ∧ (f 7 = aggI .u8 ra) ∧ (f 8 = .bool true) ∧ (f 9 = .bool true) ∧ (f 10 = .bool true) ∧ (f 11 = .int .i64 0) ∧ (f 12 = .int .i64 0) ∧ (f 13 = .bool true) ∧ (f 14 = .bool true) ∧ (f 15 = .bool true) ∧ (f 16 = aggI .u8 rn) ∧ (f 17 = aggI .u8 rn) ∧ (f 18 = .bool true) ∧ (f 19 = .bool true) ∧ (f 20 = .bool true) ∧ (f 21 = .int .i64 0) ∧ (f 22 = .int .i64 0) ∧ (f 23 = .bool true) ∧ (f 24 = .bool true) ∧ (f 25 = .bool true) ∧ True := hH
  rw [show List.range (List.length [[], [0], [], [2, 1], [1, 3], [4, 3], [5], [5], [6, 7, 5], [5, 8], [9, 5], [10], [10], [11, 12, 10], [10, 13], [14, 10], [15], [15], [16, 17, 15], [15, 18], [19, 15], [20], [20], [21, 22, 20], [20, 23], [24, 20, 0, 1, 2, 3, 4, 5, 6, 7, 8, 9, 10, 11, 12, 13, 14, 15, 16, 17, 18, 19, 20, 21, 22, 23, 24]]) = [0, 1, 2, 3, 4, 5, 6, 7, 8, 9, 10, 11, 12, 13, 14, 15, 16, 17, 18, 19, 20, 21, 22, 23, 24, 25] from rfl]
  simp only [putL, List.getElem?_cons_zero, List.getElem?_cons_succ, Option.join, Option.bind_some, id_eq, Act.put, List.setIfInBounds_toArray, List.set_cons_zero, List.set_cons_succ, d0, d1, d2, d3, d4, d5, d6, d7, d8, d9, d10, d11, d12, d13, d14, d15, d16, d17, d18, d19, d20, d21, d22, d23, d24, d25]
  clear d0 d1 d2 d3 d4 d5 d6 d7 d8 d9 d10 d11 d12 d13 d14 d15 d16 d17 d18 d19 d20 d21 d22 d23 d24 d25
  clear A2 A3 A5 A7 A9 A11
  obtain ⟨A2, A3, A5, A7, A9, A11, BV⟩ := hG
  clear BB
  have BB := BV
  clear BV
  have zz16 := BB.size
  go_wp2
  go_ret
  exact ⟨rfl, BB⟩
set_option maxHeartbeats 4000000 in
theorem adds_tf (xa xb ra rn : List Int) (w : World) (hT : TabD w)
  (l_xa : xa.length = 32) (l_xb : xb.length = 32) (l_ra : ra.length = 32) (l_rn : rn.length = 32)
  (H0 : ∀ W, TabD W → Ret 10 #[] (.bool true) W)
  (H1 : ∀ W, TabD W → Ret 11 #[aggI .u8 xa, aggI .u8 xb] (.tuple #[aggI .u8 ra, .int .i64 1]) W)
  (H2 : ∀ W, Ret 12 #[aggI .u8 xa, aggI .u8 xb] (.tuple #[aggI .u8 ra, .int .i64 1]) W)
  (H3 : ∀ W, TabD W → Ret 13 #[aggI .u8 xa] (.tuple #[aggI .u8 rn, .int .i64 0]) W)
  (H4 : ∀ W, Ret 14 #[aggI .u8 xa] (.tuple #[aggI .u8 rn, .int .i64 0]) W)
  (H5 : ∀ W, TabD W → Ret 15 #[aggI .u8 xa] (.bool true) W)
  (H6 : ∀ W, Ret 16 #[aggI .u8 xa] (.bool true) W) :
  Calls Tryd.prog 3 #[aggI .u8 xa, aggI .u8 xb] w fun e w' => e = .returned (.bool true) ∧ Below w.heap.size w w' := by
 go_enter Tryd.func3, Tryd.ntmps3
 go_wp2_with (first
   | (with_reducible refine at_n 2 ?_; refine wpList_boxI rfl 22 _ rfl .u8 xa rfl ?_; intro w1 A2 s1 b1; have BB := b1; have y1 := BB.size)
   | (with_reducible refine at_n 3 ?_; refine wpList_boxI rfl 22 _ rfl .u8 xb rfl ?_; intro w2 A3 s2 b2; have q2_2 := A2.lt; replace A2 := A2.below b2; replace BB := below_then BB b2; have y2 := BB.size)
   | (with_reducible refine at_n 16 ?_; refine wpList_val' (fun R hR => Does.loadM rfl 22 _ rfl 32 _ und_a32 rfl info_a32 (w.heap.size) 0 rfl .u8 (xa) (A2) (by omega) (sl_all l_xa) hR) ?_)
   | (with_reducible refine at_n 17 ?_; refine wpList_val' (fun R hR => Does.loadM rfl 22 _ rfl 32 _ und_a32 rfl info_a32 (w1.heap.size) 0 rfl .u8 (xb) (A3) (by omega) (sl_all l_xb) hR) ?_)
   | (with_reducible refine at_n 5 ?_; refine wpList_allocI rfl 22 rfl .u8 32 zero_a32 ?_; intro w5 A5 s5 b5; have q5_2 := A2.lt; have q5_3 := A3.lt; replace A2 := A2.below b5; replace A3 := A3.below b5; replace BB := below_then BB b5; have y5 := BB.size)
   | (with_reducible refine at_op (o := ⟨_, .store 22 (.tmp 5) _, _, _, _, _⟩) ?_; refine wpList_storeI rfl 22 _ _ rfl 32 info_a32 (w4.heap.size) rfl .u8 _ (ra) rfl (A5) (rfl) (l_ra) ?_; intro D6; replace A2 := A2.rowOther (B' := w4.heap.size) (by omega) ((ra).map (Value.int .u8)).toArray; replace A3 := A3.rowOther (B' := w4.heap.size) (by omega) ((ra).map (Value.int .u8)).toArray; replace BB := Below.setRow BB (g := w4.heap.size) (by omega) ((ra).map (Value.int .u8)).toArray; clear A5; have A5 := D6)
   | (with_reducible refine at_n 22 ?_; refine wpList_val' (fun R hR => Does.loadM rfl 22 _ rfl 32 _ und_a32 rfl info_a32 (w.heap.size) 0 rfl .u8 (xa) (A2) (by omega) (sl_all l_xa) hR) ?_)
   | (with_reducible refine at_n 23 ?_; refine wpList_val' (fun R hR => Does.loadM rfl 22 _ rfl 32 _ und_a32 rfl info_a32 (w1.heap.size) 0 rfl .u8 (xb) (A3) (by omega) (sl_all l_xb) hR) ?_)
   | (with_reducible refine at_n 7 ?_; refine wpList_allocI rfl 22 rfl .u8 32 zero_a32 ?_; intro w8 A7 s8 b8; have q8_2 := A2.lt; have q8_3 := A3.lt; have q8_5 := A5.lt; replace A2 := A2.below b8; replace A3 := A3.below b8; replace A5 := A5.below b8; replace BB := below_then BB b8; have y8 := BB.size)
   | (with_reducible refine at_op (o := ⟨_, .store 22 (.tmp 7) _, _, _, _, _⟩) ?_; refine wpList_storeI rfl 22 _ _ rfl 32 info_a32 (w7.heap.size) rfl .u8 _ (ra) rfl (A7) (rfl) (l_ra) ?_; intro D9; replace A2 := A2.rowOther (B' := w7.heap.size) (by omega) ((ra).map (Value.int .u8)).toArray; replace A3 := A3.rowOther (B' := w7.heap.size) (by omega) ((ra).map (Value.int .u8)).toArray; replace A5 := A5.rowOther (B' := w7.heap.size) (by omega) ((ra).map (Value.int .u8)).toArray; replace BB := Below.setRow BB (g := w7.heap.size) (by omega) ((ra).map (Value.int .u8)).toArray; clear A7; have A7 := D9)
   | (with_reducible refine at_n 28 ?_; refine wpList_val' (fun R hR => Does.loadM rfl 22 _ rfl 32 _ und_a32 rfl info_a32 (w.heap.size) 0 rfl .u8 (xa) (A2) (by omega) (sl_all l_xa) hR) ?_)
   | (with_reducible refine at_n 9 ?_; refine wpList_allocI rfl 22 rfl .u8 32 zero_a32 ?_; intro w11 A9 s11 b11; have q11_2 := A2.lt; have q11_3 := A3.lt; have q11_5 := A5.lt; have q11_7 := A7.lt; replace A2 := A2.below b11; replace A3 := A3.below b11; replace A5 := A5.below b11; replace A7 := A7.below b11; replace BB := below_then BB b11; have y11 := BB.size)
   | (with_reducible refine at_op (o := ⟨_, .store 22 (.tmp 9) _, _, _, _, _⟩) ?_; refine wpList_storeI rfl 22 _ _ rfl 32 info_a32 (w10.heap.size) rfl .u8 _ (rn) rfl (A9) (rfl) (l_rn) ?_; intro D12; replace A2 := A2.rowOther (B' := w10.heap.size) (by omega) ((rn).map (Value.int .u8)).toArray; replace A3 := A3.rowOther (B' := w10.heap.size) (by omega) ((rn).map (Value.int .u8)).toArray; replace A5 := A5.rowOther (B' := w10.heap.size) (by omega) ((rn).map (Value.int .u8)).toArray; replace A7 := A7.rowOther (B' := w10.heap.size) (by omega) ((rn).map (Value.int .u8)).toArray; replace BB := Below.setRow BB (g := w10.heap.size) (by omega) ((rn).map (Value.int .u8)).toArray; clear A9; have A9 := D12)
   | (with_reducible refine at_n 33 ?_; refine wpList_val' (fun R hR => Does.loadM rfl 22 _ rfl 32 _ und_a32 rfl info_a32 (w.heap.size) 0 rfl .u8 (xa) (A2) (by omega) (sl_all l_xa) hR) ?_)
   | (with_reducible refine at_n 11 ?_; refine wpList_allocI rfl 22 rfl .u8 32 zero_a32 ?_; intro w14 A11 s14 b14; have q14_2 := A2.lt; have q14_3 := A3.lt; have q14_5 := A5.lt; have q14_7 := A7.lt; have q14_9 := A9.lt; replace A2 := A2.below b14; replace A3 := A3.below b14; replace A5 := A5.below b14; replace A7 := A7.below b14; replace A9 := A9.below b14; replace BB := below_then BB b14; have y14 := BB.size)
   | (with_reducible refine at_op (o := ⟨_, .store 22 (.tmp 11) _, _, _, _, _⟩) ?_; refine wpList_storeI rfl 22 _ _ rfl 32 info_a32 (w13.heap.size) rfl .u8 _ (rn) rfl (A11) (rfl) (l_rn) ?_; intro D15; replace A2 := A2.rowOther (B' := w13.heap.size) (by omega) ((rn).map (Value.int .u8)).toArray; replace A3 := A3.rowOther (B' := w13.heap.size) (by omega) ((rn).map (Value.int .u8)).toArray; replace A5 := A5.rowOther (B' := w13.heap.size) (by omega) ((rn).map (Value.int .u8)).toArray; replace A7 := A7.rowOther (B' := w13.heap.size) (by omega) ((rn).map (Value.int .u8)).toArray; replace A9 := A9.rowOther (B' := w13.heap.size) (by omega) ((rn).map (Value.int .u8)).toArray; replace BB := Below.setRow BB (g := w13.heap.size) (by omega) ((rn).map (Value.int .u8)).toArray; clear A11; have A11 := D15)
   | (go_at_call 10; first | ((with_reducible refine (H0 _ (hT.below BB)).mono ?_); rintro e w3 ⟨rfl, b3⟩; replace A2 := A2.below b3; replace A3 := A3.below b3; replace BB := below_then BB b3; have z3 := BB.size))
   | (go_at_call 11; first | ((with_reducible refine (H1 _ (hT.below BB)).mono ?_); rintro e w4 ⟨rfl, b4⟩; replace A2 := A2.below b4; replace A3 := A3.below b4; replace BB := below_then BB b4; have z4 := BB.size))
   | (go_at_call 12; first | ((with_reducible refine (H2 _).mono ?_); rintro e w7 ⟨rfl, b7⟩; replace A2 := A2.below b7; replace A3 := A3.below b7; replace A5 := A5.below b7; replace BB := below_then BB b7; have z7 := BB.size))
   | (go_at_call 13; first | ((with_reducible refine (H3 _ (hT.below BB)).mono ?_); rintro e w10 ⟨rfl, b10⟩; replace A2 := A2.below b10; replace A3 := A3.below b10; replace A5 := A5.below b10; replace A7 := A7.below b10; replace BB := below_then BB b10; have z10 := BB.size))
   | (go_at_call 14; first | ((with_reducible refine (H4 _).mono ?_); rintro e w13 ⟨rfl, b13⟩; replace A2 := A2.below b13; replace A3 := A3.below b13; replace A5 := A5.below b13; replace A7 := A7.below b13; replace A9 := A9.below b13; replace BB := below_then BB b13; have z13 := BB.size)))
 refine wp_world fun Wc16 hWc => ?_
 rw [← hWc] at BB A2 A3 A5 A7 A9 A11
 clear hWc
 have k16_0 := A2.lt
 have k16_1 := A3.lt
 have k16_2 := A5.lt
 have k16_3 := A7.lt
 have k16_4 := A9.lt
 have k16_5 := A11.lt
 refine wp_region_ord [[], [0], [], [2, 1], [1, 3], [4, 3], [5], [5], [6, 7, 5], [5, 8], [9, 5], [10], [10], [11, 12, 10], [10, 13], [14, 10], [15], [15], [16, 17, 15], [15, 18], [19, 15], [20], [20], [21, 22, 20], [20, 23], [24, 20, 0, 1, 2, 3, 4, 5, 6, 7, 8, 9, 10, 11, 12, 13, 14, 15, 16, 17, 18, 19, 20, 21, 22, 23, 24]] [some 37, some 38, some 39, some 40, some 41, some 42, some 43, some 44, some 45, some 46, some 47, some 48, some 49, some 50, some 51, some 52, some 53, some 54, some 55, some 56, some 57, some 58, some 59, some 60, some 61, some 4] 26 (fun b w' => Arr .u8 w' (w.heap.size) xa ∧ Arr .u8 w' (w1.heap.size) xb ∧ Arr .u8 w' (w4.heap.size) ra ∧ Arr .u8 w' (w7.heap.size) ra ∧ Arr .u8 w' (w10.heap.size) rn ∧ Arr .u8 w' (w13.heap.size) rn ∧ Below w.heap.size w w') (fun opn f _ => match opn with | 0 => f 0 = aggI .u8 xa | 1 => f 1 = .bool true | 2 => f 2 = aggI .u8 xa | 3 => f 3 = .bool true | 4 => f 4 = .bool true | 5 => f 5 = .bool true | 6 => f 6 = aggI .u8 ra | 7 => f 7 = aggI .u8 ra | 8 => f 8 = .bool true | 9 => f 9 = .bool true | 10 => f 10 = .bool true | 11 => f 11 = .int .i64 1 | 12 => f 12 = .int .i64 1 | 13 => f 13 = .bool true | 14 => f 14 = .bool true | 15 => f 15 = .bool true | 16 => f 16 = aggI .u8 rn | 17 => f 17 = aggI .u8 rn | 18 => f 18 = .bool true | 19 => f 19 = .bool true | 20 => f 20 = .bool true | 21 => f 21 = .int .i64 0 | 22 => f 22 = .int .i64 0 | 23 => f 23 = .bool true | 24 => f 24 = .bool true | 25 => f 25 = .bool true | _ => True) (fun _ _ _ => True) (by kernel_rfl) (by kernel_rfl) (by kernel_rfl) (by kernel_rfl) (fun b v v' hb h => ⟨h.1.below hb, h.2.1.below hb, h.2.2.1.below hb, h.2.2.2.1.below hb, h.2.2.2.2.1.below hb, h.2.2.2.2.2.1.below hb, below_then h.2.2.2.2.2.2 hb⟩) (fun _ _ _ _ _ h => h) (fun _ _ _ _ _ _ _ h => h) ⟨A2.drew, A3.drew, A5.drew, A7.drew, A9.drew, A11.drew, BB.drew⟩ ?_ ?_
 ·
  refine StepL.other (k := 0) rfl (fun b f W hb hG hH => ?_) ?_
  ·
   clear hH
   generalize hA : putL _ _ _ _ = A
   have q2 : A.eval (.tmp 2) = .pointer (some ⟨w.heap.size, 0, none⟩) := putLn hA 2 rfl rfl rfl
   clear hA
   exact Does.loadM rfl 22 _ rfl 32 _ und_a32 rfl info_a32 (w.heap.size) (0) q2 .u8 (xa) (hG.1) (by omega) (sl_all l_xa) ⟨Below.refl _ _, rfl⟩
  refine StepL.other (k := 1) rfl (fun b f W hb hG hH => ?_) ?_
  ·
   obtain ⟨d0, -⟩ := hH
   generalize hA : putL _ _ _ _ = A
   have q37 := putLl hA 37 d0 rfl rfl
   have r37 := slot_get q37
   clear hA
   refine Does.call rfl _ _ (by go_simp) ((H5 W (hT.below (hG.2.2.2.2.2.2))).mono ?_)
   rintro e w' ⟨rfl, hb'⟩
   exact ⟨_, rfl, hb', rfl⟩
  refine StepL.other (k := 2) rfl (fun b f W hb hG hH => ?_) ?_
  ·
   clear hH
   generalize hA : putL _ _ _ _ = A
   have q2 : A.eval (.tmp 2) = .pointer (some ⟨w.heap.size, 0, none⟩) := putLn hA 2 rfl rfl rfl
   clear hA
   exact Does.loadM rfl 22 _ rfl 32 _ und_a32 rfl info_a32 (w.heap.size) (0) q2 .u8 (xa) (hG.1) (by omega) (sl_all l_xa) ⟨Below.refl _ _, rfl⟩
  refine StepL.other (k := 3) rfl (fun b f W hb hG hH => ?_) ?_
  ·
   obtain ⟨d2, d1, -⟩ := hH
   generalize hA : putL _ _ _ _ = A
   have q39 := putLl hA 39 d2 rfl rfl
   have r39 := slot_get q39
   clear hA
   refine Does.call rfl _ _ (by go_simp) ((H6 W).mono ?_)
   rintro e w' ⟨rfl, hb'⟩
   exact ⟨_, rfl, hb', rfl⟩
  refine StepL.other (k := 4) rfl (fun b f W hb hG hH => ?_) ?_
  ·
   obtain ⟨d1, d3, -⟩ := hH
   generalize hA : putL _ _ _ _ = A
   have q38 := putLl hA 38 d1 rfl rfl
   have r38 := slot_get q38
   have q40 := putLl hA 40 d3 rfl rfl
   have r40 := slot_get q40
   clear hA
   refine Does.pure rfl (.bool true) ?_ ⟨Below.refl _ _, rfl⟩
   go_simp
  refine StepL.other (k := 5) rfl (fun b f W hb hG hH => ?_) ?_
  ·
   obtain ⟨d4, d3, -⟩ := hH
   generalize hA : putL _ _ _ _ = A
   have q41 := putLl hA 41 d4 rfl rfl
   have r41 := slot_get q41
   clear hA
   refine Does.pure rfl (.bool true) ?_ ⟨Below.refl _ _, rfl⟩
   go_simp
  refine StepL.other (k := 6) rfl (fun b f W hb hG hH => ?_) ?_
  ·
   obtain ⟨d5, -⟩ := hH
   generalize hA : putL _ _ _ _ = A
   have q5 : A.eval (.tmp 5) = .pointer (some ⟨w4.heap.size, 0, none⟩) := putLn hA 5 rfl rfl rfl
   have r5 := slot_get q5
   have q42 := putLl hA 42 d5 rfl rfl
   have r42 := slot_get q42
   clear hA
   exact Does.loadM (wanted_of (b := true) rfl rfl q42) 22 _ rfl 32 _ und_a32 rfl info_a32 (w4.heap.size) (0) q5 .u8 (ra) (hG.2.2.1) (by omega) (sl_all l_ra) ⟨Below.refl _ _, rfl⟩
  refine StepL.other (k := 7) rfl (fun b f W hb hG hH => ?_) ?_
  ·
   obtain ⟨d5, -⟩ := hH
   generalize hA : putL _ _ _ _ = A
   have q7 : A.eval (.tmp 7) = .pointer (some ⟨w7.heap.size, 0, none⟩) := putLn hA 7 rfl rfl rfl
   have r7 := slot_get q7
   have q42 := putLl hA 42 d5 rfl rfl
   have r42 := slot_get q42
   clear hA
   exact Does.loadM (wanted_of (b := true) rfl rfl q42) 22 _ rfl 32 _ und_a32 rfl info_a32 (w7.heap.size) (0) q7 .u8 (ra) (hG.2.2.2.1) (by omega) (sl_all l_ra) ⟨Below.refl _ _, rfl⟩
  refine StepL.other (k := 8) rfl (fun b f W hb hG hH => ?_) ?_
  ·
   obtain ⟨d6, d7, d5, -⟩ := hH
   generalize hA : putL _ _ _ _ = A
   have q43 := putLl hA 43 d6 rfl rfl
   have r43 := slot_get q43
   have q44 := putLl hA 44 d7 rfl rfl
   have r44 := slot_get q44
   have q42 := putLl hA 42 d5 rfl rfl
   have r42 := slot_get q42
   clear hA
   exact Does.eqlI (wanted_of (b := true) rfl rfl q42) 22 _ 5 _ _ rfl 32 und_a32 .u8 .u8 Tryd.underlying5 (by kernel_rfl) (by kernel_rfl) (ra) (ra) q43 q44 (l_ra) (l_ra) true (by simp) ⟨Below.refl _ _, rfl⟩
  refine StepL.other (k := 9) rfl (fun b f W hb hG hH => ?_) ?_
  ·
   obtain ⟨d5, d8, -⟩ := hH
   generalize hA : putL _ _ _ _ = A
   have q42 := putLl hA 42 d5 rfl rfl
   have r42 := slot_get q42
   have q45 := putLl hA 45 d8 rfl rfl
   have r45 := slot_get q45
   clear hA
   refine Does.pure rfl (.bool true) ?_ ⟨Below.refl _ _, rfl⟩
   go_simp
  refine StepL.other (k := 10) rfl (fun b f W hb hG hH => ?_) ?_
  ·
   obtain ⟨d9, d5, -⟩ := hH
   generalize hA : putL _ _ _ _ = A
   have q46 := putLl hA 46 d9 rfl rfl
   have r46 := slot_get q46
   clear hA
   refine Does.pure rfl (.bool true) ?_ ⟨Below.refl _ _, rfl⟩
   go_simp
  refine StepL.other (k := 11) rfl (fun b f W hb hG hH => ?_) ?_
  ·
   obtain ⟨d10, -⟩ := hH
   generalize hA : putL _ _ _ _ = A
   have q6 : A.eval (.tmp 6) = .int .i64 1 := putLn hA 6 rfl rfl rfl
   have r6 := slot_get q6
   have q47 := putLl hA 47 d10 rfl rfl
   have r47 := slot_get q47
   clear hA
   refine Does.pure (wanted_of (b := true) rfl rfl q47) (.int .i64 1) ?_ ⟨Below.refl _ _, rfl⟩
   go_simp
  refine StepL.other (k := 12) rfl (fun b f W hb hG hH => ?_) ?_
  ·
   obtain ⟨d10, -⟩ := hH
   generalize hA : putL _ _ _ _ = A
   have q8 : A.eval (.tmp 8) = .int .i64 1 := putLn hA 8 rfl rfl rfl
   have r8 := slot_get q8
   have q47 := putLl hA 47 d10 rfl rfl
   have r47 := slot_get q47
   clear hA
   refine Does.pure (wanted_of (b := true) rfl rfl q47) (.int .i64 1) ?_ ⟨Below.refl _ _, rfl⟩
   go_simp
  refine StepL.other (k := 13) rfl (fun b f W hb hG hH => ?_) ?_
  ·
   obtain ⟨d11, d12, d10, -⟩ := hH
   generalize hA : putL _ _ _ _ = A
   have q48 := putLl hA 48 d11 rfl rfl
   have r48 := slot_get q48
   have q49 := putLl hA 49 d12 rfl rfl
   have r49 := slot_get q49
   have q47 := putLl hA 47 d10 rfl rfl
   have r47 := slot_get q47
   clear hA
   refine Does.pure (wanted_of (b := true) rfl rfl q47) (.bool true) ?_ ⟨Below.refl _ _, rfl⟩
   go_simp
  refine StepL.other (k := 14) rfl (fun b f W hb hG hH => ?_) ?_
  ·
   obtain ⟨d10, d13, -⟩ := hH
   generalize hA : putL _ _ _ _ = A
   have q47 := putLl hA 47 d10 rfl rfl
   have r47 := slot_get q47
   have q50 := putLl hA 50 d13 rfl rfl
   have r50 := slot_get q50
   clear hA
   refine Does.pure rfl (.bool true) ?_ ⟨Below.refl _ _, rfl⟩
   go_simp
  refine StepL.other (k := 15) rfl (fun b f W hb hG hH => ?_) ?_
  ·
   obtain ⟨d14, d10, -⟩ := hH
   generalize hA : putL _ _ _ _ = A
   have q51 := putLl hA 51 d14 rfl rfl
   have r51 := slot_get q51
   clear hA
   refine Does.pure rfl (.bool true) ?_ ⟨Below.refl _ _, rfl⟩
   go_simp
  refine StepL.other (k := 16) rfl (fun b f W hb hG hH => ?_) ?_
  ·
   obtain ⟨d15, -⟩ := hH
   generalize hA : putL _ _ _ _ = A
   have q9 : A.eval (.tmp 9) = .pointer (some ⟨w10.heap.size, 0, none⟩) := putLn hA 9 rfl rfl rfl
   have r9 := slot_get q9
   have q52 := putLl hA 52 d15 rfl rfl
   have r52 := slot_get q52
   clear hA
   exact Does.loadM (wanted_of (b := true) rfl rfl q52) 22 _ rfl 32 _ und_a32 rfl info_a32 (w10.heap.size) (0) q9 .u8 (rn) (hG.2.2.2.2.1) (by omega) (sl_all l_rn) ⟨Below.refl _ _, rfl⟩
  refine StepL.other (k := 17) rfl (fun b f W hb hG hH => ?_) ?_
  ·
   obtain ⟨d15, -⟩ := hH
   generalize hA : putL _ _ _ _ = A
   have q11 : A.eval (.tmp 11) = .pointer (some ⟨w13.heap.size, 0, none⟩) := putLn hA 11 rfl rfl rfl
   have r11 := slot_get q11
   have q52 := putLl hA 52 d15 rfl rfl
   have r52 := slot_get q52
   clear hA
   exact Does.loadM (wanted_of (b := true) rfl rfl q52) 22 _ rfl 32 _ und_a32 rfl info_a32 (w13.heap.size) (0) q11 .u8 (rn) (hG.2.2.2.2.2.1) (by omega) (sl_all l_rn) ⟨Below.refl _ _, rfl⟩
  refine StepL.other (k := 18) rfl (fun b f W hb hG hH => ?_) ?_
  ·
   obtain ⟨d16, d17, d15, -⟩ := hH
   generalize hA : putL _ _ _ _ = A
   have q53 := putLl hA 53 d16 rfl rfl
   have r53 := slot_get q53
   have q54 := putLl hA 54 d17 rfl rfl
   have r54 := slot_get q54
   have q52 := putLl hA 52 d15 rfl rfl
   have r52 := slot_get q52
   clear hA
   exact Does.eqlI (wanted_of (b := true) rfl rfl q52) 22 _ 5 _ _ rfl 32 und_a32 .u8 .u8 Tryd.underlying5 (by kernel_rfl) (by kernel_rfl) (rn) (rn) q53 q54 (l_rn) (l_rn) true (by simp) ⟨Below.refl _ _, rfl⟩
  refine StepL.other (k := 19) rfl (fun b f W hb hG hH => ?_) ?_
  ·
   obtain ⟨d15, d18, -⟩ := hH
   generalize hA : putL _ _ _ _ = A
   have q52 := putLl hA 52 d15 rfl rfl
   have r52 := slot_get q52
   have q55 := putLl hA 55 d18 rfl rfl
   have r55 := slot_get q55
   clear hA
   refine Does.pure rfl (.bool true) ?_ ⟨Below.refl _ _, rfl⟩
   go_simp
  refine StepL.other (k := 20) rfl (fun b f W hb hG hH => ?_) ?_
  ·
   obtain ⟨d19, d15, -⟩ := hH
   generalize hA : putL _ _ _ _ = A
   have q56 := putLl hA 56 d19 rfl rfl
   have r56 := slot_get q56
   clear hA
   refine Does.pure rfl (.bool true) ?_ ⟨Below.refl _ _, rfl⟩
   go_simp
  refine StepL.other (k := 21) rfl (fun b f W hb hG hH => ?_) ?_
  ·
   obtain ⟨d20, -⟩ := hH
   generalize hA : putL _ _ _ _ = A
   have q10 : A.eval (.tmp 10) = .int .i64 0 := putLn hA 10 rfl rfl rfl
   have r10 := slot_get q10
   have q57 := putLl hA 57 d20 rfl rfl
   have r57 := slot_get q57
   clear hA
   refine Does.pure (wanted_of (b := true) rfl rfl q57) (.int .i64 0) ?_ ⟨Below.refl _ _, rfl⟩
   go_simp
  refine StepL.other (k := 22) rfl (fun b f W hb hG hH => ?_) ?_
  ·
   obtain ⟨d20, -⟩ := hH
   generalize hA : putL _ _ _ _ = A
   have q12 : A.eval (.tmp 12) = .int .i64 0 := putLn hA 12 rfl rfl rfl
   have r12 := slot_get q12
   have q57 := putLl hA 57 d20 rfl rfl
   have r57 := slot_get q57
   clear hA
   refine Does.pure (wanted_of (b := true) rfl rfl q57) (.int .i64 0) ?_ ⟨Below.refl _ _, rfl⟩
   go_simp
  refine StepL.other (k := 23) rfl (fun b f W hb hG hH => ?_) ?_
  ·
   obtain ⟨d21, d22, d20, -⟩ := hH
   generalize hA : putL _ _ _ _ = A
   have q58 := putLl hA 58 d21 rfl rfl
   have r58 := slot_get q58
   have q59 := putLl hA 59 d22 rfl rfl
   have r59 := slot_get q59
   have q57 := putLl hA 57 d20 rfl rfl
   have r57 := slot_get q57
   clear hA
   refine Does.pure (wanted_of (b := true) rfl rfl q57) (.bool true) ?_ ⟨Below.refl _ _, rfl⟩
   go_simp
  refine StepL.other (k := 24) rfl (fun b f W hb hG hH => ?_) ?_
  ·
   obtain ⟨d20, d23, -⟩ := hH
   generalize hA : putL _ _ _ _ = A
   have q57 := putLl hA 57 d20 rfl rfl
   have r57 := slot_get q57
   have q60 := putLl hA 60 d23 rfl rfl
   have r60 := slot_get q60
   clear hA
   refine Does.pure rfl (.bool true) ?_ ⟨Below.refl _ _, rfl⟩
   go_simp
  refine StepL.other (k := 25) rfl (fun b f W hb hG hH => ?_) ?_
  ·
   obtain ⟨d24, d20, d0, d1, d2, d3, d4, d5, d6, d7, d8, d9, d10, d11, d12, d13, d14, d15, d16, d17, d18, d19, -, d21, d22, d23, -, -⟩ := hH
   generalize hA : putL _ _ _ _ = A
   have q61 := putLl hA 61 d24 rfl rfl
   have r61 := slot_get q61
   clear hA
   refine Does.pure rfl (.bool true) ?_ ⟨Below.refl _ _, rfl⟩
   go_simp
  exact trivial
 ·
  intro f V16 hG hH
  obtain ⟨d0, d1, d2, d3, d4, d5, d6, d7, d8, d9, d10, d11, d12, d13, d14, d15, d16, d17, d18, d19, d20, d21, d22, d23, d24, d25, -⟩ : (f 0 = aggI .u8 xa) ∧ (f 1 = .bool true) ∧ (f 2 = aggI .u8 xa) ∧ (f 3 = .bool true) ∧ (f 4 = .bool true) ∧ (f 5 = .bool true) ∧ (f 6 = aggI .u8 ra) ∧ (f 7 = aggI .u8 ra) ∧ (f 8 = .bool true) ∧ (f 9 = .bool true) ∧ (f 10 = .bool true) ∧ (f 11 = .int .i64 1) ∧ (f 12 = .int .i64 1) ∧ (f 13 = .bool true) ∧ (f 14 = .bool true) ∧ (f 15 = .bool true) ∧ (f 16 = aggI .u8 rn) ∧ (f 17 = aggI .u8 rn) ∧ (f 18 = .bool true) ∧ (f 19 = .bool true) ∧ (f 20 = .bool true) ∧ (f 21 = .int .i64 0) ∧ (f 22 = .int .i64 0) ∧ (f 23 = .bool true) ∧ (f 24 = .bool true) ∧ (f 25 = .bool true) ∧ True := hH
  rw [show List.range (List.length [[], [0], [], [2, 1], [1, 3], [4, 3], [5], [5], [6, 7, 5], [5, 8], [9, 5], [10], [10], [11, 12, 10], [10, 13], [14, 10], [15], [15], [16, 17, 15], [15, 18], [19, 15], [20], [20], [21, 22, 20], [20, 23], [24, 20, 0, 1, 2, 3, 4, 5, 6, 7, 8, 9, 10, 11, 12, 13, 14, 15, 16, 17, 18, 19, 20, 21, 22, 23, 24]]) = [0, 1, 2, 3, 4, 5, 6, 7, 8, 9, 10, 11, 12, 13, 14, 15, 16, 17, 18, 19, 20, 21, 22, 23, 24, 25] from rfl]
  simp only [putL, List.getElem?_cons_zero, List.getElem?_cons_succ, Option.join, Option.bind_some, id_eq, Act.put, List.setIfInBounds_toArray, List.set_cons_zero, List.set_cons_succ, d0, d1, d2, d3, d4, d5, d6, d7, d8, d9, d10, d11, d12, d13, d14, d15, d16, d17, d18, d19, d20, d21, d22, d23, d24, d25]
  clear d0 d1 d2 d3 d4 d5 d6 d7 d8 d9 d10 d11 d12 d13 d14 d15 d16 d17 d18 d19 d20 d21 d22 d23 d24 d25
  clear A2 A3 A5 A7 A9 A11
  obtain ⟨A2, A3, A5, A7, A9, A11, BV⟩ := hG
  clear BB
  have BB := BV
  clear BV
  have zz16 := BB.size
  go_wp2
  go_ret
  exact ⟨rfl, BB⟩
set_option maxHeartbeats 4000000 in
theorem adds_f (xa xb ra rn : List Int) (w : World) (hT : TabD w)
  (l_xa : xa.length = 32) (l_xb : xb.length = 32) (l_ra : ra.length = 32) (l_rn : rn.length = 32)
  (H0 : ∀ W, TabD W → Ret 10 #[] (.bool true) W)
  (H1 : ∀ W, TabD W → Ret 11 #[aggI .u8 xa, aggI .u8 xb] (.tuple #[aggI .u8 ra, .int .i64 1]) W)
  (H2 : ∀ W, Ret 12 #[aggI .u8 xa, aggI .u8 xb] (.tuple #[aggI .u8 ra, .int .i64 1]) W)
  (H3 : ∀ W, TabD W → Ret 13 #[aggI .u8 xa] (.tuple #[aggI .u8 rn, .int .i64 1]) W)
  (H4 : ∀ W, Ret 14 #[aggI .u8 xa] (.tuple #[aggI .u8 rn, .int .i64 1]) W)
  (H5 : ∀ W, TabD W → Ret 15 #[aggI .u8 xa] (.bool false) W)
  (H6 : ∀ W, Ret 16 #[aggI .u8 xa] (.bool false) W) :
  Calls Tryd.prog 3 #[aggI .u8 xa, aggI .u8 xb] w fun e w' => e = .returned (.bool true) ∧ Below w.heap.size w w' := by
 go_enter Tryd.func3, Tryd.ntmps3
 go_wp2_with (first
   | (with_reducible refine at_n 2 ?_; refine wpList_boxI rfl 22 _ rfl .u8 xa rfl ?_; intro w1 A2 s1 b1; have BB := b1; have y1 := BB.size)
   | (with_reducible refine at_n 3 ?_; refine wpList_boxI rfl 22 _ rfl .u8 xb rfl ?_; intro w2 A3 s2 b2; have q2_2 := A2.lt; replace A2 := A2.below b2; replace BB := below_then BB b2; have y2 := BB.size)
   | (with_reducible refine at_n 16 ?_; refine wpList_val' (fun R hR => Does.loadM rfl 22 _ rfl 32 _ und_a32 rfl info_a32 (w.heap.size) 0 rfl .u8 (xa) (A2) (by omega) (sl_all l_xa) hR) ?_)
   | (with_reducible refine at_n 17 ?_; refine wpList_val' (fun R hR => Does.loadM rfl 22 _ rfl 32 _ und_a32 rfl info_a32 (w1.heap.size) 0 rfl .u8 (xb) (A3) (by omega) (sl_all l_xb) hR) ?_)
   | (with_reducible refine at_n 5 ?_; refine wpList_allocI rfl 22 rfl .u8 32 zero_a32 ?_; intro w5 A5 s5 b5; have q5_2 := A2.lt; have q5_3 := A3.lt; replace A2 := A2.below b5; replace A3 := A3.below b5; replace BB := below_then BB b5; have y5 := BB.size)
   | (with_reducible refine at_op (o := ⟨_, .store 22 (.tmp 5) _, _, _, _, _⟩) ?_; refine wpList_storeI rfl 22 _ _ rfl 32 info_a32 (w4.heap.size) rfl .u8 _ (ra) rfl (A5) (rfl) (l_ra) ?_; intro D6; replace A2 := A2.rowOther (B' := w4.heap.size) (by omega) ((ra).map (Value.int .u8)).toArray; replace A3 := A3.rowOther (B' := w4.heap.size) (by omega) ((ra).map (Value.int .u8)).toArray; replace BB := Below.setRow BB (g := w4.heap.size) (by omega) ((ra).map (Value.int .u8)).toArray; clear A5; have A5 := D6)
   | (with_reducible refine at_n 22 ?_; refine wpList_val' (fun R hR => Does.loadM rfl 22 _ rfl 32 _ und_a32 rfl info_a32 (w.heap.size) 0 rfl .u8 (xa) (A2) (by omega) (sl_all l_xa) hR) ?_)
   | (with_reducible refine at_n 23 ?_; refine wpList_val' (fun R hR => Does.loadM rfl 22 _ rfl 32 _ und_a32 rfl info_a32 (w1.heap.size) 0 rfl .u8 (xb) (A3) (by omega) (sl_all l_xb) hR) ?_)
   | (with_reducible refine at_n 7 ?_; refine wpList_allocI rfl 22 rfl .u8 32 zero_a32 ?_; intro w8 A7 s8 b8; have q8_2 := A2.lt; have q8_3 := A3.lt; have q8_5 := A5.lt; replace A2 := A2.below b8; replace A3 := A3.below b8; replace A5 := A5.below b8; replace BB := below_then BB b8; have y8 := BB.size)
   | (with_reducible refine at_op (o := ⟨_, .store 22 (.tmp 7) _, _, _, _, _⟩) ?_; refine wpList_storeI rfl 22 _ _ rfl 32 info_a32 (w7.heap.size) rfl .u8 _ (ra) rfl (A7) (rfl) (l_ra) ?_; intro D9; replace A2 := A2.rowOther (B' := w7.heap.size) (by omega) ((ra).map (Value.int .u8)).toArray; replace A3 := A3.rowOther (B' := w7.heap.size) (by omega) ((ra).map (Value.int .u8)).toArray; replace A5 := A5.rowOther (B' := w7.heap.size) (by omega) ((ra).map (Value.int .u8)).toArray; replace BB := Below.setRow BB (g := w7.heap.size) (by omega) ((ra).map (Value.int .u8)).toArray; clear A7; have A7 := D9)
   | (with_reducible refine at_n 28 ?_; refine wpList_val' (fun R hR => Does.loadM rfl 22 _ rfl 32 _ und_a32 rfl info_a32 (w.heap.size) 0 rfl .u8 (xa) (A2) (by omega) (sl_all l_xa) hR) ?_)
   | (with_reducible refine at_n 9 ?_; refine wpList_allocI rfl 22 rfl .u8 32 zero_a32 ?_; intro w11 A9 s11 b11; have q11_2 := A2.lt; have q11_3 := A3.lt; have q11_5 := A5.lt; have q11_7 := A7.lt; replace A2 := A2.below b11; replace A3 := A3.below b11; replace A5 := A5.below b11; replace A7 := A7.below b11; replace BB := below_then BB b11; have y11 := BB.size)
   | (with_reducible refine at_op (o := ⟨_, .store 22 (.tmp 9) _, _, _, _, _⟩) ?_; refine wpList_storeI rfl 22 _ _ rfl 32 info_a32 (w10.heap.size) rfl .u8 _ (rn) rfl (A9) (rfl) (l_rn) ?_; intro D12; replace A2 := A2.rowOther (B' := w10.heap.size) (by omega) ((rn).map (Value.int .u8)).toArray; replace A3 := A3.rowOther (B' := w10.heap.size) (by omega) ((rn).map (Value.int .u8)).toArray; replace A5 := A5.rowOther (B' := w10.heap.size) (by omega) ((rn).map (Value.int .u8)).toArray; replace A7 := A7.rowOther (B' := w10.heap.size) (by omega) ((rn).map (Value.int .u8)).toArray; replace BB := Below.setRow BB (g := w10.heap.size) (by omega) ((rn).map (Value.int .u8)).toArray; clear A9; have A9 := D12)
   | (with_reducible refine at_n 33 ?_; refine wpList_val' (fun R hR => Does.loadM rfl 22 _ rfl 32 _ und_a32 rfl info_a32 (w.heap.size) 0 rfl .u8 (xa) (A2) (by omega) (sl_all l_xa) hR) ?_)
   | (with_reducible refine at_n 11 ?_; refine wpList_allocI rfl 22 rfl .u8 32 zero_a32 ?_; intro w14 A11 s14 b14; have q14_2 := A2.lt; have q14_3 := A3.lt; have q14_5 := A5.lt; have q14_7 := A7.lt; have q14_9 := A9.lt; replace A2 := A2.below b14; replace A3 := A3.below b14; replace A5 := A5.below b14; replace A7 := A7.below b14; replace A9 := A9.below b14; replace BB := below_then BB b14; have y14 := BB.size)
   | (with_reducible refine at_op (o := ⟨_, .store 22 (.tmp 11) _, _, _, _, _⟩) ?_; refine wpList_storeI rfl 22 _ _ rfl 32 info_a32 (w13.heap.size) rfl .u8 _ (rn) rfl (A11) (rfl) (l_rn) ?_; intro D15; replace A2 := A2.rowOther (B' := w13.heap.size) (by omega) ((rn).map (Value.int .u8)).toArray; replace A3 := A3.rowOther (B' := w13.heap.size) (by omega) ((rn).map (Value.int .u8)).toArray; replace A5 := A5.rowOther (B' := w13.heap.size) (by omega) ((rn).map (Value.int .u8)).toArray; replace A7 := A7.rowOther (B' := w13.heap.size) (by omega) ((rn).map (Value.int .u8)).toArray; replace A9 := A9.rowOther (B' := w13.heap.size) (by omega) ((rn).map (Value.int .u8)).toArray; replace BB := Below.setRow BB (g := w13.heap.size) (by omega) ((rn).map (Value.int .u8)).toArray; clear A11; have A11 := D15)
   | (go_at_call 10; first | ((with_reducible refine (H0 _ (hT.below BB)).mono ?_); rintro e w3 ⟨rfl, b3⟩; replace A2 := A2.below b3; replace A3 := A3.below b3; replace BB := below_then BB b3; have z3 := BB.size))
   | (go_at_call 11; first | ((with_reducible refine (H1 _ (hT.below BB)).mono ?_); rintro e w4 ⟨rfl, b4⟩; replace A2 := A2.below b4; replace A3 := A3.below b4; replace BB := below_then BB b4; have z4 := BB.size))
   | (go_at_call 12; first | ((with_reducible refine (H2 _).mono ?_); rintro e w7 ⟨rfl, b7⟩; replace A2 := A2.below b7; replace A3 := A3.below b7; replace A5 := A5.below b7; replace BB := below_then BB b7; have z7 := BB.size))
   | (go_at_call 13; first | ((with_reducible refine (H3 _ (hT.below BB)).mono ?_); rintro e w10 ⟨rfl, b10⟩; replace A2 := A2.below b10; replace A3 := A3.below b10; replace A5 := A5.below b10; replace A7 := A7.below b10; replace BB := below_then BB b10; have z10 := BB.size))
   | (go_at_call 14; first | ((with_reducible refine (H4 _).mono ?_); rintro e w13 ⟨rfl, b13⟩; replace A2 := A2.below b13; replace A3 := A3.below b13; replace A5 := A5.below b13; replace A7 := A7.below b13; replace A9 := A9.below b13; replace BB := below_then BB b13; have z13 := BB.size)))
 refine wp_world fun Wc16 hWc => ?_
 rw [← hWc] at BB A2 A3 A5 A7 A9 A11
 clear hWc
 have k16_0 := A2.lt
 have k16_1 := A3.lt
 have k16_2 := A5.lt
 have k16_3 := A7.lt
 have k16_4 := A9.lt
 have k16_5 := A11.lt
 refine wp_region_ord [[], [0], [], [2, 1], [1, 3], [4, 3], [5], [5], [6, 7, 5], [5, 8], [9, 5], [10], [10], [11, 12, 10], [10, 13], [14, 10], [15], [15], [16, 17, 15], [15, 18], [19, 15], [20], [20], [21, 22, 20], [20, 23], [24, 20, 0, 1, 2, 3, 4, 5, 6, 7, 8, 9, 10, 11, 12, 13, 14, 15, 16, 17, 18, 19, 20, 21, 22, 23, 24]] [some 37, some 38, some 39, some 40, some 41, some 42, some 43, some 44, some 45, some 46, some 47, some 48, some 49, some 50, some 51, some 52, some 53, some 54, some 55, some 56, some 57, some 58, some 59, some 60, some 61, some 4] 26 (fun b w' => Arr .u8 w' (w.heap.size) xa ∧ Arr .u8 w' (w1.heap.size) xb ∧ Arr .u8 w' (w4.heap.size) ra ∧ Arr .u8 w' (w7.heap.size) ra ∧ Arr .u8 w' (w10.heap.size) rn ∧ Arr .u8 w' (w13.heap.size) rn ∧ Below w.heap.size w w') (fun opn f _ => match opn with | 0 => f 0 = aggI .u8 xa | 1 => f 1 = .bool false | 2 => f 2 = aggI .u8 xa | 3 => f 3 = .bool false | 4 => f 4 = .bool true | 5 => f 5 = .bool true | 6 => f 6 = aggI .u8 ra | 7 => f 7 = aggI .u8 ra | 8 => f 8 = .bool true | 9 => f 9 = .bool true | 10 => f 10 = .bool true | 11 => f 11 = .int .i64 1 | 12 => f 12 = .int .i64 1 | 13 => f 13 = .bool true | 14 => f 14 = .bool true | 15 => f 15 = .bool true | 16 => f 16 = aggI .u8 rn | 17 => f 17 = aggI .u8 rn | 18 => f 18 = .bool true | 19 => f 19 = .bool true | 20 => f 20 = .bool true | 21 => f 21 = .int .i64 1 | 22 => f 22 = .int .i64 1 | 23 => f 23 = .bool true | 24 => f 24 = .bool true | 25 => f 25 = .bool true | _ => True) (fun _ _ _ => True) (by kernel_rfl) (by kernel_rfl) (by kernel_rfl) (by kernel_rfl) (fun b v v' hb h => ⟨h.1.below hb, h.2.1.below hb, h.2.2.1.below hb, h.2.2.2.1.below hb, h.2.2.2.2.1.below hb, h.2.2.2.2.2.1.below hb, below_then h.2.2.2.2.2.2 hb⟩) (fun _ _ _ _ _ h => h) (fun _ _ _ _ _ _ _ h => h) ⟨A2.drew, A3.drew, A5.drew, A7.drew, A9.drew, A11.drew, BB.drew⟩ ?_ ?_
 ·
  refine StepL.other (k := 0) rfl (fun b f W hb hG hH => ?_) ?_
  ·
   clear hH
   generalize hA : putL _ _ _ _ = A
   have q2 : A.eval (.tmp 2) = .pointer (some ⟨w.heap.size, 0, none⟩) := putLn hA 2 rfl rfl rfl
   clear hA
   exact Does.loadM rfl 22 _ rfl 32 _ und_a32 rfl info_a32 (w.heap.size) (0) q2 .u8 (xa) (hG.1) (by omega) (sl_all l_xa) ⟨Below.refl _ _, rfl⟩
  refine StepL.other (k := 1) rfl (fun b f W hb hG hH => ?_) ?_
  ·
   obtain ⟨d0, -⟩ := hH
   generalize hA : putL _ _ _ _ = A
   have q37 := putLl hA 37 d0 rfl rfl
   have r37 := slot_get q37
   clear hA
   refine Does.call rfl _ _ (by go_simp) ((H5 W (hT.below (hG.2.2.2.2.2.2))).mono ?_)
   rintro e w' ⟨rfl, hb'⟩
   exact ⟨_, rfl, hb', rfl⟩
  refine StepL.other (k := 2) rfl (fun b f W hb hG hH => ?_) ?_
  ·
   clear hH
   generalize hA : putL _ _ _ _ = A
   have q2 : A.eval (.tmp 2) = .pointer (some ⟨w.heap.size, 0, none⟩) := putLn hA 2 rfl rfl rfl
   clear hA
   exact Does.loadM rfl 22 _ rfl 32 _ und_a32 rfl info_a32 (w.heap.size) (0) q2 .u8 (xa) (hG.1) (by omega) (sl_all l_xa) ⟨Below.refl _ _, rfl⟩
  refine StepL.other (k := 3) rfl (fun b f W hb hG hH => ?_) ?_
  ·
   obtain ⟨d2, d1, -⟩ := hH
   generalize hA : putL _ _ _ _ = A
   have q39 := putLl hA 39 d2 rfl rfl
   have r39 := slot_get q39
   clear hA
   refine Does.call rfl _ _ (by go_simp) ((H6 W).mono ?_)
   rintro e w' ⟨rfl, hb'⟩
   exact ⟨_, rfl, hb', rfl⟩
  refine StepL.other (k := 4) rfl (fun b f W hb hG hH => ?_) ?_
  ·
   obtain ⟨d1, d3, -⟩ := hH
   generalize hA : putL _ _ _ _ = A
   have q38 := putLl hA 38 d1 rfl rfl
   have r38 := slot_get q38
   have q40 := putLl hA 40 d3 rfl rfl
   have r40 := slot_get q40
   clear hA
   refine Does.pure rfl (.bool true) ?_ ⟨Below.refl _ _, rfl⟩
   go_simp
  refine StepL.other (k := 5) rfl (fun b f W hb hG hH => ?_) ?_
  ·
   obtain ⟨d4, d3, -⟩ := hH
   generalize hA : putL _ _ _ _ = A
   have q41 := putLl hA 41 d4 rfl rfl
   have r41 := slot_get q41
   clear hA
   refine Does.pure rfl (.bool true) ?_ ⟨Below.refl _ _, rfl⟩
   go_simp
  refine StepL.other (k := 6) rfl (fun b f W hb hG hH => ?_) ?_
  ·
   obtain ⟨d5, -⟩ := hH
   generalize hA : putL _ _ _ _ = A
   have q5 : A.eval (.tmp 5) = .pointer (some ⟨w4.heap.size, 0, none⟩) := putLn hA 5 rfl rfl rfl
   have r5 := slot_get q5
   have q42 := putLl hA 42 d5 rfl rfl
   have r42 := slot_get q42
   clear hA
   exact Does.loadM (wanted_of (b := true) rfl rfl q42) 22 _ rfl 32 _ und_a32 rfl info_a32 (w4.heap.size) (0) q5 .u8 (ra) (hG.2.2.1) (by omega) (sl_all l_ra) ⟨Below.refl _ _, rfl⟩
  refine StepL.other (k := 7) rfl (fun b f W hb hG hH => ?_) ?_
  ·
   obtain ⟨d5, -⟩ := hH
   generalize hA : putL _ _ _ _ = A
   have q7 : A.eval (.tmp 7) = .pointer (some ⟨w7.heap.size, 0, none⟩) := putLn hA 7 rfl rfl rfl
   have r7 := slot_get q7
   have q42 := putLl hA 42 d5 rfl rfl
   have r42 := slot_get q42
   clear hA
   exact Does.loadM (wanted_of (b := true) rfl rfl q42) 22 _ rfl 32 _ und_a32 rfl info_a32 (w7.heap.size) (0) q7 .u8 (ra) (hG.2.2.2.1) (by omega) (sl_all l_ra) ⟨Below.refl _ _, rfl⟩
  refine StepL.other (k := 8) rfl (fun b f W hb hG hH => ?_) ?_
  ·
   obtain ⟨d6, d7, d5, -⟩ := hH
   generalize hA : putL _ _ _ _ = A
   have q43 := putLl hA 43 d6 rfl rfl
   have r43 := slot_get q43
   have q44 := putLl hA 44 d7 rfl rfl
   have r44 := slot_get q44
   have q42 := putLl hA 42 d5 rfl rfl
   have r42 := slot_get q42
   clear hA
   exact Does.eqlI (wanted_of (b := true) rfl rfl q42) 22 _ 5 _ _ rfl 32 und_a32 .u8 .u8 Tryd.underlying5 (by kernel_rfl) (by kernel_rfl) (ra) (ra) q43 q44 (l_ra) (l_ra) true (by simp) ⟨Below.refl _ _, rfl⟩
  refine StepL.other (k := 9) rfl (fun b f W hb hG hH => ?_) ?_
  ·
   obtain ⟨d5, d8, -⟩ := hH
   generalize hA : putL _ _ _ _ = A
   have q42 := putLl hA 42 d5 rfl rfl
   have r42 := slot_get q42
   have q45 := putLl hA 45 d8 rfl rfl
   have r45 := slot_get q45
   clear hA
   refine Does.pure rfl (.bool true) ?_ ⟨Below.refl _ _, rfl⟩
   go_simp
  refine StepL.other (k := 10) rfl (fun b f W hb hG hH => ?_) ?_
  ·
   obtain ⟨d9, d5, -⟩ := hH
   generalize hA : putL _ _ _ _ = A
   have q46 := putLl hA 46 d9 rfl rfl
   have r46 := slot_get q46
   clear hA
   refine Does.pure rfl (.bool true) ?_ ⟨Below.refl _ _, rfl⟩
   go_simp
  refine StepL.other (k := 11) rfl (fun b f W hb hG hH => ?_) ?_
  ·
   obtain ⟨d10, -⟩ := hH
   generalize hA : putL _ _ _ _ = A
   have q6 : A.eval (.tmp 6) = .int .i64 1 := putLn hA 6 rfl rfl rfl
   have r6 := slot_get q6
   have q47 := putLl hA 47 d10 rfl rfl
   have r47 := slot_get q47
   clear hA
   refine Does.pure (wanted_of (b := true) rfl rfl q47) (.int .i64 1) ?_ ⟨Below.refl _ _, rfl⟩
   go_simp
  refine StepL.other (k := 12) rfl (fun b f W hb hG hH => ?_) ?_
  ·
   obtain ⟨d10, -⟩ := hH
   generalize hA : putL _ _ _ _ = A
   have q8 : A.eval (.tmp 8) = .int .i64 1 := putLn hA 8 rfl rfl rfl
   have r8 := slot_get q8
   have q47 := putLl hA 47 d10 rfl rfl
   have r47 := slot_get q47
   clear hA
   refine Does.pure (wanted_of (b := true) rfl rfl q47) (.int .i64 1) ?_ ⟨Below.refl _ _, rfl⟩
   go_simp
  refine StepL.other (k := 13) rfl (fun b f W hb hG hH => ?_) ?_
  ·
   obtain ⟨d11, d12, d10, -⟩ := hH
   generalize hA : putL _ _ _ _ = A
   have q48 := putLl hA 48 d11 rfl rfl
   have r48 := slot_get q48
   have q49 := putLl hA 49 d12 rfl rfl
   have r49 := slot_get q49
   have q47 := putLl hA 47 d10 rfl rfl
   have r47 := slot_get q47
   clear hA
   refine Does.pure (wanted_of (b := true) rfl rfl q47) (.bool true) ?_ ⟨Below.refl _ _, rfl⟩
   go_simp
  refine StepL.other (k := 14) rfl (fun b f W hb hG hH => ?_) ?_
  ·
   obtain ⟨d10, d13, -⟩ := hH
   generalize hA : putL _ _ _ _ = A
   have q47 := putLl hA 47 d10 rfl rfl
   have r47 := slot_get q47
   have q50 := putLl hA 50 d13 rfl rfl
   have r50 := slot_get q50
   clear hA
   refine Does.pure rfl (.bool true) ?_ ⟨Below.refl _ _, rfl⟩
   go_simp
  refine StepL.other (k := 15) rfl (fun b f W hb hG hH => ?_) ?_
  ·
   obtain ⟨d14, d10, -⟩ := hH
   generalize hA : putL _ _ _ _ = A
   have q51 := putLl hA 51 d14 rfl rfl
   have r51 := slot_get q51
   clear hA
   refine Does.pure rfl (.bool true) ?_ ⟨Below.refl _ _, rfl⟩
   go_simp
  refine StepL.other (k := 16) rfl (fun b f W hb hG hH => ?_) ?_
  ·
   obtain ⟨d15, -⟩ := hH
   generalize hA : putL _ _ _ _ = A
   have q9 : A.eval (.tmp 9) = .pointer (some ⟨w10.heap.size, 0, none⟩) := putLn hA 9 rfl rfl rfl
   have r9 := slot_get q9
   have q52 := putLl hA 52 d15 rfl rfl
   have r52 := slot_get q52
   clear hA
   exact Does.loadM (wanted_of (b := true) rfl rfl q52) 22 _ rfl 32 _ und_a32 rfl info_a32 (w10.heap.size) (0) q9 .u8 (rn) (hG.2.2.2.2.1) (by omega) (sl_all l_rn) ⟨Below.refl _ _, rfl⟩
  refine StepL.other (k := 17) rfl (fun b f W hb hG hH => ?_) ?_
  ·
   obtain ⟨d15, -⟩ := hH
   generalize hA : putL _ _ _ _ = A
   have q11 : A.eval (.tmp 11) = .pointer (some ⟨w13.heap.size, 0, none⟩) := putLn hA 11 rfl rfl rfl
   have r11 := slot_get q11
   have q52 := putLl hA 52 d15 rfl rfl
   have r52 := slot_get q52
   clear hA
   exact Does.loadM (wanted_of (b := true) rfl rfl q52) 22 _ rfl 32 _ und_a32 rfl info_a32 (w13.heap.size) (0) q11 .u8 (rn) (hG.2.2.2.2.2.1) (by omega) (sl_all l_rn) ⟨Below.refl _ _, rfl⟩
  refine StepL.other (k := 18) rfl (fun b f W hb hG hH => ?_) ?_
  ·
   obtain ⟨d16, d17, d15, -⟩ := hH
   generalize hA : putL _ _ _ _ = A
   have q53 := putLl hA 53 d16 rfl rfl
   have r53 := slot_get q53
   have q54 := putLl hA 54 d17 rfl rfl
   have r54 := slot_get q54
   have q52 := putLl hA 52 d15 rfl rfl
   have r52 := slot_get q52
   clear hA
   exact Does.eqlI (wanted_of (b := true) rfl rfl q52) 22 _ 5 _ _ rfl 32 und_a32 .u8 .u8 Tryd.underlying5 (by kernel_rfl) (by kernel_rfl) (rn) (rn) q53 q54 (l_rn) (l_rn) true (by simp) ⟨Below.refl _ _, rfl⟩
  refine StepL.other (k := 19) rfl (fun b f W hb hG hH => ?_) ?_
  ·
   obtain ⟨d15, d18, -⟩ := hH
   generalize hA : putL _ _ _ _ = A
   have q52 := putLl hA 52 d15 rfl rfl
   have r52 := slot_get q52
   have q55 := putLl hA 55 d18 rfl rfl
   have r55 := slot_get q55
   clear hA
   refine Does.pure rfl (.bool true) ?_ ⟨Below.refl _ _, rfl⟩
   go_simp
  refine StepL.other (k := 20) rfl (fun b f W hb hG hH => ?_) ?_
  ·
   obtain ⟨d19, d15, -⟩ := hH
   generalize hA : putL _ _ _ _ = A
   have q56 := putLl hA 56 d19 rfl rfl
   have r56 := slot_get q56
   clear hA
   refine Does.pure rfl (.bool true) ?_ ⟨Below.refl _ _, rfl⟩
   go_simp
  refine StepL.other (k := 21) rfl (fun b f W hb hG hH => ?_) ?_
  ·
   obtain ⟨d20, -⟩ := hH
   generalize hA : putL _ _ _ _ = A
   have q10 : A.eval (.tmp 10) = .int .i64 1 := putLn hA 10 rfl rfl rfl
   have r10 := slot_get q10
   have q57 := putLl hA 57 d20 rfl rfl
   have r57 := slot_get q57
   clear hA
   refine Does.pure (wanted_of (b := true) rfl rfl q57) (.int .i64 1) ?_ ⟨Below.refl _ _, rfl⟩
   go_simp
  refine StepL.other (k := 22) rfl (fun b f W hb hG hH => ?_) ?_
  ·
   obtain ⟨d20, -⟩ := hH
   generalize hA : putL _ _ _ _ = A
   have q12 : A.eval (.tmp 12) = .int .i64 1 := putLn hA 12 rfl rfl rfl
   have r12 := slot_get q12
   have q57 := putLl hA 57 d20 rfl rfl
   have r57 := slot_get q57
   clear hA
   refine Does.pure (wanted_of (b := true) rfl rfl q57) (.int .i64 1) ?_ ⟨Below.refl _ _, rfl⟩
   go_simp
  refine StepL.other (k := 23) rfl (fun b f W hb hG hH => ?_) ?_
  ·
   obtain ⟨d21, d22, d20, -⟩ := hH
   generalize hA : putL _ _ _ _ = A
   have q58 := putLl hA 58 d21 rfl rfl
   have r58 := slot_get q58
   have q59 := putLl hA 59 d22 rfl rfl
   have r59 := slot_get q59
   have q57 := putLl hA 57 d20 rfl rfl
   have r57 := slot_get q57
   clear hA
   refine Does.pure (wanted_of (b := true) rfl rfl q57) (.bool true) ?_ ⟨Below.refl _ _, rfl⟩
   go_simp
  refine StepL.other (k := 24) rfl (fun b f W hb hG hH => ?_) ?_
  ·
   obtain ⟨d20, d23, -⟩ := hH
   generalize hA : putL _ _ _ _ = A
   have q57 := putLl hA 57 d20 rfl rfl
   have r57 := slot_get q57
   have q60 := putLl hA 60 d23 rfl rfl
   have r60 := slot_get q60
   clear hA
   refine Does.pure rfl (.bool true) ?_ ⟨Below.refl _ _, rfl⟩
   go_simp
  refine StepL.other (k := 25) rfl (fun b f W hb hG hH => ?_) ?_
  ·
   obtain ⟨d24, d20, d0, d1, d2, d3, d4, d5, d6, d7, d8, d9, d10, d11, d12, d13, d14, d15, d16, d17, d18, d19, -, d21, d22, d23, -, -⟩ := hH
   generalize hA : putL _ _ _ _ = A
   have q61 := putLl hA 61 d24 rfl rfl
   have r61 := slot_get q61
   clear hA
   refine Does.pure rfl (.bool true) ?_ ⟨Below.refl _ _, rfl⟩
   go_simp
  exact trivial
 ·
  intro f V16 hG hH
  obtain ⟨d0, d1, d2, d3, d4, d5, d6, d7, d8, d9, d10, d11, d12, d13, d14, d15, d16, d17, d18, d19, d20, d21, d22, d23, d24, d25, -⟩ : (f 0 = aggI .u8 xa) ∧ (f 1 = .bool false) ∧ (f 2 = aggI .u8 xa) ∧ (f 3 = .bool false) ∧ (f 4 = .bool true) ∧ (f 5 = .bool true) ∧ (f 6 = aggI .u8 ra) ∧ (f 7 = aggI .u8 ra) ∧ (f 8 = .bool true) ∧ (f 9 = .bool true) ∧ (f 10 = .bool true) ∧ (f 11 = .int .i64 1) ∧ (f 12 = .int .i64 1) ∧ (f 13 = .bool true) ∧ (f 14 = .bool true) ∧ (f 15 = .bool true) ∧ (f 16 = aggI .u8 rn) ∧ (f 17 = aggI .u8 rn) ∧ (f 18 = .bool true) ∧ (f 19 = .bool true) ∧ (f 20 = .bool true) ∧ (f 21 = .int .i64 1) ∧ (f 22 = .int .i64 1) ∧ (f 23 = .bool true) ∧ (f 24 = .bool true) ∧ (f 25 = .bool true) ∧ True := hH
  rw [show List.range (List.length [[], [0], [], [2, 1], [1, 3], [4, 3], [5], [5], [6, 7, 5], [5, 8], [9, 5], [10], [10], [11, 12, 10], [10, 13], [14, 10], [15], [15], [16, 17, 15], [15, 18], [19, 15], [20], [20], [21, 22, 20], [20, 23], [24, 20, 0, 1, 2, 3, 4, 5, 6, 7, 8, 9, 10, 11, 12, 13, 14, 15, 16, 17, 18, 19, 20, 21, 22, 23, 24]]) = [0, 1, 2, 3, 4, 5, 6, 7, 8, 9, 10, 11, 12, 13, 14, 15, 16, 17, 18, 19, 20, 21, 22, 23, 24, 25] from rfl]
  simp only [putL, List.getElem?_cons_zero, List.getElem?_cons_succ, Option.join, Option.bind_some, id_eq, Act.put, List.setIfInBounds_toArray, List.set_cons_zero, List.set_cons_succ, d0, d1, d2, d3, d4, d5, d6, d7, d8, d9, d10, d11, d12, d13, d14, d15, d16, d17, d18, d19, d20, d21, d22, d23, d24, d25]
  clear d0 d1 d2 d3 d4 d5 d6 d7 d8 d9 d10 d11 d12 d13 d14 d15 d16 d17 d18 d19 d20 d21 d22 d23 d24 d25
  clear A2 A3 A5 A7 A9 A11
  obtain ⟨A2, A3, A5, A7, A9, A11, BV⟩ := hG
  clear BB
  have BB := BV
  clear BV
  have zz16 := BB.size
  go_wp2
  go_ret
  exact ⟨rfl, BB⟩
theorem adds_v {a b : List Int} (ha : Bytes a) (la : a.length = 32) (hb : Bytes b) (lb : b.length = 32) (w : World) (hT : TabD w) : Calls Tryd.prog 3 #[aggI .u8 a, aggI .u8 b] w fun e w' => e = .returned (.bool true) ∧ Below w.heap.size w w' := by
  by_cases h : IsPt a
  · by_cases k : IsPt b
    · exact adds_tt (hT := hT) (l_xa := la) (l_xb := lb) (l_ra := encB_len _) (l_rn := encB_len _) (H0 := alive_v) (H1 := add_yes ha la hb lb h k) (H2 := radd_yes ha la hb lb h k) (H3 := neg_yes ha la h) (H4 := rneg_yes ha la h) (H5 := right_yes ha la h) (H6 := rright_yes ha la h)
    · have n : ¬ (IsPt a ∧ IsPt b) := fun x => k x.2
      exact adds_tf (hT := hT) (l_xa := la) (l_xb := lb) (l_ra := z32_len) (l_rn := encB_len _) (H0 := alive_v) (H1 := add_not ha la hb lb n) (H2 := radd_not ha la hb lb n) (H3 := neg_yes ha la h) (H4 := rneg_yes ha la h) (H5 := right_yes ha la h) (H6 := rright_yes ha la h)
  · have n : ¬ (IsPt a ∧ IsPt b) := fun x => h x.1
    exact adds_f (hT := hT) (l_xa := la) (l_xb := lb) (l_ra := z32_len) (l_rn := z32_len) (H0 := alive_v) (H1 := add_not ha la hb lb n) (H2 := radd_not ha la hb lb n) (H3 := neg_not ha la h) (H4 := rneg_not ha la h) (H5 := right_not ha la h) (H6 := rright_not ha la h)
end Go.Proofs.YtelppapkffjmpaaDoor
