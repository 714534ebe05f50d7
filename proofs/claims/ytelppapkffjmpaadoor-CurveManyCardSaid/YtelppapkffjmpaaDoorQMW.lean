/- CurveMany of layer 10. -/
import Derived.Test.YtelppapkffjmpaaDoorQMS
import Derived.Test.YtelppapkffjmpaaDoorQMU
import Derived.Test.YtelppapkffjmpaaDoorQMX
namespace Go.Proofs.YtelppapkffjmpaaDoor
open Go.RowKit Go.Shelf
set_option linter.unusedVariables false
set_option maxRecDepth 8000

set_option maxHeartbeats 8000000 in
theorem many_l (xa xb ln lb ba bb rs bu0 rp ms bu1 mp : List Int) (w : World) (hT : TabD w)
  (l_xa : xa.length = 32) (l_xb : xb.length = 32) (l_ln : ln.length = 4) (l_lb : lb.length = 32) (l_ba : ba.length = 32) (l_bb : bb.length = 32) (l_rs : rs.length = 32) (l_bu0 : bu0.length = 32) (l_rp : rp.length = 32) (l_ms : ms.length = 32) (l_bu1 : bu1.length = 32) (l_mp : mp.length = 32)
  (hbu0 : Tryd.prog.built 22 [(0, .int .u8 1)] = some (bu0.map (Value.int .u8)).toArray)
  (hbu1 : Tryd.prog.built 22 [] = some (bu1.map (Value.int .u8)).toArray)
  (H0 : ∀ W, TabD W → Ret 10 #[] (.bool true) W)
  (H1 : ∀ W, Ret 24 #[] (aggI .u64 ln) W)
  (H2 : ∀ W, Ret 23 #[aggI .u64 ln] (aggI .u8 lb) W)
  (H3 : ∀ W, TabD W → Ret 19 #[aggI .u8 xa] (aggI .u8 ba) W)
  (H4 : ∀ W, TabD W → Ret 19 #[aggI .u8 xb] (aggI .u8 bb) W)
  (H5 : ∀ W, TabD W → Ret 11 #[aggI .u8 ba, aggI .u8 bb] (.tuple #[aggI .u8 rs, .int .i64 0]) W)
  (H6 : ∀ W, TabD W → Ret 17 #[aggI .u8 xb, aggI .u8 ba] (.tuple #[aggI .u8 rp, .int .i64 0]) W)
  (H7 : ∀ W, Ret 25 #[aggI .u8 xa, aggI .u8 bu0, aggI .u8 xb] (aggI .u8 ms) W)
  (H8 : ∀ W, TabD W → Ret 19 #[aggI .u8 ms] (aggI .u8 rs) W)
  (H9 : ∀ W, Ret 25 #[aggI .u8 xa, aggI .u8 xb, aggI .u8 bu1] (aggI .u8 mp) W)
  (H10 : ∀ W, TabD W → Ret 19 #[aggI .u8 mp] (aggI .u8 rp) W)
  (H11 : ∀ W, TabD W → Ret 19 #[aggI .u8 lb] (aggI .u8 bu0) W) :
  Calls Tryd.prog 7 #[aggI .u8 xa, aggI .u8 xb] w fun e w' => e = .returned (.bool true) ∧ Below w.heap.size w w' := by
 go_enter Tryd.func7, Tryd.ntmps7
 go_wp2_with (first
   | (with_reducible refine at_n 2 ?_; refine wpList_boxI rfl 22 _ rfl .u8 xa rfl ?_; intro w1 A2 s1 b1; have BB := b1; have y1 := BB.size)
   | (with_reducible refine at_n 3 ?_; refine wpList_boxI rfl 22 _ rfl .u8 xb rfl ?_; intro w2 A3 s2 b2; have q2_2 := A2.lt; replace A2 := A2.below b2; replace BB := below_then BB b2; have y2 := BB.size)
   | (with_reducible refine at_n 5 ?_; refine wpList_allocI rfl 22 rfl .u8 32 zero_a32 ?_; intro w6 A5 s6 b6; have q6_2 := A2.lt; have q6_3 := A3.lt; replace A2 := A2.below b6; replace A3 := A3.below b6; replace BB := below_then BB b6; have y6 := BB.size)
   | (with_reducible refine at_op (o := ⟨_, .store 22 (.tmp 5) _, _, _, _, _⟩) ?_; refine wpList_storeI rfl 22 _ _ rfl 32 info_a32 (w5.heap.size) rfl .u8 _ (lb) rfl (A5) (rfl) (l_lb) ?_; intro D7; replace A2 := A2.rowOther (B' := w5.heap.size) (by omega) ((lb).map (Value.int .u8)).toArray; replace A3 := A3.rowOther (B' := w5.heap.size) (by omega) ((lb).map (Value.int .u8)).toArray; replace BB := Below.setRow BB (g := w5.heap.size) (by omega) ((lb).map (Value.int .u8)).toArray; clear A5; have A5 := D7)
   | (go_at_call 10; first | ((with_reducible refine (H0 _ (hT.below BB)).mono ?_); rintro e w3 ⟨rfl, b3⟩; replace A2 := A2.below b3; replace A3 := A3.below b3; replace BB := below_then BB b3; have z3 := BB.size))
   | (go_at_call 24; first | ((with_reducible refine (H1 _).mono ?_); rintro e w4 ⟨rfl, b4⟩; replace A2 := A2.below b4; replace A3 := A3.below b4; replace BB := below_then BB b4; have z4 := BB.size))
   | (go_at_call 23; first | ((with_reducible refine (H2 _).mono ?_); rintro e w5 ⟨rfl, b5⟩; replace A2 := A2.below b5; replace A3 := A3.below b5; replace BB := below_then BB b5; have z5 := BB.size)))
 refine wp_world fun Wc8 hWc => ?_
 rw [← hWc] at BB A2 A3 A5
 clear hWc
 have k8_0 := A2.lt
 have k8_1 := A3.lt
 have k8_2 := A5.lt
 refine wp_region_new [[], [0], [], [2, 1], [1, 3, 3], [4], [5], [5], [], [8, 6, 4, 0, 1, 2, 3, 4, 5, 6, 8], [7, 9, 0, 1, 2, 3, 4, 5, 6, 7, 8, 9]] [some 16, some 17, some 18, some 19, some 20, some 15, some 21, some 22, some 6, none, some 7] (Wc8.heap.size) [⟨8, 9, .u8, 32, rs⟩] (fun w' => Arr .u8 w' (w.heap.size) xa ∧ Arr .u8 w' (w1.heap.size) xb ∧ Arr .u8 w' (w5.heap.size) lb ∧ Below Wc8.heap.size Wc8 w') (fun opn f _ => match opn with | 0 => f 0 = aggI .u8 xa | 1 => f 1 = aggI .u8 ba | 2 => f 2 = aggI .u8 xb | 3 => f 3 = aggI .u8 bb | 4 => f 4 = .tuple #[aggI .u8 rs, .int .i64 0] | 5 => f 5 = .tuple #[aggI .u8 rs, .int .i64 0] | 6 => f 6 = aggI .u8 rs | 7 => f 7 = .int .i64 0 | 10 => f 10 = .int .i64 0 | _ => True) (by kernel_rfl) (by kernel_rfl) (by kernel_rfl) (by kernel_rfl) rfl (by intro it h it' h' e; simp only [List.mem_cons, List.not_mem_nil, or_false] at h h'; rcases h with rfl <;> rcases h' with rfl <;> first | rfl | (simp at e)) (fun v v' hb h => ⟨h.1.below hb, h.2.1.below hb, h.2.2.1.below hb, below_then h.2.2.2 hb⟩) (fun v h => h.2.2.2.size) (fun v B cs hB h => ⟨h.1.rowOther (by omega) _, h.2.1.rowOther (by omega) _, h.2.2.1.rowOther (by omega) _, Below.setRow h.2.2.2 (by omega) _⟩) (fun _ _ _ _ h => h) ⟨A2.drew, A3.drew, A5.drew, (Below.refl _ _).drew⟩ ?_ (by intro it h; simp only [List.mem_cons, List.not_mem_nil, or_false] at h; rcases h with rfl <;> exact ⟨by simp, by simp⟩) ?_
 ·
  refine StepN.plain rfl (fun f W hG hH => ?_) ?_
  ·
   clear hH
   generalize hA : putL _ _ _ _ = A
   have q2 : A.eval (.tmp 2) = .pointer (some ⟨w.heap.size, 0, none⟩) := putLn hA 2 rfl rfl rfl
   clear hA
   exact Does.loadM rfl 22 _ rfl 32 _ und_a32 rfl info_a32 (w.heap.size) (0) q2 .u8 (xa) (hG.1) (by omega) (sl_all l_xa) ⟨Below.refl _ _, rfl⟩
  refine StepN.plain rfl (fun f W hG hH => ?_) ?_
  ·
   obtain ⟨d0, -⟩ := hH
   generalize hA : putL _ _ _ _ = A
   have q16 := putLl hA 16 d0 rfl rfl
   have r16 := slot_get q16
   clear hA
   refine Does.call rfl _ _ (by go_simp) ((H3 W (hT.below (below_then BB hG.2.2.2))).mono ?_)
   rintro e w' ⟨rfl, hb'⟩
   exact ⟨_, rfl, hb', rfl⟩
  refine StepN.plain rfl (fun f W hG hH => ?_) ?_
  ·
   clear hH
   generalize hA : putL _ _ _ _ = A
   have q3 : A.eval (.tmp 3) = .pointer (some ⟨w1.heap.size, 0, none⟩) := putLn hA 3 rfl rfl rfl
   clear hA
   exact Does.loadM rfl 22 _ rfl 32 _ und_a32 rfl info_a32 (w1.heap.size) (0) q3 .u8 (xb) (hG.2.1) (by omega) (sl_all l_xb) ⟨Below.refl _ _, rfl⟩
  refine StepN.plain rfl (fun f W hG hH => ?_) ?_
  ·
   obtain ⟨d2, d1, -⟩ := hH
   generalize hA : putL _ _ _ _ = A
   have q18 := putLl hA 18 d2 rfl rfl
   have r18 := slot_get q18
   clear hA
   refine Does.call rfl _ _ (by go_simp) ((H4 W (hT.below (below_then BB hG.2.2.2))).mono ?_)
   rintro e w' ⟨rfl, hb'⟩
   exact ⟨_, rfl, hb', rfl⟩
  refine StepN.plain rfl (fun f W hG hH => ?_) ?_
  ·
   obtain ⟨d1, d3, -, -⟩ := hH
   generalize hA : putL _ _ _ _ = A
   have q17 := putLl hA 17 d1 rfl rfl
   have r17 := slot_get q17
   have q19 := putLl hA 19 d3 rfl rfl
   have r19 := slot_get q19
   clear hA
   refine Does.call rfl _ _ (by go_simp) ((H5 W (hT.below (below_then BB hG.2.2.2))).mono ?_)
   rintro e w' ⟨rfl, hb'⟩
   exact ⟨_, rfl, hb', rfl⟩
  refine StepN.plain rfl (fun f W hG hH => ?_) ?_
  ·
   obtain ⟨d4, -⟩ := hH
   generalize hA : putL _ _ _ _ = A
   have q20 := putLl hA 20 d4 rfl rfl
   have r20 := slot_get q20
   clear hA
   refine Does.pure rfl (.tuple #[aggI .u8 rs, .int .i64 0]) ?_ ⟨Below.refl _ _, rfl⟩
   go_simp
  refine StepN.plain rfl (fun f W hG hH => ?_) ?_
  ·
   obtain ⟨d5, -⟩ := hH
   generalize hA : putL _ _ _ _ = A
   have q15 := putLl hA 15 d5 rfl rfl
   have r15 := slot_get q15
   clear hA
   refine Does.pure rfl (aggI .u8 rs) ?_ ⟨Below.refl _ _, rfl⟩
   go_simp
  refine StepN.plain rfl (fun f W hG hH => ?_) ?_
  ·
   obtain ⟨d5, -⟩ := hH
   generalize hA : putL _ _ _ _ = A
   have q15 := putLl hA 15 d5 rfl rfl
   have r15 := slot_get q15
   clear hA
   refine Does.pure rfl (.int .i64 0) ?_ ⟨Below.refl _ _, rfl⟩
   go_simp
  refine StepN.alloc rfl (fun _ _ => trivial) (fun A W => ?_) ?_
  ·
   refine Does.allocI rfl 22 rfl .u8 32 zero_a32 ?_
   intro W1 D1 s1 b1'
   exact ⟨b1', rfl, D1⟩
  refine StepN.store rfl (fun _ _ => trivial) (fun f W B hG hH hB hZ => ?_) ?_
  ·
   obtain ⟨-, d6, d4, d0, d1, d2, d3, -, d5, -, -, -⟩ := hH
   generalize hA : putL _ _ _ _ = A
   have q6 : A.eval (.tmp 6) = f 8 := putLl hA 6 rfl rfl rfl
   have r6 := slot_get q6
   have q21 := putLl hA 21 d6 rfl rfl
   have r21 := slot_get q21
   clear hA
   have hB : f 8 = .pointer (some ⟨B, 0, none⟩) := hB
   rw [hB] at q6
   refine Does.storeI rfl 22 _ _ rfl 32 info_a32 B q6 .u8 _ (rs) q21 hZ (by rfl) (l_rs) ?_
   intro A9
   exact ⟨rfl, A9⟩
  refine StepN.plain rfl (fun f W hG hH => ?_) ?_
  ·
   obtain ⟨d7, -, d0, d1, d2, d3, d4, d5, d6, -, -, -, -⟩ := hH
   generalize hA : putL _ _ _ _ = A
   have q22 := putLl hA 22 d7 rfl rfl
   have r22 := slot_get q22
   clear hA
   refine Does.pure rfl (.int .i64 0) ?_ ⟨Below.refl _ _, rfl⟩
   go_simp
  exact trivial
 ·
  intro f V8 hG hH hN
  obtain ⟨d0, d1, d2, d3, d4, d5, d6, d7, -, -, d10, -⟩ : (f 0 = aggI .u8 xa) ∧ (f 1 = aggI .u8 ba) ∧ (f 2 = aggI .u8 xb) ∧ (f 3 = aggI .u8 bb) ∧ (f 4 = .tuple #[aggI .u8 rs, .int .i64 0]) ∧ (f 5 = .tuple #[aggI .u8 rs, .int .i64 0]) ∧ (f 6 = aggI .u8 rs) ∧ (f 7 = .int .i64 0) ∧ (True) ∧ (True) ∧ (f 10 = .int .i64 0) ∧ True := hH
  rw [show List.range (List.length [[], [0], [], [2, 1], [1, 3, 3], [4], [5], [5], [], [8, 6, 4, 0, 1, 2, 3, 4, 5, 6, 8], [7, 9, 0, 1, 2, 3, 4, 5, 6, 7, 8, 9]]) = [0, 1, 2, 3, 4, 5, 6, 7, 8, 9, 10] from rfl]
  obtain ⟨loc, hn1, hn2⟩ := hN
  obtain ⟨hN0, kN0, A6⟩ : f 8 = .pointer (some ⟨loc 8, 0, none⟩) ∧ Wc8.heap.size ≤ loc 8 ∧ Arr .u8 V8 (loc 8) rs := hn1 ⟨8, 9, .u8, 32, rs⟩ (by simp) rfl
  clear hn1 hn2
  generalize loc 8 = N8_0 at *
  simp only [putL, List.getElem?_cons_zero, List.getElem?_cons_succ, Option.join, Option.bind_some, id_eq, Act.put, List.setIfInBounds_toArray, List.set_cons_zero, List.set_cons_succ, d0, d1, d2, d3, d4, d5, d6, d7, d10, hN0]
  clear d0 d1 d2 d3 d4 d5 d6 d7 d10 hN0
  clear A2 A3 A5
  obtain ⟨A2, A3, A5, BV⟩ := hG
  replace BB := below_then BB BV
  clear BV
  have zz8 := BB.size
  go_wp2_with (first
    | (with_reducible refine at_n 23 ?_; go_loud (refine wpList_val' (fun R hR => Does.buildI rfl 22 _ rfl .u8 (bu0) _ (hbu0) rfl hR) ?_))
    | (with_reducible refine at_n 8 ?_; refine wpList_allocI rfl 22 rfl .u8 32 zero_a32 ?_; intro w9 A8 s9 b9; have q9_2 := A2.lt; have q9_3 := A3.lt; have q9_5 := A5.lt; have q9_6 := A6.lt; replace A2 := A2.below b9; replace A3 := A3.below b9; replace A5 := A5.below b9; replace A6 := A6.below b9; replace BB := below_then BB b9; have y9 := BB.size)
    | (with_reducible refine at_op (o := ⟨_, .store 22 (.tmp 8) _, _, _, _, _⟩) ?_; refine wpList_storeI rfl 22 _ _ rfl 32 info_a32 (V8.heap.size) rfl .u8 _ (bu0) rfl (A8) (rfl) (l_bu0) ?_; intro D10; replace A2 := A2.rowOther (B' := V8.heap.size) (by omega) ((bu0).map (Value.int .u8)).toArray; replace A3 := A3.rowOther (B' := V8.heap.size) (by omega) ((bu0).map (Value.int .u8)).toArray; replace A5 := A5.rowOther (B' := V8.heap.size) (by omega) ((bu0).map (Value.int .u8)).toArray; replace A6 := A6.rowOther (B' := V8.heap.size) (by omega) ((bu0).map (Value.int .u8)).toArray; replace BB := Below.setRow BB (g := V8.heap.size) (by omega) ((bu0).map (Value.int .u8)).toArray; clear A8; have A8 := D10))
  refine wp_world fun Wc11 hWc => ?_
  rw [← hWc] at BB A2 A3 A5 A6 A8
  clear hWc
  have k11_0 := A2.lt
  have k11_1 := A3.lt
  have k11_2 := A5.lt
  have k11_3 := A6.lt
  have k11_4 := A8.lt
  refine wp_region_new [[], [], [1], [0, 2, 2], [3], [4], [4], [], [7, 5, 3, 0, 1, 2, 3, 4, 5, 7], [6, 8, 0, 1, 2, 3, 4, 5, 6, 7, 8]] [some 25, some 26, some 27, some 28, some 24, some 29, some 30, some 9, none, some 10] (Wc11.heap.size) [⟨7, 8, .u8, 32, rp⟩] (fun w' => Arr .u8 w' (w.heap.size) xa ∧ Arr .u8 w' (w1.heap.size) xb ∧ Arr .u8 w' (w5.heap.size) lb ∧ Arr .u8 w' (N8_0) rs ∧ Arr .u8 w' (V8.heap.size) bu0 ∧ Below Wc11.heap.size Wc11 w') (fun opn f _ => match opn with | 0 => f 0 = aggI .u8 xb | 1 => f 1 = aggI .u8 xa | 2 => f 2 = aggI .u8 ba | 3 => f 3 = .tuple #[aggI .u8 rp, .int .i64 0] | 4 => f 4 = .tuple #[aggI .u8 rp, .int .i64 0] | 5 => f 5 = aggI .u8 rp | 6 => f 6 = .int .i64 0 | 9 => f 9 = .int .i64 0 | _ => True) (by kernel_rfl) (by kernel_rfl) (by kernel_rfl) (by kernel_rfl) rfl (by intro it h it' h' e; simp only [List.mem_cons, List.not_mem_nil, or_false] at h h'; rcases h with rfl <;> rcases h' with rfl <;> first | rfl | (simp at e)) (fun v v' hb h => ⟨h.1.below hb, h.2.1.below hb, h.2.2.1.below hb, h.2.2.2.1.below hb, h.2.2.2.2.1.below hb, below_then h.2.2.2.2.2 hb⟩) (fun v h => h.2.2.2.2.2.size) (fun v B cs hB h => ⟨h.1.rowOther (by omega) _, h.2.1.rowOther (by omega) _, h.2.2.1.rowOther (by omega) _, h.2.2.2.1.rowOther (by omega) _, h.2.2.2.2.1.rowOther (by omega) _, Below.setRow h.2.2.2.2.2 (by omega) _⟩) (fun _ _ _ _ h => h) ⟨A2.drew, A3.drew, A5.drew, A6.drew, A8.drew, (Below.refl _ _).drew⟩ ?_ (by intro it h; simp only [List.mem_cons, List.not_mem_nil, or_false] at h; rcases h with rfl <;> exact ⟨by simp, by simp⟩) ?_
  ·
   refine StepN.plain rfl (fun f W hG hH => ?_) ?_
   ·
    clear hH
    generalize hA : putL _ _ _ _ = A
    have q3 : A.eval (.tmp 3) = .pointer (some ⟨w1.heap.size, 0, none⟩) := putLn hA 3 rfl rfl rfl
    clear hA
    exact Does.loadM rfl 22 _ rfl 32 _ und_a32 rfl info_a32 (w1.heap.size) (0) q3 .u8 (xb) (hG.2.1) (by omega) (sl_all l_xb) ⟨Below.refl _ _, rfl⟩
   refine StepN.plain rfl (fun f W hG hH => ?_) ?_
   ·
    clear hH
    generalize hA : putL _ _ _ _ = A
    have q2 : A.eval (.tmp 2) = .pointer (some ⟨w.heap.size, 0, none⟩) := putLn hA 2 rfl rfl rfl
    clear hA
    exact Does.loadM rfl 22 _ rfl 32 _ und_a32 rfl info_a32 (w.heap.size) (0) q2 .u8 (xa) (hG.1) (by omega) (sl_all l_xa) ⟨Below.refl _ _, rfl⟩
   refine StepN.plain rfl (fun f W hG hH => ?_) ?_
   ·
    obtain ⟨d1, -⟩ := hH
    generalize hA : putL _ _ _ _ = A
    have q26 := putLl hA 26 d1 rfl rfl
    have r26 := slot_get q26
    clear hA
    refine Does.call rfl _ _ (by go_simp) ((H3 W (hT.below (below_then BB hG.2.2.2.2.2))).mono ?_)
    rintro e w' ⟨rfl, hb'⟩
    exact ⟨_, rfl, hb', rfl⟩
   refine StepN.plain rfl (fun f W hG hH => ?_) ?_
   ·
    obtain ⟨d0, d2, -, -⟩ := hH
    generalize hA : putL _ _ _ _ = A
    have q25 := putLl hA 25 d0 rfl rfl
    have r25 := slot_get q25
    have q27 := putLl hA 27 d2 rfl rfl
    have r27 := slot_get q27
    clear hA
    refine Does.call rfl _ _ (by go_simp) ((H6 W (hT.below (below_then BB hG.2.2.2.2.2))).mono ?_)
    rintro e w' ⟨rfl, hb'⟩
    exact ⟨_, rfl, hb', rfl⟩
   refine StepN.plain rfl (fun f W hG hH => ?_) ?_
   ·
    obtain ⟨d3, -⟩ := hH
    generalize hA : putL _ _ _ _ = A
    have q28 := putLl hA 28 d3 rfl rfl
    have r28 := slot_get q28
    clear hA
    refine Does.pure rfl (.tuple #[aggI .u8 rp, .int .i64 0]) ?_ ⟨Below.refl _ _, rfl⟩
    go_simp
   refine StepN.plain rfl (fun f W hG hH => ?_) ?_
   ·
    obtain ⟨d4, -⟩ := hH
    generalize hA : putL _ _ _ _ = A
    have q24 := putLl hA 24 d4 rfl rfl
    have r24 := slot_get q24
    clear hA
    refine Does.pure rfl (aggI .u8 rp) ?_ ⟨Below.refl _ _, rfl⟩
    go_simp
   refine StepN.plain rfl (fun f W hG hH => ?_) ?_
   ·
    obtain ⟨d4, -⟩ := hH
    generalize hA : putL _ _ _ _ = A
    have q24 := putLl hA 24 d4 rfl rfl
    have r24 := slot_get q24
    clear hA
    refine Does.pure rfl (.int .i64 0) ?_ ⟨Below.refl _ _, rfl⟩
    go_simp
   refine StepN.alloc rfl (fun _ _ => trivial) (fun A W => ?_) ?_
   ·
    refine Does.allocI rfl 22 rfl .u8 32 zero_a32 ?_
    intro W1 D1 s1 b1'
    exact ⟨b1', rfl, D1⟩
   refine StepN.store rfl (fun _ _ => trivial) (fun f W B hG hH hB hZ => ?_) ?_
   ·
    obtain ⟨-, d5, d3, d0, d1, d2, -, d4, -, -, -⟩ := hH
    generalize hA : putL _ _ _ _ = A
    have q9 : A.eval (.tmp 9) = f 7 := putLl hA 9 rfl rfl rfl
    have r9 := slot_get q9
    have q29 := putLl hA 29 d5 rfl rfl
    have r29 := slot_get q29
    clear hA
    have hB : f 7 = .pointer (some ⟨B, 0, none⟩) := hB
    rw [hB] at q9
    refine Does.storeI rfl 22 _ _ rfl 32 info_a32 B q9 .u8 _ (rp) q29 hZ (by rfl) (l_rp) ?_
    intro A9
    exact ⟨rfl, A9⟩
   refine StepN.plain rfl (fun f W hG hH => ?_) ?_
   ·
    obtain ⟨d6, -, d0, d1, d2, d3, d4, d5, -, -, -, -⟩ := hH
    generalize hA : putL _ _ _ _ = A
    have q30 := putLl hA 30 d6 rfl rfl
    have r30 := slot_get q30
    clear hA
    refine Does.pure rfl (.int .i64 0) ?_ ⟨Below.refl _ _, rfl⟩
    go_simp
   exact trivial
  ·
   intro f V11 hG hH hN
   obtain ⟨d0, d1, d2, d3, d4, d5, d6, -, -, d9, -⟩ : (f 0 = aggI .u8 xb) ∧ (f 1 = aggI .u8 xa) ∧ (f 2 = aggI .u8 ba) ∧ (f 3 = .tuple #[aggI .u8 rp, .int .i64 0]) ∧ (f 4 = .tuple #[aggI .u8 rp, .int .i64 0]) ∧ (f 5 = aggI .u8 rp) ∧ (f 6 = .int .i64 0) ∧ (True) ∧ (True) ∧ (f 9 = .int .i64 0) ∧ True := hH
   rw [show List.range (List.length [[], [], [1], [0, 2, 2], [3], [4], [4], [], [7, 5, 3, 0, 1, 2, 3, 4, 5, 7], [6, 8, 0, 1, 2, 3, 4, 5, 6, 7, 8]]) = [0, 1, 2, 3, 4, 5, 6, 7, 8, 9] from rfl]
   obtain ⟨loc, hn1, hn2⟩ := hN
   obtain ⟨hN0, kN0, A9⟩ : f 7 = .pointer (some ⟨loc 7, 0, none⟩) ∧ Wc11.heap.size ≤ loc 7 ∧ Arr .u8 V11 (loc 7) rp := hn1 ⟨7, 8, .u8, 32, rp⟩ (by simp) rfl
   clear hn1 hn2
   generalize loc 7 = N11_0 at *
   simp only [putL, List.getElem?_cons_zero, List.getElem?_cons_succ, Option.join, Option.bind_some, id_eq, Act.put, List.setIfInBounds_toArray, List.set_cons_zero, List.set_cons_succ, d0, d1, d2, d3, d4, d5, d6, d9, hN0]
   clear d0 d1 d2 d3 d4 d5 d6 d9 hN0
   clear A2 A3 A5 A6 A8
   obtain ⟨A2, A3, A5, A6, A8, BV⟩ := hG
   replace BB := below_then BB BV
   clear BV
   have zz11 := BB.size
   go_wp2
   have k12_0 := A2.lt
   have k12_1 := A3.lt
   have k12_2 := A5.lt
   have k12_3 := A6.lt
   have k12_4 := A8.lt
   have k12_5 := A9.lt
   refine wp_region_ord [[], [0], [1], [2], [3, 2], [2, 4], [5, 2], [6], [6], [6], [6], [8, 9, 10, 6, 6], [11, 11, 6], [7, 12, 6], [6, 13], [14, 12], [15], [15], [15], [15], [17, 18, 19, 15, 15], [20, 20, 15], [16, 21, 15], [15, 22], [23, 21], [24], [25, 24, 24], [24], [26, 27, 24], [24, 28], [29, 26, 0, 1, 2, 3, 4, 5, 6, 7, 8, 9, 10, 11, 12, 13, 14, 15, 16, 17, 18, 19, 20, 21, 22, 23, 24, 25, 26, 27, 28, 29]] [some 31, some 32, some 33, some 34, some 35, some 36, some 37, some 38, some 39, some 40, some 41, some 42, some 43, some 44, some 45, some 46, some 47, some 48, some 49, some 50, some 51, some 52, some 53, some 54, some 55, some 56, some 57, some 58, some 59, some 60, some 4] 31 (fun b w' => Arr .u8 w' (w.heap.size) xa ∧ Arr .u8 w' (w1.heap.size) xb ∧ Arr .u8 w' (w5.heap.size) lb ∧ Arr .u8 w' (N8_0) rs ∧ Arr .u8 w' (V8.heap.size) bu0 ∧ Arr .u8 w' (N11_0) rp ∧ Below w.heap.size w w') (fun opn f _ => match opn with | 0 => f 0 = .int .i64 0 | 1 => f 1 = .bool true | 2 => f 2 = .bool true | 3 => f 3 = .int .i64 0 | 4 => f 4 = .bool true | 5 => f 5 = .bool true | 6 => f 6 = .bool true | 7 => f 7 = aggI .u8 rs | 8 => f 8 = aggI .u8 xa | 9 => f 9 = aggI .u8 bu0 | 10 => f 10 = aggI .u8 xb | 11 => f 11 = aggI .u8 ms | 12 => f 12 = aggI .u8 rs | 13 => f 13 = .bool true | 14 => f 14 = .bool true | 15 => f 15 = .bool true | 16 => f 16 = aggI .u8 rp | 17 => f 17 = aggI .u8 xa | 18 => f 18 = aggI .u8 xb | 19 => f 19 = aggI .u8 bu1 | 20 => f 20 = aggI .u8 mp | 21 => f 21 = aggI .u8 rp | 22 => f 22 = .bool true | 23 => f 23 = .bool true | 24 => f 24 = .bool true | 25 => f 25 = aggI .u8 lb | 26 => f 26 = aggI .u8 bu0 | 27 => f 27 = aggI .u8 bu0 | 28 => f 28 = .bool true | 29 => f 29 = .bool true | 30 => f 30 = .bool true | _ => True) (fun _ _ _ => True) (by kernel_rfl) (by kernel_rfl) (by kernel_rfl) (by kernel_rfl) (fun b v v' hb h => ⟨h.1.below hb, h.2.1.below hb, h.2.2.1.below hb, h.2.2.2.1.below hb, h.2.2.2.2.1.below hb, h.2.2.2.2.2.1.below hb, below_then h.2.2.2.2.2.2 hb⟩) (fun _ _ _ _ _ h => h) (fun _ _ _ _ _ _ _ h => h) ⟨A2.drew, A3.drew, A5.drew, A6.drew, A8.drew, A9.drew, BB.drew⟩ ?_ ?_
   ·
    refine StepL.other (k := 0) rfl (fun b f W hb hG hH => ?_) ?_
    ·
     clear hH
     generalize hA : putL _ _ _ _ = A
     have q7 : A.eval (.tmp 7) = .int .i64 0 := putLn hA 7 rfl rfl rfl
     have r7 := slot_get q7
     clear hA
     refine Does.pure rfl (.int .i64 0) ?_ ⟨Below.refl _ _, rfl⟩
     go_simp
    refine StepL.other (k := 1) rfl (fun b f W hb hG hH => ?_) ?_
    ·
     obtain ⟨d0, -⟩ := hH
     generalize hA : putL _ _ _ _ = A
     have q31 := putLl hA 31 d0 rfl rfl
     have r31 := slot_get q31
     clear hA
     refine Does.pure rfl (.bool true) ?_ ⟨Below.refl _ _, rfl⟩
     go_simp
    refine StepL.other (k := 2) rfl (fun b f W hb hG hH => ?_) ?_
    ·
     obtain ⟨d1, -⟩ := hH
     generalize hA : putL _ _ _ _ = A
     have q32 := putLl hA 32 d1 rfl rfl
     have r32 := slot_get q32
     clear hA
     refine Does.pure rfl (.bool true) ?_ ⟨Below.refl _ _, rfl⟩
     go_simp
    refine StepL.other (k := 3) rfl (fun b f W hb hG hH => ?_) ?_
    ·
     obtain ⟨d2, -⟩ := hH
     generalize hA : putL _ _ _ _ = A
     have q10 : A.eval (.tmp 10) = .int .i64 0 := putLn hA 10 rfl rfl rfl
     have r10 := slot_get q10
     have q33 := putLl hA 33 d2 rfl rfl
     have r33 := slot_get q33
     clear hA
     refine Does.pure (wanted_of (b := true) rfl rfl q33) (.int .i64 0) ?_ ⟨Below.refl _ _, rfl⟩
     go_simp
    refine StepL.other (k := 4) rfl (fun b f W hb hG hH => ?_) ?_
    ·
     obtain ⟨d3, d2, -⟩ := hH
     generalize hA : putL _ _ _ _ = A
     have q34 := putLl hA 34 d3 rfl rfl
     have r34 := slot_get q34
     have q33 := putLl hA 33 d2 rfl rfl
     have r33 := slot_get q33
     clear hA
     refine Does.pure (wanted_of (b := true) rfl rfl q33) (.bool true) ?_ ⟨Below.refl _ _, rfl⟩
     go_simp
    refine StepL.other (k := 5) rfl (fun b f W hb hG hH => ?_) ?_
    ·
     obtain ⟨d2, d4, -⟩ := hH
     generalize hA : putL _ _ _ _ = A
     have q33 := putLl hA 33 d2 rfl rfl
     have r33 := slot_get q33
     have q35 := putLl hA 35 d4 rfl rfl
     have r35 := slot_get q35
     clear hA
     refine Does.pure rfl (.bool true) ?_ ⟨Below.refl _ _, rfl⟩
     go_simp
    refine StepL.other (k := 6) rfl (fun b f W hb hG hH => ?_) ?_
    ·
     obtain ⟨d5, d2, -⟩ := hH
     generalize hA : putL _ _ _ _ = A
     have q36 := putLl hA 36 d5 rfl rfl
     have r36 := slot_get q36
     clear hA
     refine Does.pure rfl (.bool true) ?_ ⟨Below.refl _ _, rfl⟩
     go_simp
    refine StepL.other (k := 7) rfl (fun b f W hb hG hH => ?_) ?_
    ·
     obtain ⟨d6, -⟩ := hH
     generalize hA : putL _ _ _ _ = A
     have q6 : A.eval (.tmp 6) = .pointer (some ⟨N8_0, 0, none⟩) := putLn hA 6 rfl rfl rfl
     have r6 := slot_get q6
     have q37 := putLl hA 37 d6 rfl rfl
     have r37 := slot_get q37
     clear hA
     exact Does.loadM (wanted_of (b := true) rfl rfl q37) 22 _ rfl 32 _ und_a32 rfl info_a32 (N8_0) (0) q6 .u8 (rs) (hG.2.2.2.1) (by omega) (sl_all l_rs) ⟨Below.refl _ _, rfl⟩
    refine StepL.other (k := 8) rfl (fun b f W hb hG hH => ?_) ?_
    ·
     obtain ⟨d6, -⟩ := hH
     generalize hA : putL _ _ _ _ = A
     have q2 : A.eval (.tmp 2) = .pointer (some ⟨w.heap.size, 0, none⟩) := putLn hA 2 rfl rfl rfl
     have r2 := slot_get q2
     have q37 := putLl hA 37 d6 rfl rfl
     have r37 := slot_get q37
     clear hA
     exact Does.loadM (wanted_of (b := true) rfl rfl q37) 22 _ rfl 32 _ und_a32 rfl info_a32 (w.heap.size) (0) q2 .u8 (xa) (hG.1) (by omega) (sl_all l_xa) ⟨Below.refl _ _, rfl⟩
    refine StepL.other (k := 9) rfl (fun b f W hb hG hH => ?_) ?_
    ·
     obtain ⟨d6, -⟩ := hH
     generalize hA : putL _ _ _ _ = A
     have q8 : A.eval (.tmp 8) = .pointer (some ⟨V8.heap.size, 0, none⟩) := putLn hA 8 rfl rfl rfl
     have r8 := slot_get q8
     have q37 := putLl hA 37 d6 rfl rfl
     have r37 := slot_get q37
     clear hA
     exact Does.loadM (wanted_of (b := true) rfl rfl q37) 22 _ rfl 32 _ und_a32 rfl info_a32 (V8.heap.size) (0) q8 .u8 (bu0) (hG.2.2.2.2.1) (by omega) (sl_all l_bu0) ⟨Below.refl _ _, rfl⟩
    refine StepL.other (k := 10) rfl (fun b f W hb hG hH => ?_) ?_
    ·
     obtain ⟨d6, -⟩ := hH
     generalize hA : putL _ _ _ _ = A
     have q3 : A.eval (.tmp 3) = .pointer (some ⟨w1.heap.size, 0, none⟩) := putLn hA 3 rfl rfl rfl
     have r3 := slot_get q3
     have q37 := putLl hA 37 d6 rfl rfl
     have r37 := slot_get q37
     clear hA
     exact Does.loadM (wanted_of (b := true) rfl rfl q37) 22 _ rfl 32 _ und_a32 rfl info_a32 (w1.heap.size) (0) q3 .u8 (xb) (hG.2.1) (by omega) (sl_all l_xb) ⟨Below.refl _ _, rfl⟩
    refine StepL.other (k := 11) rfl (fun b f W hb hG hH => ?_) ?_
    ·
     obtain ⟨d8, d9, d10, d6, -, -⟩ := hH
     generalize hA : putL _ _ _ _ = A
     have q39 := putLl hA 39 d8 rfl rfl
     have r39 := slot_get q39
     have q40 := putLl hA 40 d9 rfl rfl
     have r40 := slot_get q40
     have q41 := putLl hA 41 d10 rfl rfl
     have r41 := slot_get q41
     have q37 := putLl hA 37 d6 rfl rfl
     have r37 := slot_get q37
     clear hA
     refine Does.call (wanted_of (b := true) rfl rfl q37) _ _ (by go_simp) ((H7 W).mono ?_)
     rintro e w' ⟨rfl, hb'⟩
     exact ⟨_, rfl, hb', rfl⟩
    refine StepL.other (k := 12) rfl (fun b f W hb hG hH => ?_) ?_
    ·
     obtain ⟨d11, -, d6, -⟩ := hH
     generalize hA : putL _ _ _ _ = A
     have q42 := putLl hA 42 d11 rfl rfl
     have r42 := slot_get q42
     have q37 := putLl hA 37 d6 rfl rfl
     have r37 := slot_get q37
     clear hA
     refine Does.call (wanted_of (b := true) rfl rfl q37) _ _ (by go_simp) ((H8 W (hT.below (hG.2.2.2.2.2.2))).mono ?_)
     rintro e w' ⟨rfl, hb'⟩
     exact ⟨_, rfl, hb', rfl⟩
    refine StepL.other (k := 13) rfl (fun b f W hb hG hH => ?_) ?_
    ·
     obtain ⟨d7, d12, d6, -⟩ := hH
     generalize hA : putL _ _ _ _ = A
     have q38 := putLl hA 38 d7 rfl rfl
     have r38 := slot_get q38
     have q43 := putLl hA 43 d12 rfl rfl
     have r43 := slot_get q43
     have q37 := putLl hA 37 d6 rfl rfl
     have r37 := slot_get q37
     clear hA
     exact Does.eqlI (wanted_of (b := true) rfl rfl q37) 22 _ 5 _ _ rfl 32 und_a32 .u8 .u8 Tryd.underlying5 (by kernel_rfl) (by kernel_rfl) (rs) (rs) q38 q43 (l_rs) (l_rs) true (by simp) ⟨Below.refl _ _, rfl⟩
    refine StepL.other (k := 14) rfl (fun b f W hb hG hH => ?_) ?_
    ·
     obtain ⟨d6, d13, -⟩ := hH
     generalize hA : putL _ _ _ _ = A
     have q37 := putLl hA 37 d6 rfl rfl
     have r37 := slot_get q37
     have q44 := putLl hA 44 d13 rfl rfl
     have r44 := slot_get q44
     clear hA
     refine Does.pure rfl (.bool true) ?_ ⟨Below.refl _ _, rfl⟩
     go_simp
    refine StepL.other (k := 15) rfl (fun b f W hb hG hH => ?_) ?_
    ·
     obtain ⟨d14, d12, -⟩ := hH
     generalize hA : putL _ _ _ _ = A
     have q45 := putLl hA 45 d14 rfl rfl
     have r45 := slot_get q45
     clear hA
     refine Does.pure rfl (.bool true) ?_ ⟨Below.refl _ _, rfl⟩
     go_simp
    refine StepL.other (k := 16) rfl (fun b f W hb hG hH => ?_) ?_
    ·
     obtain ⟨d15, -⟩ := hH
     generalize hA : putL _ _ _ _ = A
     have q9 : A.eval (.tmp 9) = .pointer (some ⟨N11_0, 0, none⟩) := putLn hA 9 rfl rfl rfl
     have r9 := slot_get q9
     have q46 := putLl hA 46 d15 rfl rfl
     have r46 := slot_get q46
     clear hA
     exact Does.loadM (wanted_of (b := true) rfl rfl q46) 22 _ rfl 32 _ und_a32 rfl info_a32 (N11_0) (0) q9 .u8 (rp) (hG.2.2.2.2.2.1) (by omega) (sl_all l_rp) ⟨Below.refl _ _, rfl⟩
    refine StepL.other (k := 17) rfl (fun b f W hb hG hH => ?_) ?_
    ·
     obtain ⟨d15, -⟩ := hH
     generalize hA : putL _ _ _ _ = A
     have q2 : A.eval (.tmp 2) = .pointer (some ⟨w.heap.size, 0, none⟩) := putLn hA 2 rfl rfl rfl
     have r2 := slot_get q2
     have q46 := putLl hA 46 d15 rfl rfl
     have r46 := slot_get q46
     clear hA
     exact Does.loadM (wanted_of (b := true) rfl rfl q46) 22 _ rfl 32 _ und_a32 rfl info_a32 (w.heap.size) (0) q2 .u8 (xa) (hG.1) (by omega) (sl_all l_xa) ⟨Below.refl _ _, rfl⟩
    refine StepL.other (k := 18) rfl (fun b f W hb hG hH => ?_) ?_
    ·
     obtain ⟨d15, -⟩ := hH
     generalize hA : putL _ _ _ _ = A
     have q3 : A.eval (.tmp 3) = .pointer (some ⟨w1.heap.size, 0, none⟩) := putLn hA 3 rfl rfl rfl
     have r3 := slot_get q3
     have q46 := putLl hA 46 d15 rfl rfl
     have r46 := slot_get q46
     clear hA
     exact Does.loadM (wanted_of (b := true) rfl rfl q46) 22 _ rfl 32 _ und_a32 rfl info_a32 (w1.heap.size) (0) q3 .u8 (xb) (hG.2.1) (by omega) (sl_all l_xb) ⟨Below.refl _ _, rfl⟩
    refine StepL.other (k := 19) rfl (fun b f W hb hG hH => ?_) ?_
    ·
     obtain ⟨d15, -⟩ := hH
     generalize hA : putL _ _ _ _ = A
     have q46 := putLl hA 46 d15 rfl rfl
     have r46 := slot_get q46
     clear hA
     exact Does.buildI (wanted_of (b := true) rfl rfl q46) 22 _ rfl .u8 (bu1) _ (hbu1) (rfl) ⟨Below.refl _ _, rfl⟩
    refine StepL.other (k := 20) rfl (fun b f W hb hG hH => ?_) ?_
    ·
     obtain ⟨d17, d18, d19, d15, -, -⟩ := hH
     generalize hA : putL _ _ _ _ = A
     have q48 := putLl hA 48 d17 rfl rfl
     have r48 := slot_get q48
     have q49 := putLl hA 49 d18 rfl rfl
     have r49 := slot_get q49
     have q50 := putLl hA 50 d19 rfl rfl
     have r50 := slot_get q50
     have q46 := putLl hA 46 d15 rfl rfl
     have r46 := slot_get q46
     clear hA
     refine Does.call (wanted_of (b := true) rfl rfl q46) _ _ (by go_simp) ((H9 W).mono ?_)
     rintro e w' ⟨rfl, hb'⟩
     exact ⟨_, rfl, hb', rfl⟩
    refine StepL.other (k := 21) rfl (fun b f W hb hG hH => ?_) ?_
    ·
     obtain ⟨d20, -, d15, -⟩ := hH
     generalize hA : putL _ _ _ _ = A
     have q51 := putLl hA 51 d20 rfl rfl
     have r51 := slot_get q51
     have q46 := putLl hA 46 d15 rfl rfl
     have r46 := slot_get q46
     clear hA
     refine Does.call (wanted_of (b := true) rfl rfl q46) _ _ (by go_simp) ((H10 W (hT.below (hG.2.2.2.2.2.2))).mono ?_)
     rintro e w' ⟨rfl, hb'⟩
     exact ⟨_, rfl, hb', rfl⟩
    refine StepL.other (k := 22) rfl (fun b f W hb hG hH => ?_) ?_
    ·
     obtain ⟨d16, d21, d15, -⟩ := hH
     generalize hA : putL _ _ _ _ = A
     have q47 := putLl hA 47 d16 rfl rfl
     have r47 := slot_get q47
     have q52 := putLl hA 52 d21 rfl rfl
     have r52 := slot_get q52
     have q46 := putLl hA 46 d15 rfl rfl
     have r46 := slot_get q46
     clear hA
     exact Does.eqlI (wanted_of (b := true) rfl rfl q46) 22 _ 5 _ _ rfl 32 und_a32 .u8 .u8 Tryd.underlying5 (by kernel_rfl) (by kernel_rfl) (rp) (rp) q47 q52 (l_rp) (l_rp) true (by simp) ⟨Below.refl _ _, rfl⟩
    refine StepL.other (k := 23) rfl (fun b f W hb hG hH => ?_) ?_
    ·
     obtain ⟨d15, d22, -⟩ := hH
     generalize hA : putL _ _ _ _ = A
     have q46 := putLl hA 46 d15 rfl rfl
     have r46 := slot_get q46
     have q53 := putLl hA 53 d22 rfl rfl
     have r53 := slot_get q53
     clear hA
     refine Does.pure rfl (.bool true) ?_ ⟨Below.refl _ _, rfl⟩
     go_simp
    refine StepL.other (k := 24) rfl (fun b f W hb hG hH => ?_) ?_
    ·
     obtain ⟨d23, d21, -⟩ := hH
     generalize hA : putL _ _ _ _ = A
     have q54 := putLl hA 54 d23 rfl rfl
     have r54 := slot_get q54
     clear hA
     refine Does.pure rfl (.bool true) ?_ ⟨Below.refl _ _, rfl⟩
     go_simp
    refine StepL.other (k := 25) rfl (fun b f W hb hG hH => ?_) ?_
    ·
     obtain ⟨d24, -⟩ := hH
     generalize hA : putL _ _ _ _ = A
     have q5 : A.eval (.tmp 5) = .pointer (some ⟨w5.heap.size, 0, none⟩) := putLn hA 5 rfl rfl rfl
     have r5 := slot_get q5
     have q55 := putLl hA 55 d24 rfl rfl
     have r55 := slot_get q55
     clear hA
     exact Does.loadM (wanted_of (b := true) rfl rfl q55) 22 _ rfl 32 _ und_a32 rfl info_a32 (w5.heap.size) (0) q5 .u8 (lb) (hG.2.2.1) (by omega) (sl_all l_lb) ⟨Below.refl _ _, rfl⟩
    refine StepL.other (k := 26) rfl (fun b f W hb hG hH => ?_) ?_
    ·
     obtain ⟨d25, d24, -, -⟩ := hH
     generalize hA : putL _ _ _ _ = A
     have q56 := putLl hA 56 d25 rfl rfl
     have r56 := slot_get q56
     have q55 := putLl hA 55 d24 rfl rfl
     have r55 := slot_get q55
     clear hA
     refine Does.call (wanted_of (b := true) rfl rfl q55) _ _ (by go_simp) ((H11 W (hT.below (hG.2.2.2.2.2.2))).mono ?_)
     rintro e w' ⟨rfl, hb'⟩
     exact ⟨_, rfl, hb', rfl⟩
    refine StepL.other (k := 27) rfl (fun b f W hb hG hH => ?_) ?_
    ·
     obtain ⟨d24, -⟩ := hH
     generalize hA : putL _ _ _ _ = A
     have q8 : A.eval (.tmp 8) = .pointer (some ⟨V8.heap.size, 0, none⟩) := putLn hA 8 rfl rfl rfl
     have r8 := slot_get q8
     have q55 := putLl hA 55 d24 rfl rfl
     have r55 := slot_get q55
     clear hA
     exact Does.loadM (wanted_of (b := true) rfl rfl q55) 22 _ rfl 32 _ und_a32 rfl info_a32 (V8.heap.size) (0) q8 .u8 (bu0) (hG.2.2.2.2.1) (by omega) (sl_all l_bu0) ⟨Below.refl _ _, rfl⟩
    refine StepL.other (k := 28) rfl (fun b f W hb hG hH => ?_) ?_
    ·
     obtain ⟨d26, d27, d24, -⟩ := hH
     generalize hA : putL _ _ _ _ = A
     have q57 := putLl hA 57 d26 rfl rfl
     have r57 := slot_get q57
     have q58 := putLl hA 58 d27 rfl rfl
     have r58 := slot_get q58
     have q55 := putLl hA 55 d24 rfl rfl
     have r55 := slot_get q55
     clear hA
     exact Does.eqlI (wanted_of (b := true) rfl rfl q55) 22 _ 5 _ _ rfl 32 und_a32 .u8 .u8 Tryd.underlying5 (by kernel_rfl) (by kernel_rfl) (bu0) (bu0) q57 q58 (l_bu0) (l_bu0) true (by simp) ⟨Below.refl _ _, rfl⟩
    refine StepL.other (k := 29) rfl (fun b f W hb hG hH => ?_) ?_
    ·
     obtain ⟨d24, d28, -⟩ := hH
     generalize hA : putL _ _ _ _ = A
     have q55 := putLl hA 55 d24 rfl rfl
     have r55 := slot_get q55
     have q59 := putLl hA 59 d28 rfl rfl
     have r59 := slot_get q59
     clear hA
     refine Does.pure rfl (.bool true) ?_ ⟨Below.refl _ _, rfl⟩
     go_simp
    refine StepL.other (k := 30) rfl (fun b f W hb hG hH => ?_) ?_
    ·
     obtain ⟨d29, d26, d0, d1, d2, d3, d4, d5, d6, d7, d8, d9, d10, d11, d12, d13, d14, d15, d16, d17, d18, d19, d20, d21, d22, d23, d24, d25, -, d27, d28, -, -⟩ := hH
     generalize hA : putL _ _ _ _ = A
     have q60 := putLl hA 60 d29 rfl rfl
     have r60 := slot_get q60
     clear hA
     refine Does.pure rfl (.bool true) ?_ ⟨Below.refl _ _, rfl⟩
     go_simp
    exact trivial
   ·
    intro f V12 hG hH
    obtain ⟨d0, d1, d2, d3, d4, d5, d6, d7, d8, d9, d10, d11, d12, d13, d14, d15, d16, d17, d18, d19, d20, d21, d22, d23, d24, d25, d26, d27, d28, d29, d30, -⟩ : (f 0 = .int .i64 0) ∧ (f 1 = .bool true) ∧ (f 2 = .bool true) ∧ (f 3 = .int .i64 0) ∧ (f 4 = .bool true) ∧ (f 5 = .bool true) ∧ (f 6 = .bool true) ∧ (f 7 = aggI .u8 rs) ∧ (f 8 = aggI .u8 xa) ∧ (f 9 = aggI .u8 bu0) ∧ (f 10 = aggI .u8 xb) ∧ (f 11 = aggI .u8 ms) ∧ (f 12 = aggI .u8 rs) ∧ (f 13 = .bool true) ∧ (f 14 = .bool true) ∧ (f 15 = .bool true) ∧ (f 16 = aggI .u8 rp) ∧ (f 17 = aggI .u8 xa) ∧ (f 18 = aggI .u8 xb) ∧ (f 19 = aggI .u8 bu1) ∧ (f 20 = aggI .u8 mp) ∧ (f 21 = aggI .u8 rp) ∧ (f 22 = .bool true) ∧ (f 23 = .bool true) ∧ (f 24 = .bool true) ∧ (f 25 = aggI .u8 lb) ∧ (f 26 = aggI .u8 bu0) ∧ (f 27 = aggI .u8 bu0) ∧ (f 28 = .bool true) ∧ (f 29 = .bool true) ∧ (f 30 = .bool true) ∧ True := hH
    rw [show List.range (List.length [[], [0], [1], [2], [3, 2], [2, 4], [5, 2], [6], [6], [6], [6], [8, 9, 10, 6, 6], [11, 11, 6], [7, 12, 6], [6, 13], [14, 12], [15], [15], [15], [15], [17, 18, 19, 15, 15], [20, 20, 15], [16, 21, 15], [15, 22], [23, 21], [24], [25, 24, 24], [24], [26, 27, 24], [24, 28], [29, 26, 0, 1, 2, 3, 4, 5, 6, 7, 8, 9, 10, 11, 12, 13, 14, 15, 16, 17, 18, 19, 20, 21, 22, 23, 24, 25, 26, 27, 28, 29]]) = [0, 1, 2, 3, 4, 5, 6, 7, 8, 9, 10, 11, 12, 13, 14, 15, 16, 17, 18, 19, 20, 21, 22, 23, 24, 25, 26, 27, 28, 29, 30] from rfl]
    simp only [putL, List.getElem?_cons_zero, List.getElem?_cons_succ, Option.join, Option.bind_some, id_eq, Act.put, List.setIfInBounds_toArray, List.set_cons_zero, List.set_cons_succ, d0, d1, d2, d3, d4, d5, d6, d7, d8, d9, d10, d11, d12, d13, d14, d15, d16, d17, d18, d19, d20, d21, d22, d23, d24, d25, d26, d27, d28, d29, d30]
    clear d0 d1 d2 d3 d4 d5 d6 d7 d8 d9 d10 d11 d12 d13 d14 d15 d16 d17 d18 d19 d20 d21 d22 d23 d24 d25 d26 d27 d28 d29 d30
    clear A2 A3 A5 A6 A8 A9
    obtain ⟨A2, A3, A5, A6, A8, A9, BV⟩ := hG
    clear BB
    have BB := BV
    clear BV
    have zz12 := BB.size
    go_wp2
    go_ret
    exact ⟨rfl, BB⟩
theorem ordV_lN : ordV = (lN : Int) := by decide +kernel
theorem kB_nn {a : List Int} (h : Bytes a) : (kB a : Int) = valB a 32 := by
  have := valB_32 a h
  unfold kB
  omega
/-- The base point so many times, the number reduced by the order. -/
theorem base_red (v : Nat) (w : World) (hT : TabD w) : Calls Tryd.prog 19 #[aggI .u8 (numB ((v : Int) % ordV))] w fun e w' => e = .returned (aggI .u8 (encB (smul v bP))) ∧ Below w.heap.size w w' := by
  have h := base_r (numB_bytes ((v : Int) % ordV)) (numB_length _) w hT
  have e : kB (numB ((v : Int) % ordV)) = v % lN := by
    have hl : (0 : Int) < (lN : Int) := by decide +kernel
    have h2 : (lN : Int) < 2 ^ 256 := by decide +kernel
    unfold kB
    rw [ordV_lN, valB_numB _ (Int.emod_nonneg _ (by omega)) (by have := Int.emod_lt_of_pos (v : Int) hl; omega), ← Int.natCast_emod]
    rfl
  rw [e, smul_bP_mod] at h
  exact h
theorem add_enc (P Q : Pt) (w : World) (hT : TabD w) : Calls Tryd.prog 11 #[aggI .u8 (encB P), aggI .u8 (encB Q)] w fun e w' => e = .returned (.tuple #[aggI .u8 (encB (padd P Q)), .int .i64 0]) ∧ Below w.heap.size w w' := by
  have h := add_enc_l P (encB_bytes Q) (encB_len Q) (encB_is Q) w hT
  rw [dec_enc] at h
  exact h
theorem one32_b : Bytes one32 := bytes_dec (by decide)
theorem one32_v : valB one32 32 = 1 := by decide +kernel
theorem z32_v : valB z32 32 = 0 := by decide +kernel
theorem lmany_v {a b : List Int} (ha : Bytes a) (la : a.length = 32) (hb : Bytes b) (lb : b.length = 32) (w : World) (hT : TabD w) : Calls Tryd.prog 7 #[aggI .u8 a, aggI .u8 b] w fun e w' => e = .returned (.bool true) ∧ Below w.heap.size w w' := by
  have ea := kB_nn ha
  have eb := kB_nn hb
  have MS : ∀ W, Calls Tryd.prog 25 #[aggI .u8 a, aggI .u8 one32, aggI .u8 b] W fun e w' => e = .returned (aggI .u8 (numB (((kB a + kB b : Nat) : Int) % ordV))) ∧ Below W.heap.size W w' := fun W => by
    have h := muladd_v a one32 b W ha one32_b hb la rfl lb
    rw [one32_v, Int.mul_one, ← ea, ← eb, Int.add_comm, ← Int.natCast_add] at h
    exact h
  have MP : ∀ W, Calls Tryd.prog 25 #[aggI .u8 a, aggI .u8 b, aggI .u8 z32] W fun e w' => e = .returned (aggI .u8 (numB (((kB b * kB a : Nat) : Int) % ordV))) ∧ Below W.heap.size W w' := fun W => by
    have h := muladd_v a b z32 W ha hb (bytes_dec (by decide)) la lb z32_len
    rw [z32_v, Int.zero_add, ← ea, ← eb, Int.mul_comm, ← Int.natCast_mul] at h
    exact h
  have BS : ∀ W, TabD W → Calls Tryd.prog 19 #[aggI .u8 (numB (((kB a + kB b : Nat) : Int) % ordV))] W fun e w' => e = .returned (aggI .u8 (encB (padd (smul (kB a) bP) (smul (kB b) bP)))) ∧ Below W.heap.size W w' := fun W hW => by
    have h := base_red (kB a + kB b) W hW
    rw [smul_add] at h
    exact h
  have BP : ∀ W, TabD W → Calls Tryd.prog 19 #[aggI .u8 (numB (((kB b * kB a : Nat) : Int) % ordV))] W fun e w' => e = .returned (aggI .u8 (encB (smul (kB b) (smul (kB a) bP)))) ∧ Below W.heap.size W w' := fun W hW => by
    have h := base_red (kB b * kB a) W hW
    rw [smul_mul] at h
    exact h
  have BL : ∀ W, TabD W → Calls Tryd.prog 19 #[aggI .u8 (numB ordV)] W fun e w' => e = .returned (aggI .u8 one32) ∧ Below W.heap.size W w' := fun W hW => by
    have h := base_r (numB_bytes ordV) (numB_length _) W hW
    rw [ordV_lN, kB_ord, bP_order, encB_zero] at h
    rw [ordV_lN]
    exact h
  exact many_l (hT := hT) (l_xa := la) (l_xb := lb) (l_ln := numW_length _ _) (l_lb := numB_length _) (l_ba := encB_len _) (l_bb := encB_len _) (l_rs := encB_len _) (l_bu0 := rfl) (l_rp := encB_len _) (l_ms := numB_length _) (l_bu1 := z32_len) (l_mp := numB_length _) (hbu0 := built_one) (hbu1 := built_a32z) (H0 := alive_v) (H1 := fun W => ref_L_v W) (H2 := fun W => ref_bytes_v _ W) (H3 := base_r ha la) (H4 := base_r hb lb) (H5 := add_enc _ _) (H6 := times_enc hb lb _) (H7 := MS) (H8 := BS) (H9 := MP) (H10 := BP) (H11 := BL)
end Go.Proofs.YtelppapkffjmpaaDoor
