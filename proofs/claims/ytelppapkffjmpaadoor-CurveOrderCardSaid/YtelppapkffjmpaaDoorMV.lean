/- CurveOrder of layer 10. -/
import Derived.Test.YtelppapkffjmpaaDoorMS
import Derived.Test.YtelppapkffjmpaaDoorMU
namespace Go.Proofs.YtelppapkffjmpaaDoor
open Go.RowKit Go.Shelf
set_option linter.unusedVariables false
set_option maxRecDepth 8000

set_option maxHeartbeats 2000000 in
theorem ordl_walk (bu0 : List Int) (w : World) (l_bu0 : bu0.length = 4)
    (hbu0 : Tryd.prog.built 36 [(0, .int .u64 6346243789798364141), (1, .int .u64 1503914060200516822), (2, .int .u64 0), (3, .int .u64 1152921504606846976)] = some (bu0.map (Value.int .u64)).toArray) :
    Calls Tryd.prog 24 #[] w fun e w' => e = .returned (aggI .u64 bu0) ∧ Below w.heap.size w w' := by
  go_enter Tryd.func24, Tryd.ntmps24
  go_wp2_with (first
      | (with_reducible refine at_n 0 ?_; refine wpList_allocI rfl 36 rfl .u64 4 zero_num ?_; intro w1 A0 s1 b1; have BB := b1; have y1 := BB.size)
      | (with_reducible refine at_n 1 ?_; go_loud (refine wpList_val' (fun R hR => Does.buildI rfl 36 _ rfl .u64 (bu0) _ (hbu0) rfl hR) ?_))
      | (with_reducible refine at_op (o := ⟨_, .store 36 (.tmp 0) _, _, _, _, _⟩) ?_; refine wpList_storeI rfl 36 _ _ rfl 4 info_num (w.heap.size) rfl .u64 _ (bu0) rfl (A0) (rfl) (l_bu0) ?_; intro D2; replace BB := Below.setRow BB (g := w.heap.size) (by omega) ((bu0).map (Value.int .u64)).toArray; clear A0; have A0 := D2))
  refine bodyPost_ret (results_cellM rfl _ 4 _ und_num rfl info_num (w.heap.size) rfl .u64 _ A0 (l_bu0)) rfl ?_
  exact ⟨rfl, BB⟩
set_option maxHeartbeats 4000000 in
theorem order_t (xa bu0 rq ln lb bu1 : List Int) (w : World) (hT : TabD w)
  (l_xa : xa.length = 32) (l_bu0 : bu0.length = 32) (l_rq : rq.length = 32) (l_ln : ln.length = 4) (l_lb : lb.length = 32) (l_bu1 : bu1.length = 32)
  (hbu0 : Tryd.prog.built 22 [(0, .int .u8 8)] = some (bu0.map (Value.int .u8)).toArray)
  (hbu1 : Tryd.prog.built 22 [(0, .int .u8 1)] = some (bu1.map (Value.int .u8)).toArray)
  (H0 : ∀ W, TabD W → Ret 10 #[] (.bool true) W)
  (H1 : ∀ W, TabD W → Ret 15 #[aggI .u8 xa] (.bool true) W)
  (H2 : ∀ W, TabD W → Ret 17 #[aggI .u8 bu0, aggI .u8 xa] (.tuple #[aggI .u8 rq, .int .i64 0]) W)
  (H3 : ∀ W, Ret 24 #[] (aggI .u64 ln) W)
  (H4 : ∀ W, Ret 23 #[aggI .u64 ln] (aggI .u8 lb) W)
  (H5 : ∀ W, TabD W → Ret 17 #[aggI .u8 lb, aggI .u8 rq] (.tuple #[aggI .u8 bu1, .int .i64 0]) W) :
  Calls Tryd.prog 9 #[aggI .u8 xa] w fun e w' => e = .returned (.bool true) ∧ Below w.heap.size w w' := by
 go_enter Tryd.func9, Tryd.ntmps9
 go_wp2_with (first
   | (with_reducible refine at_n 1 ?_; refine wpList_boxI rfl 22 _ rfl .u8 xa rfl ?_; intro w1 A1 s1 b1; have BB := b1; have y1 := BB.size)
   | (with_reducible refine at_n 11 ?_; refine wpList_val' (fun R hR => Does.loadM rfl 22 _ rfl 32 _ und_a32 rfl info_a32 (w.heap.size) 0 rfl .u8 (xa) (A1) (by omega) (sl_all l_xa) hR) ?_)
   | (with_reducible refine at_n 23 ?_; go_loud (refine wpList_val' (fun R hR => Does.buildI rfl 22 _ rfl .u8 (bu0) _ (hbu0) rfl hR) ?_))
   | (with_reducible refine at_n 24 ?_; refine wpList_val' (fun R hR => Does.loadM rfl 22 _ rfl 32 _ und_a32 rfl info_a32 (w.heap.size) 0 rfl .u8 (xa) (A1) (by omega) (sl_all l_xa) hR) ?_)
   | (with_reducible refine at_n 5 ?_; refine wpList_allocI rfl 22 rfl .u8 32 zero_a32 ?_; intro w5 A5 s5 b5; have q5_1 := A1.lt; replace A1 := A1.below b5; replace BB := below_then BB b5; have y5 := BB.size)
   | (with_reducible refine at_op (o := ⟨_, .store 22 (.tmp 5) _, _, _, _, _⟩) ?_; refine wpList_storeI rfl 22 _ _ rfl 32 info_a32 (w4.heap.size) rfl .u8 _ (rq) rfl (A5) (rfl) (l_rq) ?_; intro D6; replace A1 := A1.rowOther (B' := w4.heap.size) (by omega) ((rq).map (Value.int .u8)).toArray; replace BB := Below.setRow BB (g := w4.heap.size) (by omega) ((rq).map (Value.int .u8)).toArray; clear A5; have A5 := D6)
   | (go_at_call 10; first | ((with_reducible refine (H0 _ (hT.below BB)).mono ?_); rintro e w2 ⟨rfl, b2⟩; replace A1 := A1.below b2; replace BB := below_then BB b2; have z2 := BB.size))
   | (go_at_call 15; first | ((with_reducible refine (H1 _ (hT.below BB)).mono ?_); rintro e w3 ⟨rfl, b3⟩; replace A1 := A1.below b3; replace BB := below_then BB b3; have z3 := BB.size))
   | (go_at_call 17; first | ((with_reducible refine (H2 _ (hT.below BB)).mono ?_); rintro e w4 ⟨rfl, b4⟩; replace A1 := A1.below b4; replace BB := below_then BB b4; have z4 := BB.size)))
 refine wp_world fun Wc7 hWc => ?_
 rw [← hWc] at BB A1 A5
 clear hWc
 have k7_0 := A1.lt
 have k7_1 := A5.lt
 refine wp_region_new [[], [0, 0], [], [1, 2, 1], [3], [4], [4], [], [7, 5, 3, 0, 1, 2, 3, 4, 5, 7], [6, 8, 0, 1, 2, 3, 4, 5, 6, 7, 8]] [some 29, some 30, some 31, some 32, some 28, some 33, some 34, some 7, none, some 8] (Wc7.heap.size) [⟨7, 8, .u8, 32, bu1⟩] (fun w' => Arr .u8 w' (w.heap.size) xa ∧ Arr .u8 w' (w4.heap.size) rq ∧ Below Wc7.heap.size Wc7 w') (fun opn f _ => match opn with | 0 => f 0 = aggI .u64 ln | 1 => f 1 = aggI .u8 lb | 2 => f 2 = aggI .u8 rq | 3 => f 3 = .tuple #[aggI .u8 bu1, .int .i64 0] | 4 => f 4 = .tuple #[aggI .u8 bu1, .int .i64 0] | 5 => f 5 = aggI .u8 bu1 | 6 => f 6 = .int .i64 0 | 9 => f 9 = .int .i64 0 | _ => True) (by kernel_rfl) (by kernel_rfl) (by kernel_rfl) (by kernel_rfl) rfl (by intro it h it' h' e; simp only [List.mem_cons, List.not_mem_nil, or_false] at h h'; rcases h with rfl <;> rcases h' with rfl <;> first | rfl | (simp at e)) (fun v v' hb h => ⟨h.1.below hb, h.2.1.below hb, below_then h.2.2 hb⟩) (fun v h => h.2.2.size) (fun v B cs hB h => ⟨h.1.rowOther (by omega) _, h.2.1.rowOther (by omega) _, Below.setRow h.2.2 (by omega) _⟩) (fun _ _ _ _ h => h) ⟨A1.drew, A5.drew, (Below.refl _ _).drew⟩ ?_ (by intro it h; simp only [List.mem_cons, List.not_mem_nil, or_false] at h; rcases h with rfl <;> exact ⟨by simp, by simp⟩) ?_
 ·
  refine StepN.plain rfl (fun f W hG hH => ?_) ?_
  ·
   clear hH
   generalize hA : putL _ _ _ _ = A
   clear hA
   refine Does.call rfl _ _ (by go_simp) ((H3 W).mono ?_)
   rintro e w' ⟨rfl, hb'⟩
   exact ⟨_, rfl, hb', rfl⟩
  refine StepN.plain rfl (fun f W hG hH => ?_) ?_
  ·
   obtain ⟨d0, -, -⟩ := hH
   generalize hA : putL _ _ _ _ = A
   have q29 := putLl hA 29 d0 rfl rfl
   have r29 := slot_get q29
   clear hA
   refine Does.call rfl _ _ (by go_simp) ((H4 W).mono ?_)
   rintro e w' ⟨rfl, hb'⟩
   exact ⟨_, rfl, hb', rfl⟩
  refine StepN.plain rfl (fun f W hG hH => ?_) ?_
  ·
   clear hH
   generalize hA : putL _ _ _ _ = A
   have q5 : A.eval (.tmp 5) = .pointer (some ⟨w4.heap.size, 0, none⟩) := putLn hA 5 rfl rfl rfl
   clear hA
   exact Does.loadM rfl 22 _ rfl 32 _ und_a32 rfl info_a32 (w4.heap.size) (0) q5 .u8 (rq) (hG.2.1) (by omega) (sl_all l_rq) ⟨Below.refl _ _, rfl⟩
  refine StepN.plain rfl (fun f W hG hH => ?_) ?_
  ·
   obtain ⟨d1, d2, -, -⟩ := hH
   generalize hA : putL _ _ _ _ = A
   have q30 := putLl hA 30 d1 rfl rfl
   have r30 := slot_get q30
   have q31 := putLl hA 31 d2 rfl rfl
   have r31 := slot_get q31
   clear hA
   refine Does.call rfl _ _ (by go_simp) ((H5 W (hT.below (below_then BB hG.2.2))).mono ?_)
   rintro e w' ⟨rfl, hb'⟩
   exact ⟨_, rfl, hb', rfl⟩
  refine StepN.plain rfl (fun f W hG hH => ?_) ?_
  ·
   obtain ⟨d3, -⟩ := hH
   generalize hA : putL _ _ _ _ = A
   have q32 := putLl hA 32 d3 rfl rfl
   have r32 := slot_get q32
   clear hA
   refine Does.pure rfl (.tuple #[aggI .u8 bu1, .int .i64 0]) ?_ ⟨Below.refl _ _, rfl⟩
   go_simp
  refine StepN.plain rfl (fun f W hG hH => ?_) ?_
  ·
   obtain ⟨d4, -⟩ := hH
   generalize hA : putL _ _ _ _ = A
   have q28 := putLl hA 28 d4 rfl rfl
   have r28 := slot_get q28
   clear hA
   refine Does.pure rfl (aggI .u8 bu1) ?_ ⟨Below.refl _ _, rfl⟩
   go_simp
  refine StepN.plain rfl (fun f W hG hH => ?_) ?_
  ·
   obtain ⟨d4, -⟩ := hH
   generalize hA : putL _ _ _ _ = A
   have q28 := putLl hA 28 d4 rfl rfl
   have r28 := slot_get q28
   clear hA
   refine Does.pure rfl (.int .i64 0) ?_ ⟨Below.refl _ _, rfl⟩
   go_simp
  refine StepN.alloc rfl (fun _ _ => trivial) (fun A W => ?_) ?_
  ·
   refine Does.allocI rfl 22 rfl .u8 32 zero_a32 ?_
   intro W1 D1 s1 b1'
   exact ⟨b1', rfl, D1⟩
  refine StepN.store rfl (fun _ _ => trivial) (fun f W B hG hH hB hZ => ?_) ?_
  ·
   obtain ⟨-, d5, d3, d0, d1, d2, -, d4, -, -, -⟩ := hH
   generalize hA : putL _ _ _ _ = A
   have q7 : A.eval (.tmp 7) = f 7 := putLl hA 7 rfl rfl rfl
   have r7 := slot_get q7
   have q33 := putLl hA 33 d5 rfl rfl
   have r33 := slot_get q33
   clear hA
   have hB : f 7 = .pointer (some ⟨B, 0, none⟩) := hB
   rw [hB] at q7
   refine Does.storeI rfl 22 _ _ rfl 32 info_a32 B q7 .u8 _ (bu1) q33 hZ (by rfl) (l_bu1) ?_
   intro A9
   exact ⟨rfl, A9⟩
  refine StepN.plain rfl (fun f W hG hH => ?_) ?_
  ·
   obtain ⟨d6, -, d0, d1, d2, d3, d4, d5, -, -, -, -⟩ := hH
   generalize hA : putL _ _ _ _ = A
   have q34 := putLl hA 34 d6 rfl rfl
   have r34 := slot_get q34
   clear hA
   refine Does.pure rfl (.int .i64 0) ?_ ⟨Below.refl _ _, rfl⟩
   go_simp
  exact trivial
 ·
  intro f V7 hG hH hN
  obtain ⟨d0, d1, d2, d3, d4, d5, d6, -, -, d9, -⟩ : (f 0 = aggI .u64 ln) ∧ (f 1 = aggI .u8 lb) ∧ (f 2 = aggI .u8 rq) ∧ (f 3 = .tuple #[aggI .u8 bu1, .int .i64 0]) ∧ (f 4 = .tuple #[aggI .u8 bu1, .int .i64 0]) ∧ (f 5 = aggI .u8 bu1) ∧ (f 6 = .int .i64 0) ∧ (True) ∧ (True) ∧ (f 9 = .int .i64 0) ∧ True := hH
  rw [show List.range (List.length [[], [0, 0], [], [1, 2, 1], [3], [4], [4], [], [7, 5, 3, 0, 1, 2, 3, 4, 5, 7], [6, 8, 0, 1, 2, 3, 4, 5, 6, 7, 8]]) = [0, 1, 2, 3, 4, 5, 6, 7, 8, 9] from rfl]
  obtain ⟨loc, hn1, hn2⟩ := hN
  obtain ⟨hN0, kN0, A7⟩ : f 7 = .pointer (some ⟨loc 7, 0, none⟩) ∧ Wc7.heap.size ≤ loc 7 ∧ Arr .u8 V7 (loc 7) bu1 := hn1 ⟨7, 8, .u8, 32, bu1⟩ (by simp) rfl
  clear hn1 hn2
  generalize loc 7 = N7_0 at *
  simp only [putL, List.getElem?_cons_zero, List.getElem?_cons_succ, Option.join, Option.bind_some, id_eq, Act.put, List.setIfInBounds_toArray, List.set_cons_zero, List.set_cons_succ, d0, d1, d2, d3, d4, d5, d6, d9, hN0]
  clear d0 d1 d2 d3 d4 d5 d6 d9 hN0
  clear A1 A5
  obtain ⟨A1, A5, BV⟩ := hG
  replace BB := below_then BB BV
  clear BV
  have zz7 := BB.size
  go_wp2_with (first
    | (with_reducible refine at_n 42 ?_; refine wpList_val' (fun R hR => Does.loadM rfl 22 _ rfl 32 _ und_a32 rfl info_a32 (N7_0) 0 rfl .u8 (bu1) (A7) (by omega) (sl_all l_bu1) hR) ?_)
    | (with_reducible refine at_n 43 ?_; go_loud (refine wpList_val' (fun R hR => Does.buildI rfl 22 _ rfl .u8 (bu1) _ (hbu1) rfl hR) ?_))
    | (with_reducible refine at_n 44 ?_; refine wpList_val' (fun R hR => Does.eqlI rfl 22 _ 5 _ _ rfl 32 und_a32 .u8 .u8 Tryd.underlying5 (by kernel_rfl) (by kernel_rfl) (bu1) (bu1) rfl rfl (l_bu1) (l_bu1) true (by simp) hR) ?_))
  go_ret
  exact ⟨rfl, BB⟩
set_option maxHeartbeats 4000000 in
theorem order_f (xa bu0 rq : List Int) (w : World) (hT : TabD w)
    (l_xa : xa.length = 32) (l_bu0 : bu0.length = 32) (l_rq : rq.length = 32)
    (hbu0 : Tryd.prog.built 22 [(0, .int .u8 8)] = some (bu0.map (Value.int .u8)).toArray)
    (H0 : ∀ W, TabD W → Ret 10 #[] (.bool true) W)
    (H1 : ∀ W, TabD W → Ret 15 #[aggI .u8 xa] (.bool false) W)
    (H2 : ∀ W, TabD W → Ret 17 #[aggI .u8 bu0, aggI .u8 xa] (.tuple #[aggI .u8 rq, .int .i64 1]) W) :
    Calls Tryd.prog 9 #[aggI .u8 xa] w fun e w' => e = .returned (.bool true) ∧ Below w.heap.size w w' := by
  go_enter Tryd.func9, Tryd.ntmps9
  go_wp2_with (first
      | (with_reducible refine at_n 1 ?_; refine wpList_boxI rfl 22 _ rfl .u8 xa rfl ?_; intro w1 A1 s1 b1; have BB := b1; have y1 := BB.size)
      | (with_reducible refine at_n 11 ?_; refine wpList_val' (fun R hR => Does.loadM rfl 22 _ rfl 32 _ und_a32 rfl info_a32 (w.heap.size) 0 rfl .u8 (xa) (A1) (by omega) (sl_all l_xa) hR) ?_)
      | (with_reducible refine at_n 15 ?_; go_loud (refine wpList_val' (fun R hR => Does.buildI rfl 22 _ rfl .u8 (bu0) _ (hbu0) rfl hR) ?_))
      | (with_reducible refine at_n 16 ?_; refine wpList_val' (fun R hR => Does.loadM rfl 22 _ rfl 32 _ und_a32 rfl info_a32 (w.heap.size) 0 rfl .u8 (xa) (A1) (by omega) (sl_all l_xa) hR) ?_)
      | (with_reducible refine at_n 3 ?_; refine wpList_allocI rfl 22 rfl .u8 32 zero_a32 ?_; intro w5 A3 s5 b5; have q5_1 := A1.lt; replace A1 := A1.below b5; replace BB := below_then BB b5; have y5 := BB.size)
      | (with_reducible refine at_op (o := ⟨_, .store 22 (.tmp 3) _, _, _, _, _⟩) ?_; refine wpList_storeI rfl 22 _ _ rfl 32 info_a32 (w4.heap.size) rfl .u8 _ (rq) rfl (A3) (rfl) (l_rq) ?_; intro D6; replace A1 := A1.rowOther (B' := w4.heap.size) (by omega) ((rq).map (Value.int .u8)).toArray; replace BB := Below.setRow BB (g := w4.heap.size) (by omega) ((rq).map (Value.int .u8)).toArray; clear A3; have A3 := D6)
      | (go_at_call 10; first | ((with_reducible refine (H0 _ (hT.below BB)).mono ?_); rintro e w2 ⟨rfl, b2⟩; replace A1 := A1.below b2; replace BB := below_then BB b2; have z2 := BB.size))
      | (go_at_call 15; first | ((with_reducible refine (H1 _ (hT.below BB)).mono ?_); rintro e w3 ⟨rfl, b3⟩; replace A1 := A1.below b3; replace BB := below_then BB b3; have z3 := BB.size))
      | (go_at_call 17; first | ((with_reducible refine (H2 _ (hT.below BB)).mono ?_); rintro e w4 ⟨rfl, b4⟩; replace A1 := A1.below b4; replace BB := below_then BB b4; have z4 := BB.size)))
  go_ret
  exact ⟨rfl, BB⟩
theorem built_ord : Tryd.prog.built 36 [(0, .int .u64 6346243789798364141), (1, .int .u64 1503914060200516822), (2, .int .u64 0), (3, .int .u64 1152921504606846976)] = some (ordW.map (Value.int .u64)).toArray := by kernel_rfl
theorem built_eight : Tryd.prog.built 22 [(0, .int .u8 8)] = some (eight32.map (Value.int .u8)).toArray := by kernel_rfl
theorem eight32_b : Bytes eight32 := bytes_dec (by decide)
theorem rordl_v (w : World) : Calls Tryd.prog 24 #[] w fun e w' => e = .returned (aggI .u64 (numW 4 (lN : Int))) ∧ Below w.heap.size w w' := by
  rw [ordW_eq]
  exact ordl_walk (w := w) (l_bu0 := rfl) (hbu0 := built_ord)
theorem lorder_v {a : List Int} (ha : Bytes a) (la : a.length = 32) (w : World) (hT : TabD w) : Calls Tryd.prog 9 #[aggI .u8 a] w fun e w' => e = .returned (.bool true) ∧ Below w.heap.size w w' := by
  by_cases h : IsPt a
  · exact order_t (hT := hT) (l_xa := la) (l_bu0 := rfl) (l_rq := encB_len _) (l_ln := numW_length _ _) (l_lb := numB_length _) (l_bu1 := rfl) (hbu0 := built_eight) (hbu1 := built_one) (H0 := alive_v) (H1 := right_yes ha la h) (H2 := times_yes eight32_b rfl ha la h) (H3 := fun W => rordl_v W) (H4 := fun W => ref_bytes_v _ W) (H5 := fun W hW => by have k := times_enc (numB_bytes (lN : Int)) (numB_length _) (smul (kB eight32) (ptB a h)) W hW; rw [kB_ord, kB_eight, order8, encB_zero] at k; exact k)
  · exact order_f (hT := hT) (l_xa := la) (l_bu0 := rfl) (l_rq := z32_len) (hbu0 := built_eight) (H0 := alive_v) (H1 := right_not ha la h) (H2 := times_not rfl ha la h)
end Go.Proofs.YtelppapkffjmpaaDoor
