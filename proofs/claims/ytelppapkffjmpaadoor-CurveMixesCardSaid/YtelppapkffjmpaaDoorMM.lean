/- The reference's bytes of a point, and point of bytes: walked. -/
import Derived.Test.YtelppapkffjmpaaDoorMJ
import Derived.Test.YtelppapkffjmpaaDoorMA
import Derived.Test.YtelppapkffjmpaaDoorMF
import Derived.Test.YtelppapkffjmpaaDoorMH
namespace Go.Proofs.YtelppapkffjmpaaDoor
open Go.RowKit Go.Shelf
set_option linter.unusedVariables false
set_option maxRecDepth 8000

set_option maxHeartbeats 2000000 in
theorem rbytes_walk (ps ps_8_4 cr0 ps_0_4 cr1 ps_4_4 cr2 cr3 cr3_set31 : List Int) (cr3_at31 cr1_at0 xm xn yb : Int) (w : World) (l_ps : ps.length = 12) (l_ps_8_4 : ps_8_4.length = 4) (l_cr0 : cr0.length = 4) (l_ps_0_4 : ps_0_4.length = 4) (l_cr1 : cr1.length = 4) (l_ps_4_4 : ps_4_4.length = 4) (l_cr2 : cr2.length = 4) (l_cr3 : cr3.length = 32) (l_cr3_set31 : cr3_set31.length = 32)
  (h_ps_8_4 : sl ps 8 4 = ps_8_4)
  (h_ps_0_4 : sl ps 0 4 = ps_0_4)
  (h_ps_4_4 : sl ps 4 4 = ps_4_4)
  (h_cr3_at31 : at0 cr3 31 = cr3_at31)
  (h_cr1_at0 : at0 cr1 0 = cr1_at0)
  (h_cr3_set31 : List.set cr3 31 (yb) = cr3_set31)
  (hm : Int.tmod cr1_at0 2 = xm)
  (hn : IntKind.u8.wrap xm = xm)
  (hn2 : IntKind.u8.wrap (xm * 128) = xn)
  (ho : IntKind.u8.wrap (cr3_at31 + xn) = yb)
  (H0 : ∀ W, Ret 61 #[aggI .u64 ps_8_4] (aggI .u64 cr0) W)
  (H1 : ∀ W, Ret 57 #[aggI .u64 ps_0_4, aggI .u64 cr0] (aggI .u64 cr1) W)
  (H2 : ∀ W, Ret 57 #[aggI .u64 ps_4_4, aggI .u64 cr0] (aggI .u64 cr2) W)
  (H3 : ∀ W, Ret 23 #[aggI .u64 cr2] (aggI .u8 cr3) W) :
  Calls Tryd.prog 30 #[aggI .u64 ps] w fun e w' => e = .returned (aggI .u8 cr3_set31) ∧ Below w.heap.size w w' := by
 go_enter Tryd.func30, Tryd.ntmps30
 go_wp2_with (first
   | (with_reducible refine at_n 1 ?_; refine wpList_boxI rfl 50 _ rfl .u64 ps rfl ?_; intro w1 A1 s1 b1; have BB := b1; have y1 := BB.size)
   | (with_reducible refine at_n 2 ?_; refine wpList_allocI rfl 22 rfl .u8 32 zero_a32 ?_; intro w2 A2 s2 b2; have q2_1 := A1.lt; replace A1 := A1.below b2; replace BB := below_then BB b2; have y2 := BB.size)
   | (with_reducible refine at_n 7 ?_; refine wpList_val' (fun R hR => Does.fieldA rfl 50 _ 2 rfl (off := 8) (by kernel_rfl) (w.heap.size) 0 rfl (o1 := 8) rfl hR) ?_)
   | (with_reducible refine at_n 8 ?_; refine wpList_val' (fun R hR => Does.loadM rfl 36 _ rfl 4 _ und_num rfl info_num (w.heap.size) 8 rfl .u64 (ps) (A1) (by omega) (h_ps_8_4) hR) ?_)
   | (with_reducible refine at_n 3 ?_; refine wpList_allocI rfl 36 rfl .u64 4 zero_num ?_; intro w4 A3 s4 b4; have q4_1 := A1.lt; have q4_2 := A2.lt; replace A1 := A1.below b4; replace A2 := A2.below b4; replace BB := below_then BB b4; have y4 := BB.size)
   | (with_reducible refine at_op (o := ⟨_, .store 36 (.tmp 3) _, _, _, _, _⟩) ?_; refine wpList_storeI rfl 36 _ _ rfl 4 info_num (w3.heap.size) rfl .u64 _ (cr0) rfl (A3) (rfl) (l_cr0) ?_; intro D5; replace A1 := A1.rowOther (B' := w3.heap.size) (by omega) ((cr0).map (Value.int .u64)).toArray; replace A2 := A2.rowOther (B' := w3.heap.size) (by omega) ((cr0).map (Value.int .u64)).toArray; replace BB := Below.setRow BB (g := w3.heap.size) (by omega) ((cr0).map (Value.int .u64)).toArray; clear A3; have A3 := D5)
   | (go_at_call 61; first | ((with_reducible refine (H0 _).mono ?_); rintro e w3 ⟨rfl, b3⟩; replace A1 := A1.below b3; replace A2 := A2.below b3; replace BB := below_then BB b3; have z3 := BB.size)))
 refine wp_world fun Wc6 hWc => ?_
 rw [← hWc] at BB A1 A2 A3
 clear hWc
 have k6_0 := A1.lt
 have k6_1 := A2.lt
 have k6_2 := A3.lt
 refine wp_region_new [[], [0], [], [1, 2], [], [4], [], [5, 6, 3], [], [], [8, 3, 7, 0, 1, 2, 3, 8, 9], [9, 7, 10, 0, 1, 2, 3, 4, 5, 6, 7, 8, 9, 10]] [some 10, some 11, some 12, some 13, some 14, some 15, some 16, some 17, some 4, some 5, none, none] (Wc6.heap.size) [⟨8, 10, .u64, 4, cr1⟩, ⟨9, 11, .u64, 4, cr2⟩] (fun w' => Arr .u64 w' (w.heap.size) ps ∧ Arr .u8 w' (w1.heap.size) (List.replicate 32 0) ∧ Arr .u64 w' (w3.heap.size) cr0 ∧ Below Wc6.heap.size Wc6 w') (fun opn f _ => match opn with | 0 => f 0 = .pointer (some ⟨w.heap.size, 0, none⟩) | 1 => f 1 = aggI .u64 ps_0_4 | 2 => f 2 = aggI .u64 cr0 | 3 => f 3 = aggI .u64 cr1 | 4 => f 4 = .pointer (some ⟨w.heap.size, 4, none⟩) | 5 => f 5 = aggI .u64 ps_4_4 | 6 => f 6 = aggI .u64 cr0 | 7 => f 7 = aggI .u64 cr2 | _ => True) (by kernel_rfl) (by kernel_rfl) (by kernel_rfl) (by kernel_rfl) rfl (by intro it h it' h' e; simp only [List.mem_cons, List.not_mem_nil, or_false] at h h'; rcases h with rfl | rfl <;> rcases h' with rfl | rfl <;> first | rfl | (simp at e)) (fun v v' hb h => ⟨h.1.below hb, h.2.1.below hb, h.2.2.1.below hb, below_then h.2.2.2 hb⟩) (fun v h => h.2.2.2.size) (fun v B cs hB h => ⟨h.1.rowOther (by omega) _, h.2.1.rowOther (by omega) _, h.2.2.1.rowOther (by omega) _, Below.setRow h.2.2.2 (by omega) _⟩) (fun _ _ _ _ h => h) ⟨A1.drew, A2.drew, A3.drew, (Below.refl _ _).drew⟩ ?_ (by intro it h; simp only [List.mem_cons, List.not_mem_nil, or_false] at h; rcases h with rfl | rfl <;> exact ⟨by simp, by simp⟩) ?_
 ·
  refine StepN.plain rfl (fun f W hG hH => ?_) ?_
  ·
   clear hH
   generalize hA : putL _ _ _ _ = A
   have q1 : A.eval (.tmp 1) = .pointer (some ⟨w.heap.size, 0, none⟩) := putLn hA 1 rfl rfl rfl
   clear hA
   exact Does.fieldA rfl 50 _ 0 rfl (off := 0) (by kernel_rfl) (w.heap.size) 0 q1 (o1 := 0) rfl ⟨Below.refl _ _, rfl⟩
  refine StepN.plain rfl (fun f W hG hH => ?_) ?_
  ·
   obtain ⟨d0, -⟩ := hH
   generalize hA : putL _ _ _ _ = A
   have q10 := putLl hA 10 d0 rfl rfl
   clear hA
   exact Does.loadM rfl 36 _ rfl 4 _ und_num rfl info_num (w.heap.size) (0) q10 .u64 (ps) (hG.1) (by omega) (h_ps_0_4) ⟨Below.refl _ _, rfl⟩
  refine StepN.plain rfl (fun f W hG hH => ?_) ?_
  ·
   clear hH
   generalize hA : putL _ _ _ _ = A
   have q3 : A.eval (.tmp 3) = .pointer (some ⟨w3.heap.size, 0, none⟩) := putLn hA 3 rfl rfl rfl
   clear hA
   exact Does.loadM rfl 36 _ rfl 4 _ und_num rfl info_num (w3.heap.size) (0) q3 .u64 (cr0) (hG.2.2.1) (by omega) (sl_all l_cr0) ⟨Below.refl _ _, rfl⟩
  refine StepN.plain rfl (fun f W hG hH => ?_) ?_
  ·
   obtain ⟨d1, d2, -⟩ := hH
   generalize hA : putL _ _ _ _ = A
   have q11 := putLl hA 11 d1 rfl rfl
   have r11 := slot_get q11
   have q12 := putLl hA 12 d2 rfl rfl
   have r12 := slot_get q12
   clear hA
   refine Does.call rfl _ _ (by go_simp) ((H1 W).mono ?_)
   rintro e w' ⟨rfl, hb'⟩
   exact ⟨_, rfl, hb', rfl⟩
  refine StepN.plain rfl (fun f W hG hH => ?_) ?_
  ·
   clear hH
   generalize hA : putL _ _ _ _ = A
   have q1 : A.eval (.tmp 1) = .pointer (some ⟨w.heap.size, 0, none⟩) := putLn hA 1 rfl rfl rfl
   clear hA
   exact Does.fieldA rfl 50 _ 1 rfl (off := 4) (by kernel_rfl) (w.heap.size) 0 q1 (o1 := 4) rfl ⟨Below.refl _ _, rfl⟩
  refine StepN.plain rfl (fun f W hG hH => ?_) ?_
  ·
   obtain ⟨d4, -⟩ := hH
   generalize hA : putL _ _ _ _ = A
   have q14 := putLl hA 14 d4 rfl rfl
   clear hA
   exact Does.loadM rfl 36 _ rfl 4 _ und_num rfl info_num (w.heap.size) (4) q14 .u64 (ps) (hG.1) (by omega) (h_ps_4_4) ⟨Below.refl _ _, rfl⟩
  refine StepN.plain rfl (fun f W hG hH => ?_) ?_
  ·
   clear hH
   generalize hA : putL _ _ _ _ = A
   have q3 : A.eval (.tmp 3) = .pointer (some ⟨w3.heap.size, 0, none⟩) := putLn hA 3 rfl rfl rfl
   clear hA
   exact Does.loadM rfl 36 _ rfl 4 _ und_num rfl info_num (w3.heap.size) (0) q3 .u64 (cr0) (hG.2.2.1) (by omega) (sl_all l_cr0) ⟨Below.refl _ _, rfl⟩
  refine StepN.plain rfl (fun f W hG hH => ?_) ?_
  ·
   obtain ⟨d5, d6, d3, -⟩ := hH
   generalize hA : putL _ _ _ _ = A
   have q15 := putLl hA 15 d5 rfl rfl
   have r15 := slot_get q15
   have q16 := putLl hA 16 d6 rfl rfl
   have r16 := slot_get q16
   clear hA
   refine Does.call rfl _ _ (by go_simp) ((H2 W).mono ?_)
   rintro e w' ⟨rfl, hb'⟩
   exact ⟨_, rfl, hb', rfl⟩
  refine StepN.alloc rfl (fun _ _ => trivial) (fun A W => ?_) ?_
  ·
   refine Does.allocI rfl 36 rfl .u64 4 zero_num ?_
   intro W1 D1 s1 b1'
   exact ⟨b1', rfl, D1⟩
  refine StepN.alloc rfl (fun _ _ => trivial) (fun A W => ?_) ?_
  ·
   refine Does.allocI rfl 36 rfl .u64 4 zero_num ?_
   intro W1 D1 s1 b1'
   exact ⟨b1', rfl, D1⟩
  refine StepN.store rfl (fun _ _ => trivial) (fun f W B hG hH hB hZ => ?_) ?_
  ·
   obtain ⟨-, d3, d7, d0, d1, d2, -, -, -, -⟩ := hH
   generalize hA : putL _ _ _ _ = A
   have q4 : A.eval (.tmp 4) = f 8 := putLl hA 4 rfl rfl rfl
   have r4 := slot_get q4
   have q13 := putLl hA 13 d3 rfl rfl
   have r13 := slot_get q13
   clear hA
   have hB : f 8 = .pointer (some ⟨B, 0, none⟩) := hB
   rw [hB] at q4
   refine Does.storeI rfl 36 _ _ rfl 4 info_num B q4 .u64 _ (cr1) q13 hZ (by rfl) (l_cr1) ?_
   intro A9
   exact ⟨rfl, A9⟩
  refine StepN.store rfl (fun _ _ => trivial) (fun f W B hG hH hB hZ => ?_) ?_
  ·
   obtain ⟨-, d7, -, d0, d1, d2, d3, d4, d5, d6, -, -, -, -, -⟩ := hH
   generalize hA : putL _ _ _ _ = A
   have q5 : A.eval (.tmp 5) = f 9 := putLl hA 5 rfl rfl rfl
   have r5 := slot_get q5
   have q17 := putLl hA 17 d7 rfl rfl
   have r17 := slot_get q17
   clear hA
   have hB : f 9 = .pointer (some ⟨B, 0, none⟩) := hB
   rw [hB] at q5
   refine Does.storeI rfl 36 _ _ rfl 4 info_num B q5 .u64 _ (cr2) q17 hZ (by rfl) (l_cr2) ?_
   intro A9
   exact ⟨rfl, A9⟩
  exact trivial
 ·
  intro f V6 hG hH hN
  obtain ⟨d0, d1, d2, d3, d4, d5, d6, d7, -, -, -, -, -⟩ : (f 0 = .pointer (some ⟨w.heap.size, 0, none⟩)) ∧ (f 1 = aggI .u64 ps_0_4) ∧ (f 2 = aggI .u64 cr0) ∧ (f 3 = aggI .u64 cr1) ∧ (f 4 = .pointer (some ⟨w.heap.size, 4, none⟩)) ∧ (f 5 = aggI .u64 ps_4_4) ∧ (f 6 = aggI .u64 cr0) ∧ (f 7 = aggI .u64 cr2) ∧ (True) ∧ (True) ∧ (True) ∧ (True) ∧ True := hH
  rw [show List.range (List.length [[], [0], [], [1, 2], [], [4], [], [5, 6, 3], [], [], [8, 3, 7, 0, 1, 2, 3, 8, 9], [9, 7, 10, 0, 1, 2, 3, 4, 5, 6, 7, 8, 9, 10]]) = [0, 1, 2, 3, 4, 5, 6, 7, 8, 9, 10, 11] from rfl]
  obtain ⟨loc, hn1, hn2⟩ := hN
  obtain ⟨hN0, kN0, A4⟩ : f 8 = .pointer (some ⟨loc 8, 0, none⟩) ∧ Wc6.heap.size ≤ loc 8 ∧ Arr .u64 V6 (loc 8) cr1 := hn1 ⟨8, 10, .u64, 4, cr1⟩ (by simp) rfl
  obtain ⟨hN1, kN1, A5⟩ : f 9 = .pointer (some ⟨loc 9, 0, none⟩) ∧ Wc6.heap.size ≤ loc 9 ∧ Arr .u64 V6 (loc 9) cr2 := hn1 ⟨9, 11, .u64, 4, cr2⟩ (by simp) rfl
  have ne6_1_0 : loc 9 ≠ loc 8 := hn2 ⟨9, 11, .u64, 4, cr2⟩ (by simp) ⟨8, 10, .u64, 4, cr1⟩ (by simp) rfl rfl (by simp)
  clear hn1 hn2
  generalize loc 8 = N6_0 at *
  generalize loc 9 = N6_1 at *
  simp only [putL, List.getElem?_cons_zero, List.getElem?_cons_succ, Option.join, Option.bind_some, id_eq, Act.put, List.setIfInBounds_toArray, List.set_cons_zero, List.set_cons_succ, d0, d1, d2, d3, d4, d5, d6, d7, hN0, hN1]
  clear d0 d1 d2 d3 d4 d5 d6 d7 hN0 hN1
  clear A1 A2 A3
  obtain ⟨A1, A2, A3, BV⟩ := hG
  replace BB := below_then BB BV
  clear BV
  have zz6 := BB.size
  go_wp2_with (first
    | (with_reducible refine at_n 18 ?_; refine wpList_val' (fun R hR => Does.loadM rfl 36 _ rfl 4 _ und_num rfl info_num (N6_1) 0 rfl .u64 (cr2) (A5) (by omega) (sl_all l_cr2) hR) ?_)
    | (with_reducible refine at_n 6 ?_; refine wpList_allocI rfl 22 rfl .u8 32 zero_a32 ?_; intro w8 A6 s8 b8; have q8_1 := A1.lt; have q8_2 := A2.lt; have q8_3 := A3.lt; have q8_4 := A4.lt; have q8_5 := A5.lt; replace A1 := A1.below b8; replace A2 := A2.below b8; replace A3 := A3.below b8; replace A4 := A4.below b8; replace A5 := A5.below b8; replace BB := below_then BB b8; have y8 := BB.size)
    | (with_reducible refine at_op (o := ⟨_, .store 22 (.tmp 6) _, _, _, _, _⟩) ?_; refine wpList_storeI rfl 22 _ _ rfl 32 info_a32 (w7.heap.size) rfl .u8 _ (cr3) rfl (A6) (rfl) (l_cr3) ?_; intro D9; replace A1 := A1.rowOther (B' := w7.heap.size) (by omega) ((cr3).map (Value.int .u8)).toArray; replace A2 := A2.rowOther (B' := w7.heap.size) (by omega) ((cr3).map (Value.int .u8)).toArray; replace A3 := A3.rowOther (B' := w7.heap.size) (by omega) ((cr3).map (Value.int .u8)).toArray; replace A4 := A4.rowOther (B' := w7.heap.size) (by omega) ((cr3).map (Value.int .u8)).toArray; replace A5 := A5.rowOther (B' := w7.heap.size) (by omega) ((cr3).map (Value.int .u8)).toArray; replace BB := Below.setRow BB (g := w7.heap.size) (by omega) ((cr3).map (Value.int .u8)).toArray; clear A6; have A6 := D9)
    | (with_reducible refine at_n 21 ?_; refine wpList_val' (fun R hR => Does.loadC rfl 5 _ rfl _ Tryd.underlying5 rfl (w7.heap.size) 31 rfl .u8 (cr3) (A6) (by rw [l_cr3]; decide) (h_cr3_at31) hR) ?_)
    | (with_reducible refine at_n 23 ?_; refine wpList_val' (fun R hR => Does.loadC rfl 34 _ rfl _ Tryd.underlying34 rfl (N6_0) 0 rfl .u64 (cr1) (A4) (by rw [l_cr1]; decide) (h_cr1_at0) hR) ?_)
    | (with_reducible refine at_op (o := ⟨_, .store 5 (.tmp 28) _, _, _, _, _⟩) ?_; refine wpList_storeC rfl 5 _ _ rfl (by kernel_rfl) (w7.heap.size) 31 rfl .u8 _ rfl (cr3) cr3_set31 (A6) (by rw [l_cr3]; decide) (by first | exact h_cr3_set31 | (simp only [hm, hn, hn2, ho]; exact h_cr3_set31)) ?_; intro w10 D10 O10 L10; replace A1 := O10 _ _ _ (by omega) A1; replace A2 := O10 _ _ _ (by omega) A2; replace A3 := O10 _ _ _ (by omega) A3; replace A4 := O10 _ _ _ (by omega) A4; replace A5 := O10 _ _ _ (by omega) A5; replace BB := L10 _ _ BB (by omega); have z10 := BB.size; clear O10 L10 A6; have A6 := D10)
    | (with_reducible refine at_n 29 ?_; refine wpList_val' (fun R hR => Does.loadM rfl 22 _ rfl 32 _ und_a32 rfl info_a32 (w7.heap.size) 0 rfl .u8 (cr3_set31) (A6) (by omega) (sl_all l_cr3_set31) hR) ?_)
    | (with_reducible refine at_op (o := ⟨_, .store 22 (.tmp 2) _, _, _, _, _⟩) ?_; refine wpList_storeI rfl 22 _ _ rfl 32 info_a32 (w1.heap.size) rfl .u8 _ (cr3_set31) rfl (A2) (rfl) (l_cr3_set31) ?_; intro D11; replace A1 := A1.rowOther (B' := w1.heap.size) (by omega) ((cr3_set31).map (Value.int .u8)).toArray; replace A3 := A3.rowOther (B' := w1.heap.size) (by omega) ((cr3_set31).map (Value.int .u8)).toArray; replace A4 := A4.rowOther (B' := w1.heap.size) (by omega) ((cr3_set31).map (Value.int .u8)).toArray; replace A5 := A5.rowOther (B' := w1.heap.size) (by omega) ((cr3_set31).map (Value.int .u8)).toArray; replace A6 := A6.rowOther (B' := w1.heap.size) (by omega) ((cr3_set31).map (Value.int .u8)).toArray; replace BB := Below.setRow BB (g := w1.heap.size) (by omega) ((cr3_set31).map (Value.int .u8)).toArray; clear A2; have A2 := D11)
    | (go_at_call 23; first | ((with_reducible refine (H3 _).mono ?_); rintro e w7 ⟨rfl, b7⟩; replace A1 := A1.below b7; replace A2 := A2.below b7; replace A3 := A3.below b7; replace A4 := A4.below b7; replace A5 := A5.below b7; replace BB := below_then BB b7; have z7 := BB.size)))
  refine bodyPost_ret (results_cellM rfl _ 32 _ und_a32 rfl info_a32 (w1.heap.size) rfl .u8 _ A2 (l_cr3_set31)) rfl ?_
  exact ⟨rfl, BB⟩
set_option maxHeartbeats 2000000 in
theorem read_nt (xb xb_set31 cr0 cr1 bu0 : List Int) (xb_at31 yb : Int) (w : World) (l_xb : xb.length = 32) (l_xb_set31 : xb_set31.length = 32) (l_cr0 : cr0.length = 4) (l_cr1 : cr1.length = 4) (l_bu0 : bu0.length = 12)
  (h_xb_at31 : at0 xb 31 = xb_at31)
  (h_xb_set31 : List.set xb 31 (yb) = xb_set31)
  (hge : 128 ≤ xb_at31)
  (hlow : Int.tmod xb_at31 128 = yb)
  (hbu0 : Tryd.prog.built 50 [] = some (bu0.map (Value.int .u64)).toArray)
  (H0 : ∀ W, Ret 54 #[aggI .u8 xb_set31] (aggI .u64 cr0) W)
  (H1 : ∀ W, Ret 56 #[] (aggI .u64 cr1) W)
  (H2 : ∀ W, Ret 55 #[aggI .u64 cr0, aggI .u64 cr1] (.bool false) W) :
  Calls Tryd.prog 29 #[aggI .u8 xb] w fun e w' => e = .returned (.tuple #[aggI .u64 bu0, .bool false]) ∧ Below w.heap.size w w' := by
 go_enter Tryd.func29, Tryd.ntmps29
 go_wp2_with (first
   | (with_reducible refine at_n 1 ?_; refine wpList_boxI rfl 22 _ rfl .u8 xb rfl ?_; intro w1 A1 s1 b1; have BB := b1; have y1 := BB.size)
   | (with_reducible refine at_n 2 ?_; refine wpList_allocI rfl 50 rfl .u64 12 zero_pnt ?_; intro w2 A2 s2 b2; have q2_1 := A1.lt; replace A1 := A1.below b2; replace BB := below_then BB b2; have y2 := BB.size)
   | (with_reducible refine at_n 11 ?_; refine wpList_val' (fun R hR => Does.loadC rfl 5 _ rfl _ Tryd.underlying5 rfl (w.heap.size) 31 rfl .u8 (xb) (A1) (by rw [l_xb]; decide) (h_xb_at31) hR) ?_)
   | (with_reducible refine at_n 14 ?_; refine wpList_val' (fun R hR => Does.loadC rfl 5 _ rfl _ Tryd.underlying5 rfl (w.heap.size) 31 rfl .u8 (xb) (A1) (by rw [l_xb]; decide) (h_xb_at31) hR) ?_)
   | (with_reducible refine at_op (o := ⟨_, .store 5 (.tmp 16) _, _, _, _, _⟩) ?_; refine wpList_storeC rfl 5 _ _ rfl (by kernel_rfl) (w.heap.size) 31 rfl .u8 _ rfl (xb) xb_set31 (A1) (by rw [l_xb]; decide) (by first | exact h_xb_set31 | (simp only [hge, hlow]; exact h_xb_set31)) ?_; intro w3 D3 O3 L3; replace A2 := O3 _ _ _ (by omega) A2; replace BB := L3 _ _ BB (by omega); have z3 := BB.size; clear O3 L3 A1; have A1 := D3)
   | (with_reducible refine at_n 17 ?_; refine wpList_val' (fun R hR => Does.loadM rfl 22 _ rfl 32 _ und_a32 rfl info_a32 (w.heap.size) 0 rfl .u8 (xb_set31) (A1) (by omega) (sl_all l_xb_set31) hR) ?_)
   | (with_reducible refine at_n 5 ?_; refine wpList_allocI rfl 36 rfl .u64 4 zero_num ?_; intro w5 A5 s5 b5; have q5_1 := A1.lt; have q5_2 := A2.lt; replace A1 := A1.below b5; replace A2 := A2.below b5; replace BB := below_then BB b5; have y5 := BB.size)
   | (with_reducible refine at_op (o := ⟨_, .store 36 (.tmp 5) _, _, _, _, _⟩) ?_; refine wpList_storeI rfl 36 _ _ rfl 4 info_num (w4.heap.size) rfl .u64 _ (cr0) rfl (A5) (rfl) (l_cr0) ?_; intro D6; replace A1 := A1.rowOther (B' := w4.heap.size) (by omega) ((cr0).map (Value.int .u64)).toArray; replace A2 := A2.rowOther (B' := w4.heap.size) (by omega) ((cr0).map (Value.int .u64)).toArray; replace BB := Below.setRow BB (g := w4.heap.size) (by omega) ((cr0).map (Value.int .u64)).toArray; clear A5; have A5 := D6)
   | (go_at_call 54; first | ((with_reducible refine (H0 _).mono ?_); rintro e w4 ⟨rfl, b4⟩; replace A1 := A1.below b4; replace A2 := A2.below b4; replace BB := below_then BB b4; have z4 := BB.size)))
 refine wp_world fun Wc7 hWc => ?_
 rw [← hWc] at BB A1 A2 A5
 clear hWc
 have k7_0 := A1.lt
 have k7_1 := A2.lt
 have k7_2 := A5.lt
 refine wp_region_ord [[], [], [0, 1, 1], [2]] [some 19, some 20, some 21, some 22] 4 (fun b w' => Arr .u8 w' (w.heap.size) xb_set31 ∧ Arr .u64 w' (w1.heap.size) (List.replicate 12 0) ∧ Arr .u64 w' (w4.heap.size) cr0 ∧ Below w.heap.size w w') (fun opn f _ => match opn with | 0 => f 0 = aggI .u64 cr0 | 1 => f 1 = aggI .u64 cr1 | 2 => f 2 = .bool false | 3 => f 3 = .bool true | _ => True) (fun _ _ _ => True) (by kernel_rfl) (by kernel_rfl) (by kernel_rfl) (by kernel_rfl) (fun b v v' hb h => ⟨h.1.below hb, h.2.1.below hb, h.2.2.1.below hb, below_then h.2.2.2 hb⟩) (fun _ _ _ _ _ h => h) (fun _ _ _ _ _ _ _ h => h) ⟨A1.drew, A2.drew, A5.drew, BB.drew⟩ ?_ ?_
 ·
  refine StepL.other (k := 0) rfl (fun b f W hb hG hH => ?_) ?_
  ·
   clear hH
   generalize hA : putL _ _ _ _ = A
   have q5 : A.eval (.tmp 5) = .pointer (some ⟨w4.heap.size, 0, none⟩) := putLn hA 5 rfl rfl rfl
   clear hA
   exact Does.loadM rfl 36 _ rfl 4 _ und_num rfl info_num (w4.heap.size) (0) q5 .u64 (cr0) (hG.2.2.1) (by omega) (sl_all l_cr0) ⟨Below.refl _ _, rfl⟩
  refine StepL.other (k := 1) rfl (fun b f W hb hG hH => ?_) ?_
  ·
   clear hH
   generalize hA : putL _ _ _ _ = A
   clear hA
   refine Does.call rfl _ _ (by go_simp) ((H1 W).mono ?_)
   rintro e w' ⟨rfl, hb'⟩
   exact ⟨_, rfl, hb', rfl⟩
  refine StepL.other (k := 2) rfl (fun b f W hb hG hH => ?_) ?_
  ·
   obtain ⟨d0, d1, -, -⟩ := hH
   generalize hA : putL _ _ _ _ = A
   have q19 := putLl hA 19 d0 rfl rfl
   have r19 := slot_get q19
   have q20 := putLl hA 20 d1 rfl rfl
   have r20 := slot_get q20
   clear hA
   refine Does.call rfl _ _ (by go_simp) ((H2 W).mono ?_)
   rintro e w' ⟨rfl, hb'⟩
   exact ⟨_, rfl, hb', rfl⟩
  refine StepL.other (k := 3) rfl (fun b f W hb hG hH => ?_) ?_
  ·
   obtain ⟨d2, -⟩ := hH
   generalize hA : putL _ _ _ _ = A
   have q21 := putLl hA 21 d2 rfl rfl
   have r21 := slot_get q21
   clear hA
   refine Does.pure rfl (.bool true) ?_ ⟨Below.refl _ _, rfl⟩
   go_simp
  exact trivial
 ·
  intro f V7 hG hH
  obtain ⟨d0, d1, d2, d3, -⟩ : (f 0 = aggI .u64 cr0) ∧ (f 1 = aggI .u64 cr1) ∧ (f 2 = .bool false) ∧ (f 3 = .bool true) ∧ True := hH
  rw [show List.range (List.length [[], [], [0, 1, 1], [2]]) = [0, 1, 2, 3] from rfl]
  simp only [putL, List.getElem?_cons_zero, List.getElem?_cons_succ, Option.join, Option.bind_some, id_eq, Act.put, List.setIfInBounds_toArray, List.set_cons_zero, List.set_cons_succ, d0, d1, d2, d3]
  clear d0 d1 d2 d3
  clear A1 A2 A5
  obtain ⟨A1, A2, A5, BV⟩ := hG
  clear BB
  have BB := BV
  clear BV
  have zz7 := BB.size
  go_wp2_with (first
    | (with_reducible refine at_n 23 ?_; go_loud (refine wpList_val' (fun R hR => Does.buildI rfl 50 _ rfl .u64 (bu0) _ (hbu0) rfl hR) ?_))
    | (with_reducible refine at_op (o := ⟨_, .store 50 (.tmp 2) _, _, _, _, _⟩) ?_; refine wpList_storeI rfl 50 _ _ rfl 12 info_pnt (w1.heap.size) rfl .u64 _ (bu0) rfl (A2) (rfl) (l_bu0) ?_; intro D8; replace A1 := A1.rowOther (B' := w1.heap.size) (by omega) ((bu0).map (Value.int .u64)).toArray; replace A5 := A5.rowOther (B' := w1.heap.size) (by omega) ((bu0).map (Value.int .u64)).toArray; replace BB := Below.setRow BB (g := w1.heap.size) (by omega) ((bu0).map (Value.int .u64)).toArray; clear A2; have A2 := D8))
  refine bodyPost_ret (results_cell_tmpM rfl _ 12 _ Tryd.underlying50 rfl info_pnt (w1.heap.size) rfl .u64 _ A2 (l_bu0)) rfl ?_
  exact ⟨rfl, BB⟩
set_option maxHeartbeats 2000000 in
theorem read_zt (xb xb_set31 cr0 cr1 cr3 cr4 cr5 bu0 cr6 cr7 cr8 cr9 rx bu1 : List Int) (xb_at31 yb : Int) (w : World) (l_xb : xb.length = 32) (l_xb_set31 : xb_set31.length = 32) (l_cr0 : cr0.length = 4) (l_cr1 : cr1.length = 4) (l_cr3 : cr3.length = 4) (l_cr4 : cr4.length = 4) (l_cr5 : cr5.length = 4) (l_bu0 : bu0.length = 4) (l_cr6 : cr6.length = 4) (l_cr7 : cr7.length = 4) (l_cr8 : cr8.length = 4) (l_cr9 : cr9.length = 4) (l_rx : rx.length = 4) (l_bu1 : bu1.length = 12)
  (h_xb_at31 : at0 xb 31 = xb_at31)
  (h_xb_set31 : List.set xb 31 (yb) = xb_set31)
  (hge : 128 ≤ xb_at31)
  (hlow : Int.tmod xb_at31 128 = yb)
  (hbu0 : Tryd.prog.built 36 [(0, .int .u64 1)] = some (bu0.map (Value.int .u64)).toArray)
  (hbu1 : Tryd.prog.built 50 [] = some (bu1.map (Value.int .u64)).toArray)
  (he_rx_bu1 : decide (rx = bu1) = false)
  (H0 : ∀ W, Ret 54 #[aggI .u8 xb_set31] (aggI .u64 cr0) W)
  (H1 : ∀ W, Ret 56 #[] (aggI .u64 cr1) W)
  (H2 : ∀ W, Ret 55 #[aggI .u64 cr0, aggI .u64 cr1] (.bool true) W)
  (H3 : ∀ W, Ret 57 #[aggI .u64 cr0, aggI .u64 cr0] (aggI .u64 cr3) W)
  (H4 : ∀ W, Ret 59 #[] (aggI .u64 cr4) W)
  (H5 : ∀ W, Ret 57 #[aggI .u64 cr4, aggI .u64 cr3] (aggI .u64 cr5) W)
  (H6 : ∀ W, Ret 58 #[aggI .u64 cr5, aggI .u64 bu0] (aggI .u64 cr6) W)
  (H7 : ∀ W, Ret 35 #[aggI .u64 cr3, aggI .u64 bu0] (aggI .u64 cr7) W)
  (H8 : ∀ W, Ret 61 #[aggI .u64 cr6] (aggI .u64 cr8) W)
  (H9 : ∀ W, Ret 57 #[aggI .u64 cr7, aggI .u64 cr8] (aggI .u64 cr9) W)
  (H10 : ∀ W, Ret 60 #[aggI .u64 cr9] (.tuple #[aggI .u64 rx, .bool false]) W) :
  Calls Tryd.prog 29 #[aggI .u8 xb] w fun e w' => e = .returned (.tuple #[aggI .u64 bu1, .bool false]) ∧ Below w.heap.size w w' := by
 go_enter Tryd.func29, Tryd.ntmps29
 go_wp2_with (first
   | (with_reducible refine at_n 1 ?_; refine wpList_boxI rfl 22 _ rfl .u8 xb rfl ?_; intro w1 A1 s1 b1; have BB := b1; have y1 := BB.size)
   | (with_reducible refine at_n 2 ?_; refine wpList_allocI rfl 50 rfl .u64 12 zero_pnt ?_; intro w2 A2 s2 b2; have q2_1 := A1.lt; replace A1 := A1.below b2; replace BB := below_then BB b2; have y2 := BB.size)
   | (with_reducible refine at_n 11 ?_; refine wpList_val' (fun R hR => Does.loadC rfl 5 _ rfl _ Tryd.underlying5 rfl (w.heap.size) 31 rfl .u8 (xb) (A1) (by rw [l_xb]; decide) (h_xb_at31) hR) ?_)
   | (with_reducible refine at_n 14 ?_; refine wpList_val' (fun R hR => Does.loadC rfl 5 _ rfl _ Tryd.underlying5 rfl (w.heap.size) 31 rfl .u8 (xb) (A1) (by rw [l_xb]; decide) (h_xb_at31) hR) ?_)
   | (with_reducible refine at_op (o := ⟨_, .store 5 (.tmp 16) _, _, _, _, _⟩) ?_; refine wpList_storeC rfl 5 _ _ rfl (by kernel_rfl) (w.heap.size) 31 rfl .u8 _ rfl (xb) xb_set31 (A1) (by rw [l_xb]; decide) (by first | exact h_xb_set31 | (simp only [hge, hlow]; exact h_xb_set31)) ?_; intro w3 D3 O3 L3; replace A2 := O3 _ _ _ (by omega) A2; replace BB := L3 _ _ BB (by omega); have z3 := BB.size; clear O3 L3 A1; have A1 := D3)
   | (with_reducible refine at_n 17 ?_; refine wpList_val' (fun R hR => Does.loadM rfl 22 _ rfl 32 _ und_a32 rfl info_a32 (w.heap.size) 0 rfl .u8 (xb_set31) (A1) (by omega) (sl_all l_xb_set31) hR) ?_)
   | (with_reducible refine at_n 5 ?_; refine wpList_allocI rfl 36 rfl .u64 4 zero_num ?_; intro w5 A5 s5 b5; have q5_1 := A1.lt; have q5_2 := A2.lt; replace A1 := A1.below b5; replace A2 := A2.below b5; replace BB := below_then BB b5; have y5 := BB.size)
   | (with_reducible refine at_op (o := ⟨_, .store 36 (.tmp 5) _, _, _, _, _⟩) ?_; refine wpList_storeI rfl 36 _ _ rfl 4 info_num (w4.heap.size) rfl .u64 _ (cr0) rfl (A5) (rfl) (l_cr0) ?_; intro D6; replace A1 := A1.rowOther (B' := w4.heap.size) (by omega) ((cr0).map (Value.int .u64)).toArray; replace A2 := A2.rowOther (B' := w4.heap.size) (by omega) ((cr0).map (Value.int .u64)).toArray; replace BB := Below.setRow BB (g := w4.heap.size) (by omega) ((cr0).map (Value.int .u64)).toArray; clear A5; have A5 := D6)
   | (go_at_call 54; first | ((with_reducible refine (H0 _).mono ?_); rintro e w4 ⟨rfl, b4⟩; replace A1 := A1.below b4; replace A2 := A2.below b4; replace BB := below_then BB b4; have z4 := BB.size)))
 refine wp_world fun Wc7 hWc => ?_
 rw [← hWc] at BB A1 A2 A5
 clear hWc
 have k7_0 := A1.lt
 have k7_1 := A2.lt
 have k7_2 := A5.lt
 refine wp_region_ord [[], [], [0, 1, 1], [2]] [some 19, some 20, some 21, some 22] 4 (fun b w' => Arr .u8 w' (w.heap.size) xb_set31 ∧ Arr .u64 w' (w1.heap.size) (List.replicate 12 0) ∧ Arr .u64 w' (w4.heap.size) cr0 ∧ Below w.heap.size w w') (fun opn f _ => match opn with | 0 => f 0 = aggI .u64 cr0 | 1 => f 1 = aggI .u64 cr1 | 2 => f 2 = .bool true | 3 => f 3 = .bool false | _ => True) (fun _ _ _ => True) (by kernel_rfl) (by kernel_rfl) (by kernel_rfl) (by kernel_rfl) (fun b v v' hb h => ⟨h.1.below hb, h.2.1.below hb, h.2.2.1.below hb, below_then h.2.2.2 hb⟩) (fun _ _ _ _ _ h => h) (fun _ _ _ _ _ _ _ h => h) ⟨A1.drew, A2.drew, A5.drew, BB.drew⟩ ?_ ?_
 ·
  refine StepL.other (k := 0) rfl (fun b f W hb hG hH => ?_) ?_
  ·
   clear hH
   generalize hA : putL _ _ _ _ = A
   have q5 : A.eval (.tmp 5) = .pointer (some ⟨w4.heap.size, 0, none⟩) := putLn hA 5 rfl rfl rfl
   clear hA
   exact Does.loadM rfl 36 _ rfl 4 _ und_num rfl info_num (w4.heap.size) (0) q5 .u64 (cr0) (hG.2.2.1) (by omega) (sl_all l_cr0) ⟨Below.refl _ _, rfl⟩
  refine StepL.other (k := 1) rfl (fun b f W hb hG hH => ?_) ?_
  ·
   clear hH
   generalize hA : putL _ _ _ _ = A
   clear hA
   refine Does.call rfl _ _ (by go_simp) ((H1 W).mono ?_)
   rintro e w' ⟨rfl, hb'⟩
   exact ⟨_, rfl, hb', rfl⟩
  refine StepL.other (k := 2) rfl (fun b f W hb hG hH => ?_) ?_
  ·
   obtain ⟨d0, d1, -, -⟩ := hH
   generalize hA : putL _ _ _ _ = A
   have q19 := putLl hA 19 d0 rfl rfl
   have r19 := slot_get q19
   have q20 := putLl hA 20 d1 rfl rfl
   have r20 := slot_get q20
   clear hA
   refine Does.call rfl _ _ (by go_simp) ((H2 W).mono ?_)
   rintro e w' ⟨rfl, hb'⟩
   exact ⟨_, rfl, hb', rfl⟩
  refine StepL.other (k := 3) rfl (fun b f W hb hG hH => ?_) ?_
  ·
   obtain ⟨d2, -⟩ := hH
   generalize hA : putL _ _ _ _ = A
   have q21 := putLl hA 21 d2 rfl rfl
   have r21 := slot_get q21
   clear hA
   refine Does.pure rfl (.bool false) ?_ ⟨Below.refl _ _, rfl⟩
   go_simp
  exact trivial
 ·
  intro f V7 hG hH
  obtain ⟨d0, d1, d2, d3, -⟩ : (f 0 = aggI .u64 cr0) ∧ (f 1 = aggI .u64 cr1) ∧ (f 2 = .bool true) ∧ (f 3 = .bool false) ∧ True := hH
  rw [show List.range (List.length [[], [], [0, 1, 1], [2]]) = [0, 1, 2, 3] from rfl]
  simp only [putL, List.getElem?_cons_zero, List.getElem?_cons_succ, Option.join, Option.bind_some, id_eq, Act.put, List.setIfInBounds_toArray, List.set_cons_zero, List.set_cons_succ, d0, d1, d2, d3]
  clear d0 d1 d2 d3
  clear A1 A2 A5
  obtain ⟨A1, A2, A5, BV⟩ := hG
  clear BB
  have BB := BV
  clear BV
  have zz7 := BB.size
  go_wp2_with (first
    | (with_reducible refine at_n 24 ?_; refine wpList_val' (fun R hR => Does.loadM rfl 36 _ rfl 4 _ und_num rfl info_num (w4.heap.size) 0 rfl .u64 (cr0) (A5) (by omega) (sl_all l_cr0) hR) ?_)
    | (with_reducible refine at_n 25 ?_; refine wpList_val' (fun R hR => Does.loadM rfl 36 _ rfl 4 _ und_num rfl info_num (w4.heap.size) 0 rfl .u64 (cr0) (A5) (by omega) (sl_all l_cr0) hR) ?_)
    | (with_reducible refine at_n 6 ?_; refine wpList_allocI rfl 36 rfl .u64 4 zero_num ?_; intro w9 A6 s9 b9; have q9_1 := A1.lt; have q9_2 := A2.lt; have q9_5 := A5.lt; replace A1 := A1.below b9; replace A2 := A2.below b9; replace A5 := A5.below b9; replace BB := below_then BB b9; have y9 := BB.size)
    | (with_reducible refine at_op (o := ⟨_, .store 36 (.tmp 6) _, _, _, _, _⟩) ?_; refine wpList_storeI rfl 36 _ _ rfl 4 info_num (w8.heap.size) rfl .u64 _ (cr3) rfl (A6) (rfl) (l_cr3) ?_; intro D10; replace A1 := A1.rowOther (B' := w8.heap.size) (by omega) ((cr3).map (Value.int .u64)).toArray; replace A2 := A2.rowOther (B' := w8.heap.size) (by omega) ((cr3).map (Value.int .u64)).toArray; replace A5 := A5.rowOther (B' := w8.heap.size) (by omega) ((cr3).map (Value.int .u64)).toArray; replace BB := Below.setRow BB (g := w8.heap.size) (by omega) ((cr3).map (Value.int .u64)).toArray; clear A6; have A6 := D10)
    | (go_at_call 57; first | ((with_reducible refine (H3 _).mono ?_); rintro e w8 ⟨rfl, b8⟩; replace A1 := A1.below b8; replace A2 := A2.below b8; replace A5 := A5.below b8; replace BB := below_then BB b8; have z8 := BB.size)))
  refine wp_world fun Wc11 hWc => ?_
  rw [← hWc] at BB A1 A2 A5 A6
  clear hWc
  have k11_0 := A1.lt
  have k11_1 := A2.lt
  have k11_2 := A5.lt
  have k11_3 := A6.lt
  refine wp_region_new [[], [], [0, 1, 0], [], [2, 3, 2], [], [5, 4, 4, 0, 1, 2, 3, 4, 5]] [some 27, some 28, some 29, some 30, some 31, some 7, none] (Wc11.heap.size) [⟨5, 6, .u64, 4, cr6⟩] (fun w' => Arr .u8 w' (w.heap.size) xb_set31 ∧ Arr .u64 w' (w1.heap.size) (List.replicate 12 0) ∧ Arr .u64 w' (w4.heap.size) cr0 ∧ Arr .u64 w' (w8.heap.size) cr3 ∧ Below Wc11.heap.size Wc11 w') (fun opn f _ => match opn with | 0 => f 0 = aggI .u64 cr4 | 1 => f 1 = aggI .u64 cr3 | 2 => f 2 = aggI .u64 cr5 | 3 => f 3 = aggI .u64 bu0 | 4 => f 4 = aggI .u64 cr6 | _ => True) (by kernel_rfl) (by kernel_rfl) (by kernel_rfl) (by kernel_rfl) rfl (by intro it h it' h' e; simp only [List.mem_cons, List.not_mem_nil, or_false] at h h'; rcases h with rfl <;> rcases h' with rfl <;> first | rfl | (simp at e)) (fun v v' hb h => ⟨h.1.below hb, h.2.1.below hb, h.2.2.1.below hb, h.2.2.2.1.below hb, below_then h.2.2.2.2 hb⟩) (fun v h => h.2.2.2.2.size) (fun v B cs hB h => ⟨h.1.rowOther (by omega) _, h.2.1.rowOther (by omega) _, h.2.2.1.rowOther (by omega) _, h.2.2.2.1.rowOther (by omega) _, Below.setRow h.2.2.2.2 (by omega) _⟩) (fun _ _ _ _ h => h) ⟨A1.drew, A2.drew, A5.drew, A6.drew, (Below.refl _ _).drew⟩ ?_ (by intro it h; simp only [List.mem_cons, List.not_mem_nil, or_false] at h; rcases h with rfl <;> exact ⟨by simp, by simp⟩) ?_
  ·
   refine StepN.plain rfl (fun f W hG hH => ?_) ?_
   ·
    clear hH
    generalize hA : putL _ _ _ _ = A
    clear hA
    refine Does.call rfl _ _ (by go_simp) ((H4 W).mono ?_)
    rintro e w' ⟨rfl, hb'⟩
    exact ⟨_, rfl, hb', rfl⟩
   refine StepN.plain rfl (fun f W hG hH => ?_) ?_
   ·
    clear hH
    generalize hA : putL _ _ _ _ = A
    have q6 : A.eval (.tmp 6) = .pointer (some ⟨w8.heap.size, 0, none⟩) := putLn hA 6 rfl rfl rfl
    clear hA
    exact Does.loadM rfl 36 _ rfl 4 _ und_num rfl info_num (w8.heap.size) (0) q6 .u64 (cr3) (hG.2.2.2.1) (by omega) (sl_all l_cr3) ⟨Below.refl _ _, rfl⟩
   refine StepN.plain rfl (fun f W hG hH => ?_) ?_
   ·
    obtain ⟨d0, d1, -, -⟩ := hH
    generalize hA : putL _ _ _ _ = A
    have q27 := putLl hA 27 d0 rfl rfl
    have r27 := slot_get q27
    have q28 := putLl hA 28 d1 rfl rfl
    have r28 := slot_get q28
    clear hA
    refine Does.call rfl _ _ (by go_simp) ((H5 W).mono ?_)
    rintro e w' ⟨rfl, hb'⟩
    exact ⟨_, rfl, hb', rfl⟩
   refine StepN.plain rfl (fun f W hG hH => ?_) ?_
   ·
    clear hH
    generalize hA : putL _ _ _ _ = A
    clear hA
    exact Does.buildI rfl 36 _ rfl .u64 (bu0) _ (hbu0) (rfl) ⟨Below.refl _ _, rfl⟩
   refine StepN.plain rfl (fun f W hG hH => ?_) ?_
   ·
    obtain ⟨d2, d3, -, -⟩ := hH
    generalize hA : putL _ _ _ _ = A
    have q29 := putLl hA 29 d2 rfl rfl
    have r29 := slot_get q29
    have q30 := putLl hA 30 d3 rfl rfl
    have r30 := slot_get q30
    clear hA
    refine Does.call rfl _ _ (by go_simp) ((H6 W).mono ?_)
    rintro e w' ⟨rfl, hb'⟩
    exact ⟨_, rfl, hb', rfl⟩
   refine StepN.alloc rfl (fun _ _ => trivial) (fun A W => ?_) ?_
   ·
    refine Does.allocI rfl 36 rfl .u64 4 zero_num ?_
    intro W1 D1 s1 b1'
    exact ⟨b1', rfl, D1⟩
   refine StepN.store rfl (fun _ _ => trivial) (fun f W B hG hH hB hZ => ?_) ?_
   ·
    obtain ⟨-, d4, -, d0, d1, d2, d3, -, -, -⟩ := hH
    generalize hA : putL _ _ _ _ = A
    have q7 : A.eval (.tmp 7) = f 5 := putLl hA 7 rfl rfl rfl
    have r7 := slot_get q7
    have q31 := putLl hA 31 d4 rfl rfl
    have r31 := slot_get q31
    clear hA
    have hB : f 5 = .pointer (some ⟨B, 0, none⟩) := hB
    rw [hB] at q7
    refine Does.storeI rfl 36 _ _ rfl 4 info_num B q7 .u64 _ (cr6) q31 hZ (by rfl) (l_cr6) ?_
    intro A9
    exact ⟨rfl, A9⟩
   exact trivial
  ·
   intro f V11 hG hH hN
   obtain ⟨d0, d1, d2, d3, d4, -, -, -⟩ : (f 0 = aggI .u64 cr4) ∧ (f 1 = aggI .u64 cr3) ∧ (f 2 = aggI .u64 cr5) ∧ (f 3 = aggI .u64 bu0) ∧ (f 4 = aggI .u64 cr6) ∧ (True) ∧ (True) ∧ True := hH
   rw [show List.range (List.length [[], [], [0, 1, 0], [], [2, 3, 2], [], [5, 4, 4, 0, 1, 2, 3, 4, 5]]) = [0, 1, 2, 3, 4, 5, 6] from rfl]
   obtain ⟨loc, hn1, hn2⟩ := hN
   obtain ⟨hN0, kN0, A7⟩ : f 5 = .pointer (some ⟨loc 5, 0, none⟩) ∧ Wc11.heap.size ≤ loc 5 ∧ Arr .u64 V11 (loc 5) cr6 := hn1 ⟨5, 6, .u64, 4, cr6⟩ (by simp) rfl
   clear hn1 hn2
   generalize loc 5 = N11_0 at *
   simp only [putL, List.getElem?_cons_zero, List.getElem?_cons_succ, Option.join, Option.bind_some, id_eq, Act.put, List.setIfInBounds_toArray, List.set_cons_zero, List.set_cons_succ, d0, d1, d2, d3, d4, hN0]
   clear d0 d1 d2 d3 d4 hN0
   clear A1 A2 A5 A6
   obtain ⟨A1, A2, A5, A6, BV⟩ := hG
   replace BB := below_then BB BV
   clear BV
   have zz11 := BB.size
   go_wp2
   have k12_0 := A1.lt
   have k12_1 := A2.lt
   have k12_2 := A5.lt
   have k12_3 := A6.lt
   have k12_4 := A7.lt
   refine wp_region_new [[], [], [0, 1], [], [3, 2], [2, 4, 4], [5, 5], [6], [7], [7], [], [10, 8, 6, 0, 1, 2, 3, 4, 5, 6, 7, 8, 10], [9, 11, 0, 1, 2, 3, 4, 5, 6, 7, 8, 9, 10, 11]] [some 33, some 34, some 35, some 36, some 37, some 38, some 39, some 32, some 40, some 41, some 8, none, some 9] (V11.heap.size) [⟨10, 11, .u64, 4, rx⟩] (fun w' => Arr .u8 w' (w.heap.size) xb_set31 ∧ Arr .u64 w' (w1.heap.size) (List.replicate 12 0) ∧ Arr .u64 w' (w4.heap.size) cr0 ∧ Arr .u64 w' (w8.heap.size) cr3 ∧ Arr .u64 w' (N11_0) cr6 ∧ Below V11.heap.size V11 w') (fun opn f _ => match opn with | 0 => f 0 = aggI .u64 cr3 | 1 => f 1 = aggI .u64 bu0 | 2 => f 2 = aggI .u64 cr7 | 3 => f 3 = aggI .u64 cr6 | 4 => f 4 = aggI .u64 cr8 | 5 => f 5 = aggI .u64 cr9 | 6 => f 6 = .tuple #[aggI .u64 rx, .bool false] | 7 => f 7 = .tuple #[aggI .u64 rx, .bool false] | 8 => f 8 = aggI .u64 rx | 9 => f 9 = .bool false | 12 => f 12 = .bool false | _ => True) (by kernel_rfl) (by kernel_rfl) (by kernel_rfl) (by kernel_rfl) rfl (by intro it h it' h' e; simp only [List.mem_cons, List.not_mem_nil, or_false] at h h'; rcases h with rfl <;> rcases h' with rfl <;> first | rfl | (simp at e)) (fun v v' hb h => ⟨h.1.below hb, h.2.1.below hb, h.2.2.1.below hb, h.2.2.2.1.below hb, h.2.2.2.2.1.below hb, below_then h.2.2.2.2.2 hb⟩) (fun v h => h.2.2.2.2.2.size) (fun v B cs hB h => ⟨h.1.rowOther (by omega) _, h.2.1.rowOther (by omega) _, h.2.2.1.rowOther (by omega) _, h.2.2.2.1.rowOther (by omega) _, h.2.2.2.2.1.rowOther (by omega) _, Below.setRow h.2.2.2.2.2 (by omega) _⟩) (fun _ _ _ _ h => h) ⟨A1.drew, A2.drew, A5.drew, A6.drew, A7.drew, (Below.refl _ _).drew⟩ ?_ (by intro it h; simp only [List.mem_cons, List.not_mem_nil, or_false] at h; rcases h with rfl <;> exact ⟨by simp, by simp⟩) ?_
   ·
    refine StepN.plain rfl (fun f W hG hH => ?_) ?_
    ·
     clear hH
     generalize hA : putL _ _ _ _ = A
     have q6 : A.eval (.tmp 6) = .pointer (some ⟨w8.heap.size, 0, none⟩) := putLn hA 6 rfl rfl rfl
     clear hA
     exact Does.loadM rfl 36 _ rfl 4 _ und_num rfl info_num (w8.heap.size) (0) q6 .u64 (cr3) (hG.2.2.2.1) (by omega) (sl_all l_cr3) ⟨Below.refl _ _, rfl⟩
    refine StepN.plain rfl (fun f W hG hH => ?_) ?_
    ·
     clear hH
     generalize hA : putL _ _ _ _ = A
     clear hA
     exact Does.buildI rfl 36 _ rfl .u64 (bu0) _ (hbu0) (rfl) ⟨Below.refl _ _, rfl⟩
    refine StepN.plain rfl (fun f W hG hH => ?_) ?_
    ·
     obtain ⟨d0, d1, -⟩ := hH
     generalize hA : putL _ _ _ _ = A
     have q33 := putLl hA 33 d0 rfl rfl
     have r33 := slot_get q33
     have q34 := putLl hA 34 d1 rfl rfl
     have r34 := slot_get q34
     clear hA
     refine Does.call rfl _ _ (by go_simp) ((H7 W).mono ?_)
     rintro e w' ⟨rfl, hb'⟩
     exact ⟨_, rfl, hb', rfl⟩
    refine StepN.plain rfl (fun f W hG hH => ?_) ?_
    ·
     clear hH
     generalize hA : putL _ _ _ _ = A
     have q7 : A.eval (.tmp 7) = .pointer (some ⟨N11_0, 0, none⟩) := putLn hA 7 rfl rfl rfl
     clear hA
     exact Does.loadM rfl 36 _ rfl 4 _ und_num rfl info_num (N11_0) (0) q7 .u64 (cr6) (hG.2.2.2.2.1) (by omega) (sl_all l_cr6) ⟨Below.refl _ _, rfl⟩
    refine StepN.plain rfl (fun f W hG hH => ?_) ?_
    ·
     obtain ⟨d3, d2, -⟩ := hH
     generalize hA : putL _ _ _ _ = A
     have q36 := putLl hA 36 d3 rfl rfl
     have r36 := slot_get q36
     clear hA
     refine Does.call rfl _ _ (by go_simp) ((H8 W).mono ?_)
     rintro e w' ⟨rfl, hb'⟩
     exact ⟨_, rfl, hb', rfl⟩
    refine StepN.plain rfl (fun f W hG hH => ?_) ?_
    ·
     obtain ⟨d2, d4, -, -⟩ := hH
     generalize hA : putL _ _ _ _ = A
     have q35 := putLl hA 35 d2 rfl rfl
     have r35 := slot_get q35
     have q37 := putLl hA 37 d4 rfl rfl
     have r37 := slot_get q37
     clear hA
     refine Does.call rfl _ _ (by go_simp) ((H9 W).mono ?_)
     rintro e w' ⟨rfl, hb'⟩
     exact ⟨_, rfl, hb', rfl⟩
    refine StepN.plain rfl (fun f W hG hH => ?_) ?_
    ·
     obtain ⟨d5, -, -⟩ := hH
     generalize hA : putL _ _ _ _ = A
     have q38 := putLl hA 38 d5 rfl rfl
     have r38 := slot_get q38
     clear hA
     refine Does.call rfl _ _ (by go_simp) ((H10 W).mono ?_)
     rintro e w' ⟨rfl, hb'⟩
     exact ⟨_, rfl, hb', rfl⟩
    refine StepN.plain rfl (fun f W hG hH => ?_) ?_
    ·
     obtain ⟨d6, -⟩ := hH
     generalize hA : putL _ _ _ _ = A
     have q39 := putLl hA 39 d6 rfl rfl
     have r39 := slot_get q39
     clear hA
     refine Does.pure rfl (.tuple #[aggI .u64 rx, .bool false]) ?_ ⟨Below.refl _ _, rfl⟩
     go_simp
    refine StepN.plain rfl (fun f W hG hH => ?_) ?_
    ·
     obtain ⟨d7, -⟩ := hH
     generalize hA : putL _ _ _ _ = A
     have q32 := putLl hA 32 d7 rfl rfl
     have r32 := slot_get q32
     clear hA
     refine Does.pure rfl (aggI .u64 rx) ?_ ⟨Below.refl _ _, rfl⟩
     go_simp
    refine StepN.plain rfl (fun f W hG hH => ?_) ?_
    ·
     obtain ⟨d7, -⟩ := hH
     generalize hA : putL _ _ _ _ = A
     have q32 := putLl hA 32 d7 rfl rfl
     have r32 := slot_get q32
     clear hA
     refine Does.pure rfl (.bool false) ?_ ⟨Below.refl _ _, rfl⟩
     go_simp
    refine StepN.alloc rfl (fun _ _ => trivial) (fun A W => ?_) ?_
    ·
     refine Does.allocI rfl 36 rfl .u64 4 zero_num ?_
     intro W1 D1 s1 b1'
     exact ⟨b1', rfl, D1⟩
    refine StepN.store rfl (fun _ _ => trivial) (fun f W B hG hH hB hZ => ?_) ?_
    ·
     obtain ⟨-, d8, d6, d0, d1, d2, d3, d4, d5, -, d7, -, -, -⟩ := hH
     generalize hA : putL _ _ _ _ = A
     have q8 : A.eval (.tmp 8) = f 10 := putLl hA 8 rfl rfl rfl
     have r8 := slot_get q8
     have q40 := putLl hA 40 d8 rfl rfl
     have r40 := slot_get q40
     clear hA
     have hB : f 10 = .pointer (some ⟨B, 0, none⟩) := hB
     rw [hB] at q8
     refine Does.storeI rfl 36 _ _ rfl 4 info_num B q8 .u64 _ (rx) q40 hZ (by rfl) (l_rx) ?_
     intro A9
     exact ⟨rfl, A9⟩
    refine StepN.plain rfl (fun f W hG hH => ?_) ?_
    ·
     obtain ⟨d9, -, d0, d1, d2, d3, d4, d5, d6, d7, d8, -, -, -, -⟩ := hH
     generalize hA : putL _ _ _ _ = A
     have q41 := putLl hA 41 d9 rfl rfl
     have r41 := slot_get q41
     clear hA
     refine Does.pure rfl (.bool false) ?_ ⟨Below.refl _ _, rfl⟩
     go_simp
    exact trivial
   ·
    intro f V12 hG hH hN
    obtain ⟨d0, d1, d2, d3, d4, d5, d6, d7, d8, d9, -, -, d12, -⟩ : (f 0 = aggI .u64 cr3) ∧ (f 1 = aggI .u64 bu0) ∧ (f 2 = aggI .u64 cr7) ∧ (f 3 = aggI .u64 cr6) ∧ (f 4 = aggI .u64 cr8) ∧ (f 5 = aggI .u64 cr9) ∧ (f 6 = .tuple #[aggI .u64 rx, .bool false]) ∧ (f 7 = .tuple #[aggI .u64 rx, .bool false]) ∧ (f 8 = aggI .u64 rx) ∧ (f 9 = .bool false) ∧ (True) ∧ (True) ∧ (f 12 = .bool false) ∧ True := hH
    rw [show List.range (List.length [[], [], [0, 1], [], [3, 2], [2, 4, 4], [5, 5], [6], [7], [7], [], [10, 8, 6, 0, 1, 2, 3, 4, 5, 6, 7, 8, 10], [9, 11, 0, 1, 2, 3, 4, 5, 6, 7, 8, 9, 10, 11]]) = [0, 1, 2, 3, 4, 5, 6, 7, 8, 9, 10, 11, 12] from rfl]
    obtain ⟨loc, hn1, hn2⟩ := hN
    obtain ⟨hN0, kN0, A8⟩ : f 10 = .pointer (some ⟨loc 10, 0, none⟩) ∧ V11.heap.size ≤ loc 10 ∧ Arr .u64 V12 (loc 10) rx := hn1 ⟨10, 11, .u64, 4, rx⟩ (by simp) rfl
    clear hn1 hn2
    generalize loc 10 = N12_0 at *
    simp only [putL, List.getElem?_cons_zero, List.getElem?_cons_succ, Option.join, Option.bind_some, id_eq, Act.put, List.setIfInBounds_toArray, List.set_cons_zero, List.set_cons_succ, d0, d1, d2, d3, d4, d5, d6, d7, d8, d9, d12, hN0]
    clear d0 d1 d2 d3 d4 d5 d6 d7 d8 d9 d12 hN0
    clear A1 A2 A5 A6 A7
    obtain ⟨A1, A2, A5, A6, A7, BV⟩ := hG
    replace BB := below_then BB BV
    clear BV
    have zz12 := BB.size
    go_wp2_with (first
      | (with_reducible refine at_n 52 ?_; go_loud (refine wpList_val' (fun R hR => Does.buildI rfl 50 _ rfl .u64 (bu1) _ (hbu1) rfl hR) ?_))
      | (with_reducible refine at_op (o := ⟨_, .store 50 (.tmp 2) _, _, _, _, _⟩) ?_; refine wpList_storeI rfl 50 _ _ rfl 12 info_pnt (w1.heap.size) rfl .u64 _ (bu1) rfl (A2) (rfl) (l_bu1) ?_; intro D13; replace A1 := A1.rowOther (B' := w1.heap.size) (by omega) ((bu1).map (Value.int .u64)).toArray; replace A5 := A5.rowOther (B' := w1.heap.size) (by omega) ((bu1).map (Value.int .u64)).toArray; replace A6 := A6.rowOther (B' := w1.heap.size) (by omega) ((bu1).map (Value.int .u64)).toArray; replace A7 := A7.rowOther (B' := w1.heap.size) (by omega) ((bu1).map (Value.int .u64)).toArray; replace A8 := A8.rowOther (B' := w1.heap.size) (by omega) ((bu1).map (Value.int .u64)).toArray; replace BB := Below.setRow BB (g := w1.heap.size) (by omega) ((bu1).map (Value.int .u64)).toArray; clear A2; have A2 := D13))
    refine bodyPost_ret (results_cell_tmpM rfl _ 12 _ Tryd.underlying50 rfl info_pnt (w1.heap.size) rfl .u64 _ A2 (l_bu1)) rfl ?_
    exact ⟨rfl, BB⟩
set_option maxHeartbeats 2000000 in
theorem read_nf (xb xb_set31 cr0 cr1 bu0 : List Int) (xb_at31 yb : Int) (w : World) (l_xb : xb.length = 32) (l_xb_set31 : xb_set31.length = 32) (l_cr0 : cr0.length = 4) (l_cr1 : cr1.length = 4) (l_bu0 : bu0.length = 12)
  (h_xb_at31 : at0 xb 31 = xb_at31)
  (h_xb_set31 : List.set xb 31 (yb) = xb_set31)
  (hge : ¬ 128 ≤ xb_at31)
  (hlow : Int.tmod xb_at31 128 = yb)
  (hbu0 : Tryd.prog.built 50 [] = some (bu0.map (Value.int .u64)).toArray)
  (H0 : ∀ W, Ret 54 #[aggI .u8 xb_set31] (aggI .u64 cr0) W)
  (H1 : ∀ W, Ret 56 #[] (aggI .u64 cr1) W)
  (H2 : ∀ W, Ret 55 #[aggI .u64 cr0, aggI .u64 cr1] (.bool false) W) :
  Calls Tryd.prog 29 #[aggI .u8 xb] w fun e w' => e = .returned (.tuple #[aggI .u64 bu0, .bool false]) ∧ Below w.heap.size w w' := by
 go_enter Tryd.func29, Tryd.ntmps29
 go_wp2_with (first
   | (with_reducible refine at_n 1 ?_; refine wpList_boxI rfl 22 _ rfl .u8 xb rfl ?_; intro w1 A1 s1 b1; have BB := b1; have y1 := BB.size)
   | (with_reducible refine at_n 2 ?_; refine wpList_allocI rfl 50 rfl .u64 12 zero_pnt ?_; intro w2 A2 s2 b2; have q2_1 := A1.lt; replace A1 := A1.below b2; replace BB := below_then BB b2; have y2 := BB.size)
   | (with_reducible refine at_n 11 ?_; refine wpList_val' (fun R hR => Does.loadC rfl 5 _ rfl _ Tryd.underlying5 rfl (w.heap.size) 31 rfl .u8 (xb) (A1) (by rw [l_xb]; decide) (h_xb_at31) hR) ?_)
   | (with_reducible refine at_n 14 ?_; refine wpList_val' (fun R hR => Does.loadC rfl 5 _ rfl _ Tryd.underlying5 rfl (w.heap.size) 31 rfl .u8 (xb) (A1) (by rw [l_xb]; decide) (h_xb_at31) hR) ?_)
   | (with_reducible refine at_op (o := ⟨_, .store 5 (.tmp 16) _, _, _, _, _⟩) ?_; refine wpList_storeC rfl 5 _ _ rfl (by kernel_rfl) (w.heap.size) 31 rfl .u8 _ rfl (xb) xb_set31 (A1) (by rw [l_xb]; decide) (by first | exact h_xb_set31 | (simp only [hge, hlow]; exact h_xb_set31)) ?_; intro w3 D3 O3 L3; replace A2 := O3 _ _ _ (by omega) A2; replace BB := L3 _ _ BB (by omega); have z3 := BB.size; clear O3 L3 A1; have A1 := D3)
   | (with_reducible refine at_n 17 ?_; refine wpList_val' (fun R hR => Does.loadM rfl 22 _ rfl 32 _ und_a32 rfl info_a32 (w.heap.size) 0 rfl .u8 (xb_set31) (A1) (by omega) (sl_all l_xb_set31) hR) ?_)
   | (with_reducible refine at_n 5 ?_; refine wpList_allocI rfl 36 rfl .u64 4 zero_num ?_; intro w5 A5 s5 b5; have q5_1 := A1.lt; have q5_2 := A2.lt; replace A1 := A1.below b5; replace A2 := A2.below b5; replace BB := below_then BB b5; have y5 := BB.size)
   | (with_reducible refine at_op (o := ⟨_, .store 36 (.tmp 5) _, _, _, _, _⟩) ?_; refine wpList_storeI rfl 36 _ _ rfl 4 info_num (w4.heap.size) rfl .u64 _ (cr0) rfl (A5) (rfl) (l_cr0) ?_; intro D6; replace A1 := A1.rowOther (B' := w4.heap.size) (by omega) ((cr0).map (Value.int .u64)).toArray; replace A2 := A2.rowOther (B' := w4.heap.size) (by omega) ((cr0).map (Value.int .u64)).toArray; replace BB := Below.setRow BB (g := w4.heap.size) (by omega) ((cr0).map (Value.int .u64)).toArray; clear A5; have A5 := D6)
   | (go_at_call 54; first | ((with_reducible refine (H0 _).mono ?_); rintro e w4 ⟨rfl, b4⟩; replace A1 := A1.below b4; replace A2 := A2.below b4; replace BB := below_then BB b4; have z4 := BB.size)))
 refine wp_world fun Wc7 hWc => ?_
 rw [← hWc] at BB A1 A2 A5
 clear hWc
 have k7_0 := A1.lt
 have k7_1 := A2.lt
 have k7_2 := A5.lt
 refine wp_region_ord [[], [], [0, 1, 1], [2]] [some 19, some 20, some 21, some 22] 4 (fun b w' => Arr .u8 w' (w.heap.size) xb_set31 ∧ Arr .u64 w' (w1.heap.size) (List.replicate 12 0) ∧ Arr .u64 w' (w4.heap.size) cr0 ∧ Below w.heap.size w w') (fun opn f _ => match opn with | 0 => f 0 = aggI .u64 cr0 | 1 => f 1 = aggI .u64 cr1 | 2 => f 2 = .bool false | 3 => f 3 = .bool true | _ => True) (fun _ _ _ => True) (by kernel_rfl) (by kernel_rfl) (by kernel_rfl) (by kernel_rfl) (fun b v v' hb h => ⟨h.1.below hb, h.2.1.below hb, h.2.2.1.below hb, below_then h.2.2.2 hb⟩) (fun _ _ _ _ _ h => h) (fun _ _ _ _ _ _ _ h => h) ⟨A1.drew, A2.drew, A5.drew, BB.drew⟩ ?_ ?_
 ·
  refine StepL.other (k := 0) rfl (fun b f W hb hG hH => ?_) ?_
  ·
   clear hH
   generalize hA : putL _ _ _ _ = A
   have q5 : A.eval (.tmp 5) = .pointer (some ⟨w4.heap.size, 0, none⟩) := putLn hA 5 rfl rfl rfl
   clear hA
   exact Does.loadM rfl 36 _ rfl 4 _ und_num rfl info_num (w4.heap.size) (0) q5 .u64 (cr0) (hG.2.2.1) (by omega) (sl_all l_cr0) ⟨Below.refl _ _, rfl⟩
  refine StepL.other (k := 1) rfl (fun b f W hb hG hH => ?_) ?_
  ·
   clear hH
   generalize hA : putL _ _ _ _ = A
   clear hA
   refine Does.call rfl _ _ (by go_simp) ((H1 W).mono ?_)
   rintro e w' ⟨rfl, hb'⟩
   exact ⟨_, rfl, hb', rfl⟩
  refine StepL.other (k := 2) rfl (fun b f W hb hG hH => ?_) ?_
  ·
   obtain ⟨d0, d1, -, -⟩ := hH
   generalize hA : putL _ _ _ _ = A
   have q19 := putLl hA 19 d0 rfl rfl
   have r19 := slot_get q19
   have q20 := putLl hA 20 d1 rfl rfl
   have r20 := slot_get q20
   clear hA
   refine Does.call rfl _ _ (by go_simp) ((H2 W).mono ?_)
   rintro e w' ⟨rfl, hb'⟩
   exact ⟨_, rfl, hb', rfl⟩
  refine StepL.other (k := 3) rfl (fun b f W hb hG hH => ?_) ?_
  ·
   obtain ⟨d2, -⟩ := hH
   generalize hA : putL _ _ _ _ = A
   have q21 := putLl hA 21 d2 rfl rfl
   have r21 := slot_get q21
   clear hA
   refine Does.pure rfl (.bool true) ?_ ⟨Below.refl _ _, rfl⟩
   go_simp
  exact trivial
 ·
  intro f V7 hG hH
  obtain ⟨d0, d1, d2, d3, -⟩ : (f 0 = aggI .u64 cr0) ∧ (f 1 = aggI .u64 cr1) ∧ (f 2 = .bool false) ∧ (f 3 = .bool true) ∧ True := hH
  rw [show List.range (List.length [[], [], [0, 1, 1], [2]]) = [0, 1, 2, 3] from rfl]
  simp only [putL, List.getElem?_cons_zero, List.getElem?_cons_succ, Option.join, Option.bind_some, id_eq, Act.put, List.setIfInBounds_toArray, List.set_cons_zero, List.set_cons_succ, d0, d1, d2, d3]
  clear d0 d1 d2 d3
  clear A1 A2 A5
  obtain ⟨A1, A2, A5, BV⟩ := hG
  clear BB
  have BB := BV
  clear BV
  have zz7 := BB.size
  go_wp2_with (first
    | (with_reducible refine at_n 23 ?_; go_loud (refine wpList_val' (fun R hR => Does.buildI rfl 50 _ rfl .u64 (bu0) _ (hbu0) rfl hR) ?_))
    | (with_reducible refine at_op (o := ⟨_, .store 50 (.tmp 2) _, _, _, _, _⟩) ?_; refine wpList_storeI rfl 50 _ _ rfl 12 info_pnt (w1.heap.size) rfl .u64 _ (bu0) rfl (A2) (rfl) (l_bu0) ?_; intro D8; replace A1 := A1.rowOther (B' := w1.heap.size) (by omega) ((bu0).map (Value.int .u64)).toArray; replace A5 := A5.rowOther (B' := w1.heap.size) (by omega) ((bu0).map (Value.int .u64)).toArray; replace BB := Below.setRow BB (g := w1.heap.size) (by omega) ((bu0).map (Value.int .u64)).toArray; clear A2; have A2 := D8))
  refine bodyPost_ret (results_cell_tmpM rfl _ 12 _ Tryd.underlying50 rfl info_pnt (w1.heap.size) rfl .u64 _ A2 (l_bu0)) rfl ?_
  exact ⟨rfl, BB⟩
set_option maxHeartbeats 2000000 in
theorem read_zf (xb xb_set31 cr0 cr1 cr3 cr4 cr5 bu0 cr6 cr7 cr8 cr9 rx bu1 : List Int) (xb_at31 yb : Int) (w : World) (l_xb : xb.length = 32) (l_xb_set31 : xb_set31.length = 32) (l_cr0 : cr0.length = 4) (l_cr1 : cr1.length = 4) (l_cr3 : cr3.length = 4) (l_cr4 : cr4.length = 4) (l_cr5 : cr5.length = 4) (l_bu0 : bu0.length = 4) (l_cr6 : cr6.length = 4) (l_cr7 : cr7.length = 4) (l_cr8 : cr8.length = 4) (l_cr9 : cr9.length = 4) (l_rx : rx.length = 4) (l_bu1 : bu1.length = 12)
  (h_xb_at31 : at0 xb 31 = xb_at31)
  (h_xb_set31 : List.set xb 31 (yb) = xb_set31)
  (hge : ¬ 128 ≤ xb_at31)
  (hlow : Int.tmod xb_at31 128 = yb)
  (hbu0 : Tryd.prog.built 36 [(0, .int .u64 1)] = some (bu0.map (Value.int .u64)).toArray)
  (hbu1 : Tryd.prog.built 50 [] = some (bu1.map (Value.int .u64)).toArray)
  (he_rx_bu1 : decide (rx = bu1) = false)
  (H0 : ∀ W, Ret 54 #[aggI .u8 xb_set31] (aggI .u64 cr0) W)
  (H1 : ∀ W, Ret 56 #[] (aggI .u64 cr1) W)
  (H2 : ∀ W, Ret 55 #[aggI .u64 cr0, aggI .u64 cr1] (.bool true) W)
  (H3 : ∀ W, Ret 57 #[aggI .u64 cr0, aggI .u64 cr0] (aggI .u64 cr3) W)
  (H4 : ∀ W, Ret 59 #[] (aggI .u64 cr4) W)
  (H5 : ∀ W, Ret 57 #[aggI .u64 cr4, aggI .u64 cr3] (aggI .u64 cr5) W)
  (H6 : ∀ W, Ret 58 #[aggI .u64 cr5, aggI .u64 bu0] (aggI .u64 cr6) W)
  (H7 : ∀ W, Ret 35 #[aggI .u64 cr3, aggI .u64 bu0] (aggI .u64 cr7) W)
  (H8 : ∀ W, Ret 61 #[aggI .u64 cr6] (aggI .u64 cr8) W)
  (H9 : ∀ W, Ret 57 #[aggI .u64 cr7, aggI .u64 cr8] (aggI .u64 cr9) W)
  (H10 : ∀ W, Ret 60 #[aggI .u64 cr9] (.tuple #[aggI .u64 rx, .bool false]) W) :
  Calls Tryd.prog 29 #[aggI .u8 xb] w fun e w' => e = .returned (.tuple #[aggI .u64 bu1, .bool false]) ∧ Below w.heap.size w w' := by
 go_enter Tryd.func29, Tryd.ntmps29
 go_wp2_with (first
   | (with_reducible refine at_n 1 ?_; refine wpList_boxI rfl 22 _ rfl .u8 xb rfl ?_; intro w1 A1 s1 b1; have BB := b1; have y1 := BB.size)
   | (with_reducible refine at_n 2 ?_; refine wpList_allocI rfl 50 rfl .u64 12 zero_pnt ?_; intro w2 A2 s2 b2; have q2_1 := A1.lt; replace A1 := A1.below b2; replace BB := below_then BB b2; have y2 := BB.size)
   | (with_reducible refine at_n 11 ?_; refine wpList_val' (fun R hR => Does.loadC rfl 5 _ rfl _ Tryd.underlying5 rfl (w.heap.size) 31 rfl .u8 (xb) (A1) (by rw [l_xb]; decide) (h_xb_at31) hR) ?_)
   | (with_reducible refine at_n 14 ?_; refine wpList_val' (fun R hR => Does.loadC rfl 5 _ rfl _ Tryd.underlying5 rfl (w.heap.size) 31 rfl .u8 (xb) (A1) (by rw [l_xb]; decide) (h_xb_at31) hR) ?_)
   | (with_reducible refine at_op (o := ⟨_, .store 5 (.tmp 16) _, _, _, _, _⟩) ?_; refine wpList_storeC rfl 5 _ _ rfl (by kernel_rfl) (w.heap.size) 31 rfl .u8 _ rfl (xb) xb_set31 (A1) (by rw [l_xb]; decide) (by first | exact h_xb_set31 | (simp only [hge, hlow]; exact h_xb_set31)) ?_; intro w3 D3 O3 L3; replace A2 := O3 _ _ _ (by omega) A2; replace BB := L3 _ _ BB (by omega); have z3 := BB.size; clear O3 L3 A1; have A1 := D3)
   | (with_reducible refine at_n 17 ?_; refine wpList_val' (fun R hR => Does.loadM rfl 22 _ rfl 32 _ und_a32 rfl info_a32 (w.heap.size) 0 rfl .u8 (xb_set31) (A1) (by omega) (sl_all l_xb_set31) hR) ?_)
   | (with_reducible refine at_n 5 ?_; refine wpList_allocI rfl 36 rfl .u64 4 zero_num ?_; intro w5 A5 s5 b5; have q5_1 := A1.lt; have q5_2 := A2.lt; replace A1 := A1.below b5; replace A2 := A2.below b5; replace BB := below_then BB b5; have y5 := BB.size)
   | (with_reducible refine at_op (o := ⟨_, .store 36 (.tmp 5) _, _, _, _, _⟩) ?_; refine wpList_storeI rfl 36 _ _ rfl 4 info_num (w4.heap.size) rfl .u64 _ (cr0) rfl (A5) (rfl) (l_cr0) ?_; intro D6; replace A1 := A1.rowOther (B' := w4.heap.size) (by omega) ((cr0).map (Value.int .u64)).toArray; replace A2 := A2.rowOther (B' := w4.heap.size) (by omega) ((cr0).map (Value.int .u64)).toArray; replace BB := Below.setRow BB (g := w4.heap.size) (by omega) ((cr0).map (Value.int .u64)).toArray; clear A5; have A5 := D6)
   | (go_at_call 54; first | ((with_reducible refine (H0 _).mono ?_); rintro e w4 ⟨rfl, b4⟩; replace A1 := A1.below b4; replace A2 := A2.below b4; replace BB := below_then BB b4; have z4 := BB.size)))
 refine wp_world fun Wc7 hWc => ?_
 rw [← hWc] at BB A1 A2 A5
 clear hWc
 have k7_0 := A1.lt
 have k7_1 := A2.lt
 have k7_2 := A5.lt
 refine wp_region_ord [[], [], [0, 1, 1], [2]] [some 19, some 20, some 21, some 22] 4 (fun b w' => Arr .u8 w' (w.heap.size) xb_set31 ∧ Arr .u64 w' (w1.heap.size) (List.replicate 12 0) ∧ Arr .u64 w' (w4.heap.size) cr0 ∧ Below w.heap.size w w') (fun opn f _ => match opn with | 0 => f 0 = aggI .u64 cr0 | 1 => f 1 = aggI .u64 cr1 | 2 => f 2 = .bool true | 3 => f 3 = .bool false | _ => True) (fun _ _ _ => True) (by kernel_rfl) (by kernel_rfl) (by kernel_rfl) (by kernel_rfl) (fun b v v' hb h => ⟨h.1.below hb, h.2.1.below hb, h.2.2.1.below hb, below_then h.2.2.2 hb⟩) (fun _ _ _ _ _ h => h) (fun _ _ _ _ _ _ _ h => h) ⟨A1.drew, A2.drew, A5.drew, BB.drew⟩ ?_ ?_
 ·
  refine StepL.other (k := 0) rfl (fun b f W hb hG hH => ?_) ?_
  ·
   clear hH
   generalize hA : putL _ _ _ _ = A
   have q5 : A.eval (.tmp 5) = .pointer (some ⟨w4.heap.size, 0, none⟩) := putLn hA 5 rfl rfl rfl
   clear hA
   exact Does.loadM rfl 36 _ rfl 4 _ und_num rfl info_num (w4.heap.size) (0) q5 .u64 (cr0) (hG.2.2.1) (by omega) (sl_all l_cr0) ⟨Below.refl _ _, rfl⟩
  refine StepL.other (k := 1) rfl (fun b f W hb hG hH => ?_) ?_
  ·
   clear hH
   generalize hA : putL _ _ _ _ = A
   clear hA
   refine Does.call rfl _ _ (by go_simp) ((H1 W).mono ?_)
   rintro e w' ⟨rfl, hb'⟩
   exact ⟨_, rfl, hb', rfl⟩
  refine StepL.other (k := 2) rfl (fun b f W hb hG hH => ?_) ?_
  ·
   obtain ⟨d0, d1, -, -⟩ := hH
   generalize hA : putL _ _ _ _ = A
   have q19 := putLl hA 19 d0 rfl rfl
   have r19 := slot_get q19
   have q20 := putLl hA 20 d1 rfl rfl
   have r20 := slot_get q20
   clear hA
   refine Does.call rfl _ _ (by go_simp) ((H2 W).mono ?_)
   rintro e w' ⟨rfl, hb'⟩
   exact ⟨_, rfl, hb', rfl⟩
  refine StepL.other (k := 3) rfl (fun b f W hb hG hH => ?_) ?_
  ·
   obtain ⟨d2, -⟩ := hH
   generalize hA : putL _ _ _ _ = A
   have q21 := putLl hA 21 d2 rfl rfl
   have r21 := slot_get q21
   clear hA
   refine Does.pure rfl (.bool false) ?_ ⟨Below.refl _ _, rfl⟩
   go_simp
  exact trivial
 ·
  intro f V7 hG hH
  obtain ⟨d0, d1, d2, d3, -⟩ : (f 0 = aggI .u64 cr0) ∧ (f 1 = aggI .u64 cr1) ∧ (f 2 = .bool true) ∧ (f 3 = .bool false) ∧ True := hH
  rw [show List.range (List.length [[], [], [0, 1, 1], [2]]) = [0, 1, 2, 3] from rfl]
  simp only [putL, List.getElem?_cons_zero, List.getElem?_cons_succ, Option.join, Option.bind_some, id_eq, Act.put, List.setIfInBounds_toArray, List.set_cons_zero, List.set_cons_succ, d0, d1, d2, d3]
  clear d0 d1 d2 d3
  clear A1 A2 A5
  obtain ⟨A1, A2, A5, BV⟩ := hG
  clear BB
  have BB := BV
  clear BV
  have zz7 := BB.size
  go_wp2_with (first
    | (with_reducible refine at_n 24 ?_; refine wpList_val' (fun R hR => Does.loadM rfl 36 _ rfl 4 _ und_num rfl info_num (w4.heap.size) 0 rfl .u64 (cr0) (A5) (by omega) (sl_all l_cr0) hR) ?_)
    | (with_reducible refine at_n 25 ?_; refine wpList_val' (fun R hR => Does.loadM rfl 36 _ rfl 4 _ und_num rfl info_num (w4.heap.size) 0 rfl .u64 (cr0) (A5) (by omega) (sl_all l_cr0) hR) ?_)
    | (with_reducible refine at_n 6 ?_; refine wpList_allocI rfl 36 rfl .u64 4 zero_num ?_; intro w9 A6 s9 b9; have q9_1 := A1.lt; have q9_2 := A2.lt; have q9_5 := A5.lt; replace A1 := A1.below b9; replace A2 := A2.below b9; replace A5 := A5.below b9; replace BB := below_then BB b9; have y9 := BB.size)
    | (with_reducible refine at_op (o := ⟨_, .store 36 (.tmp 6) _, _, _, _, _⟩) ?_; refine wpList_storeI rfl 36 _ _ rfl 4 info_num (w8.heap.size) rfl .u64 _ (cr3) rfl (A6) (rfl) (l_cr3) ?_; intro D10; replace A1 := A1.rowOther (B' := w8.heap.size) (by omega) ((cr3).map (Value.int .u64)).toArray; replace A2 := A2.rowOther (B' := w8.heap.size) (by omega) ((cr3).map (Value.int .u64)).toArray; replace A5 := A5.rowOther (B' := w8.heap.size) (by omega) ((cr3).map (Value.int .u64)).toArray; replace BB := Below.setRow BB (g := w8.heap.size) (by omega) ((cr3).map (Value.int .u64)).toArray; clear A6; have A6 := D10)
    | (go_at_call 57; first | ((with_reducible refine (H3 _).mono ?_); rintro e w8 ⟨rfl, b8⟩; replace A1 := A1.below b8; replace A2 := A2.below b8; replace A5 := A5.below b8; replace BB := below_then BB b8; have z8 := BB.size)))
  refine wp_world fun Wc11 hWc => ?_
  rw [← hWc] at BB A1 A2 A5 A6
  clear hWc
  have k11_0 := A1.lt
  have k11_1 := A2.lt
  have k11_2 := A5.lt
  have k11_3 := A6.lt
  refine wp_region_new [[], [], [0, 1, 0], [], [2, 3, 2], [], [5, 4, 4, 0, 1, 2, 3, 4, 5]] [some 27, some 28, some 29, some 30, some 31, some 7, none] (Wc11.heap.size) [⟨5, 6, .u64, 4, cr6⟩] (fun w' => Arr .u8 w' (w.heap.size) xb_set31 ∧ Arr .u64 w' (w1.heap.size) (List.replicate 12 0) ∧ Arr .u64 w' (w4.heap.size) cr0 ∧ Arr .u64 w' (w8.heap.size) cr3 ∧ Below Wc11.heap.size Wc11 w') (fun opn f _ => match opn with | 0 => f 0 = aggI .u64 cr4 | 1 => f 1 = aggI .u64 cr3 | 2 => f 2 = aggI .u64 cr5 | 3 => f 3 = aggI .u64 bu0 | 4 => f 4 = aggI .u64 cr6 | _ => True) (by kernel_rfl) (by kernel_rfl) (by kernel_rfl) (by kernel_rfl) rfl (by intro it h it' h' e; simp only [List.mem_cons, List.not_mem_nil, or_false] at h h'; rcases h with rfl <;> rcases h' with rfl <;> first | rfl | (simp at e)) (fun v v' hb h => ⟨h.1.below hb, h.2.1.below hb, h.2.2.1.below hb, h.2.2.2.1.below hb, below_then h.2.2.2.2 hb⟩) (fun v h => h.2.2.2.2.size) (fun v B cs hB h => ⟨h.1.rowOther (by omega) _, h.2.1.rowOther (by omega) _, h.2.2.1.rowOther (by omega) _, h.2.2.2.1.rowOther (by omega) _, Below.setRow h.2.2.2.2 (by omega) _⟩) (fun _ _ _ _ h => h) ⟨A1.drew, A2.drew, A5.drew, A6.drew, (Below.refl _ _).drew⟩ ?_ (by intro it h; simp only [List.mem_cons, List.not_mem_nil, or_false] at h; rcases h with rfl <;> exact ⟨by simp, by simp⟩) ?_
  ·
   refine StepN.plain rfl (fun f W hG hH => ?_) ?_
   ·
    clear hH
    generalize hA : putL _ _ _ _ = A
    clear hA
    refine Does.call rfl _ _ (by go_simp) ((H4 W).mono ?_)
    rintro e w' ⟨rfl, hb'⟩
    exact ⟨_, rfl, hb', rfl⟩
   refine StepN.plain rfl (fun f W hG hH => ?_) ?_
   ·
    clear hH
    generalize hA : putL _ _ _ _ = A
    have q6 : A.eval (.tmp 6) = .pointer (some ⟨w8.heap.size, 0, none⟩) := putLn hA 6 rfl rfl rfl
    clear hA
    exact Does.loadM rfl 36 _ rfl 4 _ und_num rfl info_num (w8.heap.size) (0) q6 .u64 (cr3) (hG.2.2.2.1) (by omega) (sl_all l_cr3) ⟨Below.refl _ _, rfl⟩
   refine StepN.plain rfl (fun f W hG hH => ?_) ?_
   ·
    obtain ⟨d0, d1, -, -⟩ := hH
    generalize hA : putL _ _ _ _ = A
    have q27 := putLl hA 27 d0 rfl rfl
    have r27 := slot_get q27
    have q28 := putLl hA 28 d1 rfl rfl
    have r28 := slot_get q28
    clear hA
    refine Does.call rfl _ _ (by go_simp) ((H5 W).mono ?_)
    rintro e w' ⟨rfl, hb'⟩
    exact ⟨_, rfl, hb', rfl⟩
   refine StepN.plain rfl (fun f W hG hH => ?_) ?_
   ·
    clear hH
    generalize hA : putL _ _ _ _ = A
    clear hA
    exact Does.buildI rfl 36 _ rfl .u64 (bu0) _ (hbu0) (rfl) ⟨Below.refl _ _, rfl⟩
   refine StepN.plain rfl (fun f W hG hH => ?_) ?_
   ·
    obtain ⟨d2, d3, -, -⟩ := hH
    generalize hA : putL _ _ _ _ = A
    have q29 := putLl hA 29 d2 rfl rfl
    have r29 := slot_get q29
    have q30 := putLl hA 30 d3 rfl rfl
    have r30 := slot_get q30
    clear hA
    refine Does.call rfl _ _ (by go_simp) ((H6 W).mono ?_)
    rintro e w' ⟨rfl, hb'⟩
    exact ⟨_, rfl, hb', rfl⟩
   refine StepN.alloc rfl (fun _ _ => trivial) (fun A W => ?_) ?_
   ·
    refine Does.allocI rfl 36 rfl .u64 4 zero_num ?_
    intro W1 D1 s1 b1'
    exact ⟨b1', rfl, D1⟩
   refine StepN.store rfl (fun _ _ => trivial) (fun f W B hG hH hB hZ => ?_) ?_
   ·
    obtain ⟨-, d4, -, d0, d1, d2, d3, -, -, -⟩ := hH
    generalize hA : putL _ _ _ _ = A
    have q7 : A.eval (.tmp 7) = f 5 := putLl hA 7 rfl rfl rfl
    have r7 := slot_get q7
    have q31 := putLl hA 31 d4 rfl rfl
    have r31 := slot_get q31
    clear hA
    have hB : f 5 = .pointer (some ⟨B, 0, none⟩) := hB
    rw [hB] at q7
    refine Does.storeI rfl 36 _ _ rfl 4 info_num B q7 .u64 _ (cr6) q31 hZ (by rfl) (l_cr6) ?_
    intro A9
    exact ⟨rfl, A9⟩
   exact trivial
  ·
   intro f V11 hG hH hN
   obtain ⟨d0, d1, d2, d3, d4, -, -, -⟩ : (f 0 = aggI .u64 cr4) ∧ (f 1 = aggI .u64 cr3) ∧ (f 2 = aggI .u64 cr5) ∧ (f 3 = aggI .u64 bu0) ∧ (f 4 = aggI .u64 cr6) ∧ (True) ∧ (True) ∧ True := hH
   rw [show List.range (List.length [[], [], [0, 1, 0], [], [2, 3, 2], [], [5, 4, 4, 0, 1, 2, 3, 4, 5]]) = [0, 1, 2, 3, 4, 5, 6] from rfl]
   obtain ⟨loc, hn1, hn2⟩ := hN
   obtain ⟨hN0, kN0, A7⟩ : f 5 = .pointer (some ⟨loc 5, 0, none⟩) ∧ Wc11.heap.size ≤ loc 5 ∧ Arr .u64 V11 (loc 5) cr6 := hn1 ⟨5, 6, .u64, 4, cr6⟩ (by simp) rfl
   clear hn1 hn2
   generalize loc 5 = N11_0 at *
   simp only [putL, List.getElem?_cons_zero, List.getElem?_cons_succ, Option.join, Option.bind_some, id_eq, Act.put, List.setIfInBounds_toArray, List.set_cons_zero, List.set_cons_succ, d0, d1, d2, d3, d4, hN0]
   clear d0 d1 d2 d3 d4 hN0
   clear A1 A2 A5 A6
   obtain ⟨A1, A2, A5, A6, BV⟩ := hG
   replace BB := below_then BB BV
   clear BV
   have zz11 := BB.size
   go_wp2
   have k12_0 := A1.lt
   have k12_1 := A2.lt
   have k12_2 := A5.lt
   have k12_3 := A6.lt
   have k12_4 := A7.lt
   refine wp_region_new [[], [], [0, 1], [], [3, 2], [2, 4, 4], [5, 5], [6], [7], [7], [], [10, 8, 6, 0, 1, 2, 3, 4, 5, 6, 7, 8, 10], [9, 11, 0, 1, 2, 3, 4, 5, 6, 7, 8, 9, 10, 11]] [some 33, some 34, some 35, some 36, some 37, some 38, some 39, some 32, some 40, some 41, some 8, none, some 9] (V11.heap.size) [⟨10, 11, .u64, 4, rx⟩] (fun w' => Arr .u8 w' (w.heap.size) xb_set31 ∧ Arr .u64 w' (w1.heap.size) (List.replicate 12 0) ∧ Arr .u64 w' (w4.heap.size) cr0 ∧ Arr .u64 w' (w8.heap.size) cr3 ∧ Arr .u64 w' (N11_0) cr6 ∧ Below V11.heap.size V11 w') (fun opn f _ => match opn with | 0 => f 0 = aggI .u64 cr3 | 1 => f 1 = aggI .u64 bu0 | 2 => f 2 = aggI .u64 cr7 | 3 => f 3 = aggI .u64 cr6 | 4 => f 4 = aggI .u64 cr8 | 5 => f 5 = aggI .u64 cr9 | 6 => f 6 = .tuple #[aggI .u64 rx, .bool false] | 7 => f 7 = .tuple #[aggI .u64 rx, .bool false] | 8 => f 8 = aggI .u64 rx | 9 => f 9 = .bool false | 12 => f 12 = .bool false | _ => True) (by kernel_rfl) (by kernel_rfl) (by kernel_rfl) (by kernel_rfl) rfl (by intro it h it' h' e; simp only [List.mem_cons, List.not_mem_nil, or_false] at h h'; rcases h with rfl <;> rcases h' with rfl <;> first | rfl | (simp at e)) (fun v v' hb h => ⟨h.1.below hb, h.2.1.below hb, h.2.2.1.below hb, h.2.2.2.1.below hb, h.2.2.2.2.1.below hb, below_then h.2.2.2.2.2 hb⟩) (fun v h => h.2.2.2.2.2.size) (fun v B cs hB h => ⟨h.1.rowOther (by omega) _, h.2.1.rowOther (by omega) _, h.2.2.1.rowOther (by omega) _, h.2.2.2.1.rowOther (by omega) _, h.2.2.2.2.1.rowOther (by omega) _, Below.setRow h.2.2.2.2.2 (by omega) _⟩) (fun _ _ _ _ h => h) ⟨A1.drew, A2.drew, A5.drew, A6.drew, A7.drew, (Below.refl _ _).drew⟩ ?_ (by intro it h; simp only [List.mem_cons, List.not_mem_nil, or_false] at h; rcases h with rfl <;> exact ⟨by simp, by simp⟩) ?_
   ·
    refine StepN.plain rfl (fun f W hG hH => ?_) ?_
    ·
     clear hH
     generalize hA : putL _ _ _ _ = A
     have q6 : A.eval (.tmp 6) = .pointer (some ⟨w8.heap.size, 0, none⟩) := putLn hA 6 rfl rfl rfl
     clear hA
     exact Does.loadM rfl 36 _ rfl 4 _ und_num rfl info_num (w8.heap.size) (0) q6 .u64 (cr3) (hG.2.2.2.1) (by omega) (sl_all l_cr3) ⟨Below.refl _ _, rfl⟩
    refine StepN.plain rfl (fun f W hG hH => ?_) ?_
    ·
     clear hH
     generalize hA : putL _ _ _ _ = A
     clear hA
     exact Does.buildI rfl 36 _ rfl .u64 (bu0) _ (hbu0) (rfl) ⟨Below.refl _ _, rfl⟩
    refine StepN.plain rfl (fun f W hG hH => ?_) ?_
    ·
     obtain ⟨d0, d1, -⟩ := hH
     generalize hA : putL _ _ _ _ = A
     have q33 := putLl hA 33 d0 rfl rfl
     have r33 := slot_get q33
     have q34 := putLl hA 34 d1 rfl rfl
     have r34 := slot_get q34
     clear hA
     refine Does.call rfl _ _ (by go_simp) ((H7 W).mono ?_)
     rintro e w' ⟨rfl, hb'⟩
     exact ⟨_, rfl, hb', rfl⟩
    refine StepN.plain rfl (fun f W hG hH => ?_) ?_
    ·
     clear hH
     generalize hA : putL _ _ _ _ = A
     have q7 : A.eval (.tmp 7) = .pointer (some ⟨N11_0, 0, none⟩) := putLn hA 7 rfl rfl rfl
     clear hA
     exact Does.loadM rfl 36 _ rfl 4 _ und_num rfl info_num (N11_0) (0) q7 .u64 (cr6) (hG.2.2.2.2.1) (by omega) (sl_all l_cr6) ⟨Below.refl _ _, rfl⟩
    refine StepN.plain rfl (fun f W hG hH => ?_) ?_
    ·
     obtain ⟨d3, d2, -⟩ := hH
     generalize hA : putL _ _ _ _ = A
     have q36 := putLl hA 36 d3 rfl rfl
     have r36 := slot_get q36
     clear hA
     refine Does.call rfl _ _ (by go_simp) ((H8 W).mono ?_)
     rintro e w' ⟨rfl, hb'⟩
     exact ⟨_, rfl, hb', rfl⟩
    refine StepN.plain rfl (fun f W hG hH => ?_) ?_
    ·
     obtain ⟨d2, d4, -, -⟩ := hH
     generalize hA : putL _ _ _ _ = A
     have q35 := putLl hA 35 d2 rfl rfl
     have r35 := slot_get q35
     have q37 := putLl hA 37 d4 rfl rfl
     have r37 := slot_get q37
     clear hA
     refine Does.call rfl _ _ (by go_simp) ((H9 W).mono ?_)
     rintro e w' ⟨rfl, hb'⟩
     exact ⟨_, rfl, hb', rfl⟩
    refine StepN.plain rfl (fun f W hG hH => ?_) ?_
    ·
     obtain ⟨d5, -, -⟩ := hH
     generalize hA : putL _ _ _ _ = A
     have q38 := putLl hA 38 d5 rfl rfl
     have r38 := slot_get q38
     clear hA
     refine Does.call rfl _ _ (by go_simp) ((H10 W).mono ?_)
     rintro e w' ⟨rfl, hb'⟩
     exact ⟨_, rfl, hb', rfl⟩
    refine StepN.plain rfl (fun f W hG hH => ?_) ?_
    ·
     obtain ⟨d6, -⟩ := hH
     generalize hA : putL _ _ _ _ = A
     have q39 := putLl hA 39 d6 rfl rfl
     have r39 := slot_get q39
     clear hA
     refine Does.pure rfl (.tuple #[aggI .u64 rx, .bool false]) ?_ ⟨Below.refl _ _, rfl⟩
     go_simp
    refine StepN.plain rfl (fun f W hG hH => ?_) ?_
    ·
     obtain ⟨d7, -⟩ := hH
     generalize hA : putL _ _ _ _ = A
     have q32 := putLl hA 32 d7 rfl rfl
     have r32 := slot_get q32
     clear hA
     refine Does.pure rfl (aggI .u64 rx) ?_ ⟨Below.refl _ _, rfl⟩
     go_simp
    refine StepN.plain rfl (fun f W hG hH => ?_) ?_
    ·
     obtain ⟨d7, -⟩ := hH
     generalize hA : putL _ _ _ _ = A
     have q32 := putLl hA 32 d7 rfl rfl
     have r32 := slot_get q32
     clear hA
     refine Does.pure rfl (.bool false) ?_ ⟨Below.refl _ _, rfl⟩
     go_simp
    refine StepN.alloc rfl (fun _ _ => trivial) (fun A W => ?_) ?_
    ·
     refine Does.allocI rfl 36 rfl .u64 4 zero_num ?_
     intro W1 D1 s1 b1'
     exact ⟨b1', rfl, D1⟩
    refine StepN.store rfl (fun _ _ => trivial) (fun f W B hG hH hB hZ => ?_) ?_
    ·
     obtain ⟨-, d8, d6, d0, d1, d2, d3, d4, d5, -, d7, -, -, -⟩ := hH
     generalize hA : putL _ _ _ _ = A
     have q8 : A.eval (.tmp 8) = f 10 := putLl hA 8 rfl rfl rfl
     have r8 := slot_get q8
     have q40 := putLl hA 40 d8 rfl rfl
     have r40 := slot_get q40
     clear hA
     have hB : f 10 = .pointer (some ⟨B, 0, none⟩) := hB
     rw [hB] at q8
     refine Does.storeI rfl 36 _ _ rfl 4 info_num B q8 .u64 _ (rx) q40 hZ (by rfl) (l_rx) ?_
     intro A9
     exact ⟨rfl, A9⟩
    refine StepN.plain rfl (fun f W hG hH => ?_) ?_
    ·
     obtain ⟨d9, -, d0, d1, d2, d3, d4, d5, d6, d7, d8, -, -, -, -⟩ := hH
     generalize hA : putL _ _ _ _ = A
     have q41 := putLl hA 41 d9 rfl rfl
     have r41 := slot_get q41
     clear hA
     refine Does.pure rfl (.bool false) ?_ ⟨Below.refl _ _, rfl⟩
     go_simp
    exact trivial
   ·
    intro f V12 hG hH hN
    obtain ⟨d0, d1, d2, d3, d4, d5, d6, d7, d8, d9, -, -, d12, -⟩ : (f 0 = aggI .u64 cr3) ∧ (f 1 = aggI .u64 bu0) ∧ (f 2 = aggI .u64 cr7) ∧ (f 3 = aggI .u64 cr6) ∧ (f 4 = aggI .u64 cr8) ∧ (f 5 = aggI .u64 cr9) ∧ (f 6 = .tuple #[aggI .u64 rx, .bool false]) ∧ (f 7 = .tuple #[aggI .u64 rx, .bool false]) ∧ (f 8 = aggI .u64 rx) ∧ (f 9 = .bool false) ∧ (True) ∧ (True) ∧ (f 12 = .bool false) ∧ True := hH
    rw [show List.range (List.length [[], [], [0, 1], [], [3, 2], [2, 4, 4], [5, 5], [6], [7], [7], [], [10, 8, 6, 0, 1, 2, 3, 4, 5, 6, 7, 8, 10], [9, 11, 0, 1, 2, 3, 4, 5, 6, 7, 8, 9, 10, 11]]) = [0, 1, 2, 3, 4, 5, 6, 7, 8, 9, 10, 11, 12] from rfl]
    obtain ⟨loc, hn1, hn2⟩ := hN
    obtain ⟨hN0, kN0, A8⟩ : f 10 = .pointer (some ⟨loc 10, 0, none⟩) ∧ V11.heap.size ≤ loc 10 ∧ Arr .u64 V12 (loc 10) rx := hn1 ⟨10, 11, .u64, 4, rx⟩ (by simp) rfl
    clear hn1 hn2
    generalize loc 10 = N12_0 at *
    simp only [putL, List.getElem?_cons_zero, List.getElem?_cons_succ, Option.join, Option.bind_some, id_eq, Act.put, List.setIfInBounds_toArray, List.set_cons_zero, List.set_cons_succ, d0, d1, d2, d3, d4, d5, d6, d7, d8, d9, d12, hN0]
    clear d0 d1 d2 d3 d4 d5 d6 d7 d8 d9 d12 hN0
    clear A1 A2 A5 A6 A7
    obtain ⟨A1, A2, A5, A6, A7, BV⟩ := hG
    replace BB := below_then BB BV
    clear BV
    have zz12 := BB.size
    go_wp2_with (first
      | (with_reducible refine at_n 52 ?_; go_loud (refine wpList_val' (fun R hR => Does.buildI rfl 50 _ rfl .u64 (bu1) _ (hbu1) rfl hR) ?_))
      | (with_reducible refine at_op (o := ⟨_, .store 50 (.tmp 2) _, _, _, _, _⟩) ?_; refine wpList_storeI rfl 50 _ _ rfl 12 info_pnt (w1.heap.size) rfl .u64 _ (bu1) rfl (A2) (rfl) (l_bu1) ?_; intro D13; replace A1 := A1.rowOther (B' := w1.heap.size) (by omega) ((bu1).map (Value.int .u64)).toArray; replace A5 := A5.rowOther (B' := w1.heap.size) (by omega) ((bu1).map (Value.int .u64)).toArray; replace A6 := A6.rowOther (B' := w1.heap.size) (by omega) ((bu1).map (Value.int .u64)).toArray; replace A7 := A7.rowOther (B' := w1.heap.size) (by omega) ((bu1).map (Value.int .u64)).toArray; replace A8 := A8.rowOther (B' := w1.heap.size) (by omega) ((bu1).map (Value.int .u64)).toArray; replace BB := Below.setRow BB (g := w1.heap.size) (by omega) ((bu1).map (Value.int .u64)).toArray; clear A2; have A2 := D13))
    refine bodyPost_ret (results_cell_tmpM rfl _ 12 _ Tryd.underlying50 rfl info_pnt (w1.heap.size) rfl .u64 _ A2 (l_bu1)) rfl ?_
    exact ⟨rfl, BB⟩
set_option maxHeartbeats 2000000 in
theorem read_0 (xb xb_set31 cr0 cr1 cr3 cr4 cr5 bu0 cr6 cr7 cr8 cr9 rx bu1 bu2 : List Int) (xb_at31 yb : Int) (w : World) (l_xb : xb.length = 32) (l_xb_set31 : xb_set31.length = 32) (l_cr0 : cr0.length = 4) (l_cr1 : cr1.length = 4) (l_cr3 : cr3.length = 4) (l_cr4 : cr4.length = 4) (l_cr5 : cr5.length = 4) (l_bu0 : bu0.length = 4) (l_cr6 : cr6.length = 4) (l_cr7 : cr7.length = 4) (l_cr8 : cr8.length = 4) (l_cr9 : cr9.length = 4) (l_rx : rx.length = 4) (l_bu1 : bu1.length = 4) (l_bu2 : bu2.length = 12)
  (h_xb_at31 : at0 xb 31 = xb_at31)
  (h_xb_set31 : List.set xb 31 (yb) = xb_set31)
  (hge : 128 ≤ xb_at31)
  (hlow : Int.tmod xb_at31 128 = yb)
  (hbu0 : Tryd.prog.built 36 [(0, .int .u64 1)] = some (bu0.map (Value.int .u64)).toArray)
  (hbu1 : Tryd.prog.built 36 [] = some (bu1.map (Value.int .u64)).toArray)
  (hbu2 : Tryd.prog.built 50 [] = some (bu2.map (Value.int .u64)).toArray)
  (he_rx_bu1 : decide (rx = bu1) = true)
  (H0 : ∀ W, Ret 54 #[aggI .u8 xb_set31] (aggI .u64 cr0) W)
  (H1 : ∀ W, Ret 56 #[] (aggI .u64 cr1) W)
  (H2 : ∀ W, Ret 55 #[aggI .u64 cr0, aggI .u64 cr1] (.bool true) W)
  (H3 : ∀ W, Ret 57 #[aggI .u64 cr0, aggI .u64 cr0] (aggI .u64 cr3) W)
  (H4 : ∀ W, Ret 59 #[] (aggI .u64 cr4) W)
  (H5 : ∀ W, Ret 57 #[aggI .u64 cr4, aggI .u64 cr3] (aggI .u64 cr5) W)
  (H6 : ∀ W, Ret 58 #[aggI .u64 cr5, aggI .u64 bu0] (aggI .u64 cr6) W)
  (H7 : ∀ W, Ret 35 #[aggI .u64 cr3, aggI .u64 bu0] (aggI .u64 cr7) W)
  (H8 : ∀ W, Ret 61 #[aggI .u64 cr6] (aggI .u64 cr8) W)
  (H9 : ∀ W, Ret 57 #[aggI .u64 cr7, aggI .u64 cr8] (aggI .u64 cr9) W)
  (H10 : ∀ W, Ret 60 #[aggI .u64 cr9] (.tuple #[aggI .u64 rx, .bool true]) W) :
  Calls Tryd.prog 29 #[aggI .u8 xb] w fun e w' => e = .returned (.tuple #[aggI .u64 bu2, .bool false]) ∧ Below w.heap.size w w' := by
 go_enter Tryd.func29, Tryd.ntmps29
 go_wp2_with (first
   | (with_reducible refine at_n 1 ?_; refine wpList_boxI rfl 22 _ rfl .u8 xb rfl ?_; intro w1 A1 s1 b1; have BB := b1; have y1 := BB.size)
   | (with_reducible refine at_n 2 ?_; refine wpList_allocI rfl 50 rfl .u64 12 zero_pnt ?_; intro w2 A2 s2 b2; have q2_1 := A1.lt; replace A1 := A1.below b2; replace BB := below_then BB b2; have y2 := BB.size)
   | (with_reducible refine at_n 11 ?_; refine wpList_val' (fun R hR => Does.loadC rfl 5 _ rfl _ Tryd.underlying5 rfl (w.heap.size) 31 rfl .u8 (xb) (A1) (by rw [l_xb]; decide) (h_xb_at31) hR) ?_)
   | (with_reducible refine at_n 14 ?_; refine wpList_val' (fun R hR => Does.loadC rfl 5 _ rfl _ Tryd.underlying5 rfl (w.heap.size) 31 rfl .u8 (xb) (A1) (by rw [l_xb]; decide) (h_xb_at31) hR) ?_)
   | (with_reducible refine at_op (o := ⟨_, .store 5 (.tmp 16) _, _, _, _, _⟩) ?_; refine wpList_storeC rfl 5 _ _ rfl (by kernel_rfl) (w.heap.size) 31 rfl .u8 _ rfl (xb) xb_set31 (A1) (by rw [l_xb]; decide) (by first | exact h_xb_set31 | (simp only [hge, hlow]; exact h_xb_set31)) ?_; intro w3 D3 O3 L3; replace A2 := O3 _ _ _ (by omega) A2; replace BB := L3 _ _ BB (by omega); have z3 := BB.size; clear O3 L3 A1; have A1 := D3)
   | (with_reducible refine at_n 17 ?_; refine wpList_val' (fun R hR => Does.loadM rfl 22 _ rfl 32 _ und_a32 rfl info_a32 (w.heap.size) 0 rfl .u8 (xb_set31) (A1) (by omega) (sl_all l_xb_set31) hR) ?_)
   | (with_reducible refine at_n 5 ?_; refine wpList_allocI rfl 36 rfl .u64 4 zero_num ?_; intro w5 A5 s5 b5; have q5_1 := A1.lt; have q5_2 := A2.lt; replace A1 := A1.below b5; replace A2 := A2.below b5; replace BB := below_then BB b5; have y5 := BB.size)
   | (with_reducible refine at_op (o := ⟨_, .store 36 (.tmp 5) _, _, _, _, _⟩) ?_; refine wpList_storeI rfl 36 _ _ rfl 4 info_num (w4.heap.size) rfl .u64 _ (cr0) rfl (A5) (rfl) (l_cr0) ?_; intro D6; replace A1 := A1.rowOther (B' := w4.heap.size) (by omega) ((cr0).map (Value.int .u64)).toArray; replace A2 := A2.rowOther (B' := w4.heap.size) (by omega) ((cr0).map (Value.int .u64)).toArray; replace BB := Below.setRow BB (g := w4.heap.size) (by omega) ((cr0).map (Value.int .u64)).toArray; clear A5; have A5 := D6)
   | (go_at_call 54; first | ((with_reducible refine (H0 _).mono ?_); rintro e w4 ⟨rfl, b4⟩; replace A1 := A1.below b4; replace A2 := A2.below b4; replace BB := below_then BB b4; have z4 := BB.size)))
 refine wp_world fun Wc7 hWc => ?_
 rw [← hWc] at BB A1 A2 A5
 clear hWc
 have k7_0 := A1.lt
 have k7_1 := A2.lt
 have k7_2 := A5.lt
 refine wp_region_ord [[], [], [0, 1, 1], [2]] [some 19, some 20, some 21, some 22] 4 (fun b w' => Arr .u8 w' (w.heap.size) xb_set31 ∧ Arr .u64 w' (w1.heap.size) (List.replicate 12 0) ∧ Arr .u64 w' (w4.heap.size) cr0 ∧ Below w.heap.size w w') (fun opn f _ => match opn with | 0 => f 0 = aggI .u64 cr0 | 1 => f 1 = aggI .u64 cr1 | 2 => f 2 = .bool true | 3 => f 3 = .bool false | _ => True) (fun _ _ _ => True) (by kernel_rfl) (by kernel_rfl) (by kernel_rfl) (by kernel_rfl) (fun b v v' hb h => ⟨h.1.below hb, h.2.1.below hb, h.2.2.1.below hb, below_then h.2.2.2 hb⟩) (fun _ _ _ _ _ h => h) (fun _ _ _ _ _ _ _ h => h) ⟨A1.drew, A2.drew, A5.drew, BB.drew⟩ ?_ ?_
 ·
  refine StepL.other (k := 0) rfl (fun b f W hb hG hH => ?_) ?_
  ·
   clear hH
   generalize hA : putL _ _ _ _ = A
   have q5 : A.eval (.tmp 5) = .pointer (some ⟨w4.heap.size, 0, none⟩) := putLn hA 5 rfl rfl rfl
   clear hA
   exact Does.loadM rfl 36 _ rfl 4 _ und_num rfl info_num (w4.heap.size) (0) q5 .u64 (cr0) (hG.2.2.1) (by omega) (sl_all l_cr0) ⟨Below.refl _ _, rfl⟩
  refine StepL.other (k := 1) rfl (fun b f W hb hG hH => ?_) ?_
  ·
   clear hH
   generalize hA : putL _ _ _ _ = A
   clear hA
   refine Does.call rfl _ _ (by go_simp) ((H1 W).mono ?_)
   rintro e w' ⟨rfl, hb'⟩
   exact ⟨_, rfl, hb', rfl⟩
  refine StepL.other (k := 2) rfl (fun b f W hb hG hH => ?_) ?_
  ·
   obtain ⟨d0, d1, -, -⟩ := hH
   generalize hA : putL _ _ _ _ = A
   have q19 := putLl hA 19 d0 rfl rfl
   have r19 := slot_get q19
   have q20 := putLl hA 20 d1 rfl rfl
   have r20 := slot_get q20
   clear hA
   refine Does.call rfl _ _ (by go_simp) ((H2 W).mono ?_)
   rintro e w' ⟨rfl, hb'⟩
   exact ⟨_, rfl, hb', rfl⟩
  refine StepL.other (k := 3) rfl (fun b f W hb hG hH => ?_) ?_
  ·
   obtain ⟨d2, -⟩ := hH
   generalize hA : putL _ _ _ _ = A
   have q21 := putLl hA 21 d2 rfl rfl
   have r21 := slot_get q21
   clear hA
   refine Does.pure rfl (.bool false) ?_ ⟨Below.refl _ _, rfl⟩
   go_simp
  exact trivial
 ·
  intro f V7 hG hH
  obtain ⟨d0, d1, d2, d3, -⟩ : (f 0 = aggI .u64 cr0) ∧ (f 1 = aggI .u64 cr1) ∧ (f 2 = .bool true) ∧ (f 3 = .bool false) ∧ True := hH
  rw [show List.range (List.length [[], [], [0, 1, 1], [2]]) = [0, 1, 2, 3] from rfl]
  simp only [putL, List.getElem?_cons_zero, List.getElem?_cons_succ, Option.join, Option.bind_some, id_eq, Act.put, List.setIfInBounds_toArray, List.set_cons_zero, List.set_cons_succ, d0, d1, d2, d3]
  clear d0 d1 d2 d3
  clear A1 A2 A5
  obtain ⟨A1, A2, A5, BV⟩ := hG
  clear BB
  have BB := BV
  clear BV
  have zz7 := BB.size
  go_wp2_with (first
    | (with_reducible refine at_n 24 ?_; refine wpList_val' (fun R hR => Does.loadM rfl 36 _ rfl 4 _ und_num rfl info_num (w4.heap.size) 0 rfl .u64 (cr0) (A5) (by omega) (sl_all l_cr0) hR) ?_)
    | (with_reducible refine at_n 25 ?_; refine wpList_val' (fun R hR => Does.loadM rfl 36 _ rfl 4 _ und_num rfl info_num (w4.heap.size) 0 rfl .u64 (cr0) (A5) (by omega) (sl_all l_cr0) hR) ?_)
    | (with_reducible refine at_n 6 ?_; refine wpList_allocI rfl 36 rfl .u64 4 zero_num ?_; intro w9 A6 s9 b9; have q9_1 := A1.lt; have q9_2 := A2.lt; have q9_5 := A5.lt; replace A1 := A1.below b9; replace A2 := A2.below b9; replace A5 := A5.below b9; replace BB := below_then BB b9; have y9 := BB.size)
    | (with_reducible refine at_op (o := ⟨_, .store 36 (.tmp 6) _, _, _, _, _⟩) ?_; refine wpList_storeI rfl 36 _ _ rfl 4 info_num (w8.heap.size) rfl .u64 _ (cr3) rfl (A6) (rfl) (l_cr3) ?_; intro D10; replace A1 := A1.rowOther (B' := w8.heap.size) (by omega) ((cr3).map (Value.int .u64)).toArray; replace A2 := A2.rowOther (B' := w8.heap.size) (by omega) ((cr3).map (Value.int .u64)).toArray; replace A5 := A5.rowOther (B' := w8.heap.size) (by omega) ((cr3).map (Value.int .u64)).toArray; replace BB := Below.setRow BB (g := w8.heap.size) (by omega) ((cr3).map (Value.int .u64)).toArray; clear A6; have A6 := D10)
    | (go_at_call 57; first | ((with_reducible refine (H3 _).mono ?_); rintro e w8 ⟨rfl, b8⟩; replace A1 := A1.below b8; replace A2 := A2.below b8; replace A5 := A5.below b8; replace BB := below_then BB b8; have z8 := BB.size)))
  refine wp_world fun Wc11 hWc => ?_
  rw [← hWc] at BB A1 A2 A5 A6
  clear hWc
  have k11_0 := A1.lt
  have k11_1 := A2.lt
  have k11_2 := A5.lt
  have k11_3 := A6.lt
  refine wp_region_new [[], [], [0, 1, 0], [], [2, 3, 2], [], [5, 4, 4, 0, 1, 2, 3, 4, 5]] [some 27, some 28, some 29, some 30, some 31, some 7, none] (Wc11.heap.size) [⟨5, 6, .u64, 4, cr6⟩] (fun w' => Arr .u8 w' (w.heap.size) xb_set31 ∧ Arr .u64 w' (w1.heap.size) (List.replicate 12 0) ∧ Arr .u64 w' (w4.heap.size) cr0 ∧ Arr .u64 w' (w8.heap.size) cr3 ∧ Below Wc11.heap.size Wc11 w') (fun opn f _ => match opn with | 0 => f 0 = aggI .u64 cr4 | 1 => f 1 = aggI .u64 cr3 | 2 => f 2 = aggI .u64 cr5 | 3 => f 3 = aggI .u64 bu0 | 4 => f 4 = aggI .u64 cr6 | _ => True) (by kernel_rfl) (by kernel_rfl) (by kernel_rfl) (by kernel_rfl) rfl (by intro it h it' h' e; simp only [List.mem_cons, List.not_mem_nil, or_false] at h h'; rcases h with rfl <;> rcases h' with rfl <;> first | rfl | (simp at e)) (fun v v' hb h => ⟨h.1.below hb, h.2.1.below hb, h.2.2.1.below hb, h.2.2.2.1.below hb, below_then h.2.2.2.2 hb⟩) (fun v h => h.2.2.2.2.size) (fun v B cs hB h => ⟨h.1.rowOther (by omega) _, h.2.1.rowOther (by omega) _, h.2.2.1.rowOther (by omega) _, h.2.2.2.1.rowOther (by omega) _, Below.setRow h.2.2.2.2 (by omega) _⟩) (fun _ _ _ _ h => h) ⟨A1.drew, A2.drew, A5.drew, A6.drew, (Below.refl _ _).drew⟩ ?_ (by intro it h; simp only [List.mem_cons, List.not_mem_nil, or_false] at h; rcases h with rfl <;> exact ⟨by simp, by simp⟩) ?_
  ·
   refine StepN.plain rfl (fun f W hG hH => ?_) ?_
   ·
    clear hH
    generalize hA : putL _ _ _ _ = A
    clear hA
    refine Does.call rfl _ _ (by go_simp) ((H4 W).mono ?_)
    rintro e w' ⟨rfl, hb'⟩
    exact ⟨_, rfl, hb', rfl⟩
   refine StepN.plain rfl (fun f W hG hH => ?_) ?_
   ·
    clear hH
    generalize hA : putL _ _ _ _ = A
    have q6 : A.eval (.tmp 6) = .pointer (some ⟨w8.heap.size, 0, none⟩) := putLn hA 6 rfl rfl rfl
    clear hA
    exact Does.loadM rfl 36 _ rfl 4 _ und_num rfl info_num (w8.heap.size) (0) q6 .u64 (cr3) (hG.2.2.2.1) (by omega) (sl_all l_cr3) ⟨Below.refl _ _, rfl⟩
   refine StepN.plain rfl (fun f W hG hH => ?_) ?_
   ·
    obtain ⟨d0, d1, -, -⟩ := hH
    generalize hA : putL _ _ _ _ = A
    have q27 := putLl hA 27 d0 rfl rfl
    have r27 := slot_get q27
    have q28 := putLl hA 28 d1 rfl rfl
    have r28 := slot_get q28
    clear hA
    refine Does.call rfl _ _ (by go_simp) ((H5 W).mono ?_)
    rintro e w' ⟨rfl, hb'⟩
    exact ⟨_, rfl, hb', rfl⟩
   refine StepN.plain rfl (fun f W hG hH => ?_) ?_
   ·
    clear hH
    generalize hA : putL _ _ _ _ = A
    clear hA
    exact Does.buildI rfl 36 _ rfl .u64 (bu0) _ (hbu0) (rfl) ⟨Below.refl _ _, rfl⟩
   refine StepN.plain rfl (fun f W hG hH => ?_) ?_
   ·
    obtain ⟨d2, d3, -, -⟩ := hH
    generalize hA : putL _ _ _ _ = A
    have q29 := putLl hA 29 d2 rfl rfl
    have r29 := slot_get q29
    have q30 := putLl hA 30 d3 rfl rfl
    have r30 := slot_get q30
    clear hA
    refine Does.call rfl _ _ (by go_simp) ((H6 W).mono ?_)
    rintro e w' ⟨rfl, hb'⟩
    exact ⟨_, rfl, hb', rfl⟩
   refine StepN.alloc rfl (fun _ _ => trivial) (fun A W => ?_) ?_
   ·
    refine Does.allocI rfl 36 rfl .u64 4 zero_num ?_
    intro W1 D1 s1 b1'
    exact ⟨b1', rfl, D1⟩
   refine StepN.store rfl (fun _ _ => trivial) (fun f W B hG hH hB hZ => ?_) ?_
   ·
    obtain ⟨-, d4, -, d0, d1, d2, d3, -, -, -⟩ := hH
    generalize hA : putL _ _ _ _ = A
    have q7 : A.eval (.tmp 7) = f 5 := putLl hA 7 rfl rfl rfl
    have r7 := slot_get q7
    have q31 := putLl hA 31 d4 rfl rfl
    have r31 := slot_get q31
    clear hA
    have hB : f 5 = .pointer (some ⟨B, 0, none⟩) := hB
    rw [hB] at q7
    refine Does.storeI rfl 36 _ _ rfl 4 info_num B q7 .u64 _ (cr6) q31 hZ (by rfl) (l_cr6) ?_
    intro A9
    exact ⟨rfl, A9⟩
   exact trivial
  ·
   intro f V11 hG hH hN
   obtain ⟨d0, d1, d2, d3, d4, -, -, -⟩ : (f 0 = aggI .u64 cr4) ∧ (f 1 = aggI .u64 cr3) ∧ (f 2 = aggI .u64 cr5) ∧ (f 3 = aggI .u64 bu0) ∧ (f 4 = aggI .u64 cr6) ∧ (True) ∧ (True) ∧ True := hH
   rw [show List.range (List.length [[], [], [0, 1, 0], [], [2, 3, 2], [], [5, 4, 4, 0, 1, 2, 3, 4, 5]]) = [0, 1, 2, 3, 4, 5, 6] from rfl]
   obtain ⟨loc, hn1, hn2⟩ := hN
   obtain ⟨hN0, kN0, A7⟩ : f 5 = .pointer (some ⟨loc 5, 0, none⟩) ∧ Wc11.heap.size ≤ loc 5 ∧ Arr .u64 V11 (loc 5) cr6 := hn1 ⟨5, 6, .u64, 4, cr6⟩ (by simp) rfl
   clear hn1 hn2
   generalize loc 5 = N11_0 at *
   simp only [putL, List.getElem?_cons_zero, List.getElem?_cons_succ, Option.join, Option.bind_some, id_eq, Act.put, List.setIfInBounds_toArray, List.set_cons_zero, List.set_cons_succ, d0, d1, d2, d3, d4, hN0]
   clear d0 d1 d2 d3 d4 hN0
   clear A1 A2 A5 A6
   obtain ⟨A1, A2, A5, A6, BV⟩ := hG
   replace BB := below_then BB BV
   clear BV
   have zz11 := BB.size
   go_wp2
   have k12_0 := A1.lt
   have k12_1 := A2.lt
   have k12_2 := A5.lt
   have k12_3 := A6.lt
   have k12_4 := A7.lt
   refine wp_region_new [[], [], [0, 1], [], [3, 2], [2, 4, 4], [5, 5], [6], [7], [7], [], [10, 8, 6, 0, 1, 2, 3, 4, 5, 6, 7, 8, 10], [9, 11, 0, 1, 2, 3, 4, 5, 6, 7, 8, 9, 10, 11]] [some 33, some 34, some 35, some 36, some 37, some 38, some 39, some 32, some 40, some 41, some 8, none, some 9] (V11.heap.size) [⟨10, 11, .u64, 4, rx⟩] (fun w' => Arr .u8 w' (w.heap.size) xb_set31 ∧ Arr .u64 w' (w1.heap.size) (List.replicate 12 0) ∧ Arr .u64 w' (w4.heap.size) cr0 ∧ Arr .u64 w' (w8.heap.size) cr3 ∧ Arr .u64 w' (N11_0) cr6 ∧ Below V11.heap.size V11 w') (fun opn f _ => match opn with | 0 => f 0 = aggI .u64 cr3 | 1 => f 1 = aggI .u64 bu0 | 2 => f 2 = aggI .u64 cr7 | 3 => f 3 = aggI .u64 cr6 | 4 => f 4 = aggI .u64 cr8 | 5 => f 5 = aggI .u64 cr9 | 6 => f 6 = .tuple #[aggI .u64 rx, .bool true] | 7 => f 7 = .tuple #[aggI .u64 rx, .bool true] | 8 => f 8 = aggI .u64 rx | 9 => f 9 = .bool true | 12 => f 12 = .bool true | _ => True) (by kernel_rfl) (by kernel_rfl) (by kernel_rfl) (by kernel_rfl) rfl (by intro it h it' h' e; simp only [List.mem_cons, List.not_mem_nil, or_false] at h h'; rcases h with rfl <;> rcases h' with rfl <;> first | rfl | (simp at e)) (fun v v' hb h => ⟨h.1.below hb, h.2.1.below hb, h.2.2.1.below hb, h.2.2.2.1.below hb, h.2.2.2.2.1.below hb, below_then h.2.2.2.2.2 hb⟩) (fun v h => h.2.2.2.2.2.size) (fun v B cs hB h => ⟨h.1.rowOther (by omega) _, h.2.1.rowOther (by omega) _, h.2.2.1.rowOther (by omega) _, h.2.2.2.1.rowOther (by omega) _, h.2.2.2.2.1.rowOther (by omega) _, Below.setRow h.2.2.2.2.2 (by omega) _⟩) (fun _ _ _ _ h => h) ⟨A1.drew, A2.drew, A5.drew, A6.drew, A7.drew, (Below.refl _ _).drew⟩ ?_ (by intro it h; simp only [List.mem_cons, List.not_mem_nil, or_false] at h; rcases h with rfl <;> exact ⟨by simp, by simp⟩) ?_
   ·
    refine StepN.plain rfl (fun f W hG hH => ?_) ?_
    ·
     clear hH
     generalize hA : putL _ _ _ _ = A
     have q6 : A.eval (.tmp 6) = .pointer (some ⟨w8.heap.size, 0, none⟩) := putLn hA 6 rfl rfl rfl
     clear hA
     exact Does.loadM rfl 36 _ rfl 4 _ und_num rfl info_num (w8.heap.size) (0) q6 .u64 (cr3) (hG.2.2.2.1) (by omega) (sl_all l_cr3) ⟨Below.refl _ _, rfl⟩
    refine StepN.plain rfl (fun f W hG hH => ?_) ?_
    ·
     clear hH
     generalize hA : putL _ _ _ _ = A
     clear hA
     exact Does.buildI rfl 36 _ rfl .u64 (bu0) _ (hbu0) (rfl) ⟨Below.refl _ _, rfl⟩
    refine StepN.plain rfl (fun f W hG hH => ?_) ?_
    ·
     obtain ⟨d0, d1, -⟩ := hH
     generalize hA : putL _ _ _ _ = A
     have q33 := putLl hA 33 d0 rfl rfl
     have r33 := slot_get q33
     have q34 := putLl hA 34 d1 rfl rfl
     have r34 := slot_get q34
     clear hA
     refine Does.call rfl _ _ (by go_simp) ((H7 W).mono ?_)
     rintro e w' ⟨rfl, hb'⟩
     exact ⟨_, rfl, hb', rfl⟩
    refine StepN.plain rfl (fun f W hG hH => ?_) ?_
    ·
     clear hH
     generalize hA : putL _ _ _ _ = A
     have q7 : A.eval (.tmp 7) = .pointer (some ⟨N11_0, 0, none⟩) := putLn hA 7 rfl rfl rfl
     clear hA
     exact Does.loadM rfl 36 _ rfl 4 _ und_num rfl info_num (N11_0) (0) q7 .u64 (cr6) (hG.2.2.2.2.1) (by omega) (sl_all l_cr6) ⟨Below.refl _ _, rfl⟩
    refine StepN.plain rfl (fun f W hG hH => ?_) ?_
    ·
     obtain ⟨d3, d2, -⟩ := hH
     generalize hA : putL _ _ _ _ = A
     have q36 := putLl hA 36 d3 rfl rfl
     have r36 := slot_get q36
     clear hA
     refine Does.call rfl _ _ (by go_simp) ((H8 W).mono ?_)
     rintro e w' ⟨rfl, hb'⟩
     exact ⟨_, rfl, hb', rfl⟩
    refine StepN.plain rfl (fun f W hG hH => ?_) ?_
    ·
     obtain ⟨d2, d4, -, -⟩ := hH
     generalize hA : putL _ _ _ _ = A
     have q35 := putLl hA 35 d2 rfl rfl
     have r35 := slot_get q35
     have q37 := putLl hA 37 d4 rfl rfl
     have r37 := slot_get q37
     clear hA
     refine Does.call rfl _ _ (by go_simp) ((H9 W).mono ?_)
     rintro e w' ⟨rfl, hb'⟩
     exact ⟨_, rfl, hb', rfl⟩
    refine StepN.plain rfl (fun f W hG hH => ?_) ?_
    ·
     obtain ⟨d5, -, -⟩ := hH
     generalize hA : putL _ _ _ _ = A
     have q38 := putLl hA 38 d5 rfl rfl
     have r38 := slot_get q38
     clear hA
     refine Does.call rfl _ _ (by go_simp) ((H10 W).mono ?_)
     rintro e w' ⟨rfl, hb'⟩
     exact ⟨_, rfl, hb', rfl⟩
    refine StepN.plain rfl (fun f W hG hH => ?_) ?_
    ·
     obtain ⟨d6, -⟩ := hH
     generalize hA : putL _ _ _ _ = A
     have q39 := putLl hA 39 d6 rfl rfl
     have r39 := slot_get q39
     clear hA
     refine Does.pure rfl (.tuple #[aggI .u64 rx, .bool true]) ?_ ⟨Below.refl _ _, rfl⟩
     go_simp
    refine StepN.plain rfl (fun f W hG hH => ?_) ?_
    ·
     obtain ⟨d7, -⟩ := hH
     generalize hA : putL _ _ _ _ = A
     have q32 := putLl hA 32 d7 rfl rfl
     have r32 := slot_get q32
     clear hA
     refine Does.pure rfl (aggI .u64 rx) ?_ ⟨Below.refl _ _, rfl⟩
     go_simp
    refine StepN.plain rfl (fun f W hG hH => ?_) ?_
    ·
     obtain ⟨d7, -⟩ := hH
     generalize hA : putL _ _ _ _ = A
     have q32 := putLl hA 32 d7 rfl rfl
     have r32 := slot_get q32
     clear hA
     refine Does.pure rfl (.bool true) ?_ ⟨Below.refl _ _, rfl⟩
     go_simp
    refine StepN.alloc rfl (fun _ _ => trivial) (fun A W => ?_) ?_
    ·
     refine Does.allocI rfl 36 rfl .u64 4 zero_num ?_
     intro W1 D1 s1 b1'
     exact ⟨b1', rfl, D1⟩
    refine StepN.store rfl (fun _ _ => trivial) (fun f W B hG hH hB hZ => ?_) ?_
    ·
     obtain ⟨-, d8, d6, d0, d1, d2, d3, d4, d5, -, d7, -, -, -⟩ := hH
     generalize hA : putL _ _ _ _ = A
     have q8 : A.eval (.tmp 8) = f 10 := putLl hA 8 rfl rfl rfl
     have r8 := slot_get q8
     have q40 := putLl hA 40 d8 rfl rfl
     have r40 := slot_get q40
     clear hA
     have hB : f 10 = .pointer (some ⟨B, 0, none⟩) := hB
     rw [hB] at q8
     refine Does.storeI rfl 36 _ _ rfl 4 info_num B q8 .u64 _ (rx) q40 hZ (by rfl) (l_rx) ?_
     intro A9
     exact ⟨rfl, A9⟩
    refine StepN.plain rfl (fun f W hG hH => ?_) ?_
    ·
     obtain ⟨d9, -, d0, d1, d2, d3, d4, d5, d6, d7, d8, -, -, -, -⟩ := hH
     generalize hA : putL _ _ _ _ = A
     have q41 := putLl hA 41 d9 rfl rfl
     have r41 := slot_get q41
     clear hA
     refine Does.pure rfl (.bool true) ?_ ⟨Below.refl _ _, rfl⟩
     go_simp
    exact trivial
   ·
    intro f V12 hG hH hN
    obtain ⟨d0, d1, d2, d3, d4, d5, d6, d7, d8, d9, -, -, d12, -⟩ : (f 0 = aggI .u64 cr3) ∧ (f 1 = aggI .u64 bu0) ∧ (f 2 = aggI .u64 cr7) ∧ (f 3 = aggI .u64 cr6) ∧ (f 4 = aggI .u64 cr8) ∧ (f 5 = aggI .u64 cr9) ∧ (f 6 = .tuple #[aggI .u64 rx, .bool true]) ∧ (f 7 = .tuple #[aggI .u64 rx, .bool true]) ∧ (f 8 = aggI .u64 rx) ∧ (f 9 = .bool true) ∧ (True) ∧ (True) ∧ (f 12 = .bool true) ∧ True := hH
    rw [show List.range (List.length [[], [], [0, 1], [], [3, 2], [2, 4, 4], [5, 5], [6], [7], [7], [], [10, 8, 6, 0, 1, 2, 3, 4, 5, 6, 7, 8, 10], [9, 11, 0, 1, 2, 3, 4, 5, 6, 7, 8, 9, 10, 11]]) = [0, 1, 2, 3, 4, 5, 6, 7, 8, 9, 10, 11, 12] from rfl]
    obtain ⟨loc, hn1, hn2⟩ := hN
    obtain ⟨hN0, kN0, A8⟩ : f 10 = .pointer (some ⟨loc 10, 0, none⟩) ∧ V11.heap.size ≤ loc 10 ∧ Arr .u64 V12 (loc 10) rx := hn1 ⟨10, 11, .u64, 4, rx⟩ (by simp) rfl
    clear hn1 hn2
    generalize loc 10 = N12_0 at *
    simp only [putL, List.getElem?_cons_zero, List.getElem?_cons_succ, Option.join, Option.bind_some, id_eq, Act.put, List.setIfInBounds_toArray, List.set_cons_zero, List.set_cons_succ, d0, d1, d2, d3, d4, d5, d6, d7, d8, d9, d12, hN0]
    clear d0 d1 d2 d3 d4 d5 d6 d7 d8 d9 d12 hN0
    clear A1 A2 A5 A6 A7
    obtain ⟨A1, A2, A5, A6, A7, BV⟩ := hG
    replace BB := below_then BB BV
    clear BV
    have zz12 := BB.size
    go_wp2_with (first
      | (with_reducible refine at_n 47 ?_; refine wpList_val' (fun R hR => Does.loadM rfl 36 _ rfl 4 _ und_num rfl info_num (N12_0) 0 rfl .u64 (rx) (A8) (by omega) (sl_all l_rx) hR) ?_)
      | (with_reducible refine at_n 48 ?_; go_loud (refine wpList_val' (fun R hR => Does.buildI rfl 36 _ rfl .u64 (bu1) _ (hbu1) rfl hR) ?_))
      | (with_reducible refine at_n 49 ?_; refine wpList_val' (fun R hR => Does.eqlI rfl 36 _ 34 _ _ rfl 4 und_num .u64 .u64 Tryd.underlying34 (by kernel_rfl) (by kernel_rfl) (rx) (bu1) rfl rfl (l_rx) (l_bu1) true (by rw [show decide (rx = bu1) = true from he_rx_bu1]) hR) ?_)
      | (with_reducible refine at_n 52 ?_; go_loud (refine wpList_val' (fun R hR => Does.buildI rfl 50 _ rfl .u64 (bu2) _ (hbu2) rfl hR) ?_))
      | (with_reducible refine at_op (o := ⟨_, .store 50 (.tmp 2) _, _, _, _, _⟩) ?_; refine wpList_storeI rfl 50 _ _ rfl 12 info_pnt (w1.heap.size) rfl .u64 _ (bu2) rfl (A2) (rfl) (l_bu2) ?_; intro D13; replace A1 := A1.rowOther (B' := w1.heap.size) (by omega) ((bu2).map (Value.int .u64)).toArray; replace A5 := A5.rowOther (B' := w1.heap.size) (by omega) ((bu2).map (Value.int .u64)).toArray; replace A6 := A6.rowOther (B' := w1.heap.size) (by omega) ((bu2).map (Value.int .u64)).toArray; replace A7 := A7.rowOther (B' := w1.heap.size) (by omega) ((bu2).map (Value.int .u64)).toArray; replace A8 := A8.rowOther (B' := w1.heap.size) (by omega) ((bu2).map (Value.int .u64)).toArray; replace BB := Below.setRow BB (g := w1.heap.size) (by omega) ((bu2).map (Value.int .u64)).toArray; clear A2; have A2 := D13))
    refine bodyPost_ret (results_cell_tmpM rfl _ 12 _ Tryd.underlying50 rfl info_pnt (w1.heap.size) rfl .u64 _ A2 (l_bu2)) rfl ?_
    exact ⟨rfl, BB⟩
set_option maxHeartbeats 2000000 in
theorem read_t (xb xb_set31 cr0 cr1 cr3 cr4 cr5 bu0 cr6 cr7 cr8 cr9 rx bu1 cr11 bu2 : List Int) (xb_at31 yb : Int) (w : World) (l_xb : xb.length = 32) (l_xb_set31 : xb_set31.length = 32) (l_cr0 : cr0.length = 4) (l_cr1 : cr1.length = 4) (l_cr3 : cr3.length = 4) (l_cr4 : cr4.length = 4) (l_cr5 : cr5.length = 4) (l_bu0 : bu0.length = 4) (l_cr6 : cr6.length = 4) (l_cr7 : cr7.length = 4) (l_cr8 : cr8.length = 4) (l_cr9 : cr9.length = 4) (l_rx : rx.length = 4) (l_bu1 : bu1.length = 4) (l_cr11 : cr11.length = 4) (l_bu2 : bu2.length = 12)
  (h_xb_at31 : at0 xb 31 = xb_at31)
  (h_xb_set31 : List.set xb 31 (yb) = xb_set31)
  (hge : 128 ≤ xb_at31)
  (hlow : Int.tmod xb_at31 128 = yb)
  (hbu0 : Tryd.prog.built 36 [(0, .int .u64 1)] = some (bu0.map (Value.int .u64)).toArray)
  (hbu1 : Tryd.prog.built 36 [] = some (bu1.map (Value.int .u64)).toArray)
  (hbu2 : Tryd.prog.built 50 [(0, aggI .u64 cr11), (1, aggI .u64 cr0), (2, aggI .u64 bu0)] = some (bu2.map (Value.int .u64)).toArray)
  (he_rx_bu1 : decide (rx = bu1) = false)
  (H0 : ∀ W, Ret 54 #[aggI .u8 xb_set31] (aggI .u64 cr0) W)
  (H1 : ∀ W, Ret 56 #[] (aggI .u64 cr1) W)
  (H2 : ∀ W, Ret 55 #[aggI .u64 cr0, aggI .u64 cr1] (.bool true) W)
  (H3 : ∀ W, Ret 57 #[aggI .u64 cr0, aggI .u64 cr0] (aggI .u64 cr3) W)
  (H4 : ∀ W, Ret 59 #[] (aggI .u64 cr4) W)
  (H5 : ∀ W, Ret 57 #[aggI .u64 cr4, aggI .u64 cr3] (aggI .u64 cr5) W)
  (H6 : ∀ W, Ret 58 #[aggI .u64 cr5, aggI .u64 bu0] (aggI .u64 cr6) W)
  (H7 : ∀ W, Ret 35 #[aggI .u64 cr3, aggI .u64 bu0] (aggI .u64 cr7) W)
  (H8 : ∀ W, Ret 61 #[aggI .u64 cr6] (aggI .u64 cr8) W)
  (H9 : ∀ W, Ret 57 #[aggI .u64 cr7, aggI .u64 cr8] (aggI .u64 cr9) W)
  (H10 : ∀ W, Ret 60 #[aggI .u64 cr9] (.tuple #[aggI .u64 rx, .bool true]) W)
  (H11 : ∀ W, Ret 35 #[aggI .u64 bu1, aggI .u64 rx] (aggI .u64 cr11) W) :
  Calls Tryd.prog 29 #[aggI .u8 xb] w fun e w' => e = .returned (.tuple #[aggI .u64 bu2, .bool true]) ∧ Below w.heap.size w w' := by
 go_enter Tryd.func29, Tryd.ntmps29
 go_wp2_with (first
   | (with_reducible refine at_n 1 ?_; refine wpList_boxI rfl 22 _ rfl .u8 xb rfl ?_; intro w1 A1 s1 b1; have BB := b1; have y1 := BB.size)
   | (with_reducible refine at_n 2 ?_; refine wpList_allocI rfl 50 rfl .u64 12 zero_pnt ?_; intro w2 A2 s2 b2; have q2_1 := A1.lt; replace A1 := A1.below b2; replace BB := below_then BB b2; have y2 := BB.size)
   | (with_reducible refine at_n 11 ?_; refine wpList_val' (fun R hR => Does.loadC rfl 5 _ rfl _ Tryd.underlying5 rfl (w.heap.size) 31 rfl .u8 (xb) (A1) (by rw [l_xb]; decide) (h_xb_at31) hR) ?_)
   | (with_reducible refine at_n 14 ?_; refine wpList_val' (fun R hR => Does.loadC rfl 5 _ rfl _ Tryd.underlying5 rfl (w.heap.size) 31 rfl .u8 (xb) (A1) (by rw [l_xb]; decide) (h_xb_at31) hR) ?_)
   | (with_reducible refine at_op (o := ⟨_, .store 5 (.tmp 16) _, _, _, _, _⟩) ?_; refine wpList_storeC rfl 5 _ _ rfl (by kernel_rfl) (w.heap.size) 31 rfl .u8 _ rfl (xb) xb_set31 (A1) (by rw [l_xb]; decide) (by first | exact h_xb_set31 | (simp only [hge, hlow]; exact h_xb_set31)) ?_; intro w3 D3 O3 L3; replace A2 := O3 _ _ _ (by omega) A2; replace BB := L3 _ _ BB (by omega); have z3 := BB.size; clear O3 L3 A1; have A1 := D3)
   | (with_reducible refine at_n 17 ?_; refine wpList_val' (fun R hR => Does.loadM rfl 22 _ rfl 32 _ und_a32 rfl info_a32 (w.heap.size) 0 rfl .u8 (xb_set31) (A1) (by omega) (sl_all l_xb_set31) hR) ?_)
   | (with_reducible refine at_n 5 ?_; refine wpList_allocI rfl 36 rfl .u64 4 zero_num ?_; intro w5 A5 s5 b5; have q5_1 := A1.lt; have q5_2 := A2.lt; replace A1 := A1.below b5; replace A2 := A2.below b5; replace BB := below_then BB b5; have y5 := BB.size)
   | (with_reducible refine at_op (o := ⟨_, .store 36 (.tmp 5) _, _, _, _, _⟩) ?_; refine wpList_storeI rfl 36 _ _ rfl 4 info_num (w4.heap.size) rfl .u64 _ (cr0) rfl (A5) (rfl) (l_cr0) ?_; intro D6; replace A1 := A1.rowOther (B' := w4.heap.size) (by omega) ((cr0).map (Value.int .u64)).toArray; replace A2 := A2.rowOther (B' := w4.heap.size) (by omega) ((cr0).map (Value.int .u64)).toArray; replace BB := Below.setRow BB (g := w4.heap.size) (by omega) ((cr0).map (Value.int .u64)).toArray; clear A5; have A5 := D6)
   | (go_at_call 54; first | ((with_reducible refine (H0 _).mono ?_); rintro e w4 ⟨rfl, b4⟩; replace A1 := A1.below b4; replace A2 := A2.below b4; replace BB := below_then BB b4; have z4 := BB.size)))
 refine wp_world fun Wc7 hWc => ?_
 rw [← hWc] at BB A1 A2 A5
 clear hWc
 have k7_0 := A1.lt
 have k7_1 := A2.lt
 have k7_2 := A5.lt
 refine wp_region_ord [[], [], [0, 1, 1], [2]] [some 19, some 20, some 21, some 22] 4 (fun b w' => Arr .u8 w' (w.heap.size) xb_set31 ∧ Arr .u64 w' (w1.heap.size) (List.replicate 12 0) ∧ Arr .u64 w' (w4.heap.size) cr0 ∧ Below w.heap.size w w') (fun opn f _ => match opn with | 0 => f 0 = aggI .u64 cr0 | 1 => f 1 = aggI .u64 cr1 | 2 => f 2 = .bool true | 3 => f 3 = .bool false | _ => True) (fun _ _ _ => True) (by kernel_rfl) (by kernel_rfl) (by kernel_rfl) (by kernel_rfl) (fun b v v' hb h => ⟨h.1.below hb, h.2.1.below hb, h.2.2.1.below hb, below_then h.2.2.2 hb⟩) (fun _ _ _ _ _ h => h) (fun _ _ _ _ _ _ _ h => h) ⟨A1.drew, A2.drew, A5.drew, BB.drew⟩ ?_ ?_
 ·
  refine StepL.other (k := 0) rfl (fun b f W hb hG hH => ?_) ?_
  ·
   clear hH
   generalize hA : putL _ _ _ _ = A
   have q5 : A.eval (.tmp 5) = .pointer (some ⟨w4.heap.size, 0, none⟩) := putLn hA 5 rfl rfl rfl
   clear hA
   exact Does.loadM rfl 36 _ rfl 4 _ und_num rfl info_num (w4.heap.size) (0) q5 .u64 (cr0) (hG.2.2.1) (by omega) (sl_all l_cr0) ⟨Below.refl _ _, rfl⟩
  refine StepL.other (k := 1) rfl (fun b f W hb hG hH => ?_) ?_
  ·
   clear hH
   generalize hA : putL _ _ _ _ = A
   clear hA
   refine Does.call rfl _ _ (by go_simp) ((H1 W).mono ?_)
   rintro e w' ⟨rfl, hb'⟩
   exact ⟨_, rfl, hb', rfl⟩
  refine StepL.other (k := 2) rfl (fun b f W hb hG hH => ?_) ?_
  ·
   obtain ⟨d0, d1, -, -⟩ := hH
   generalize hA : putL _ _ _ _ = A
   have q19 := putLl hA 19 d0 rfl rfl
   have r19 := slot_get q19
   have q20 := putLl hA 20 d1 rfl rfl
   have r20 := slot_get q20
   clear hA
   refine Does.call rfl _ _ (by go_simp) ((H2 W).mono ?_)
   rintro e w' ⟨rfl, hb'⟩
   exact ⟨_, rfl, hb', rfl⟩
  refine StepL.other (k := 3) rfl (fun b f W hb hG hH => ?_) ?_
  ·
   obtain ⟨d2, -⟩ := hH
   generalize hA : putL _ _ _ _ = A
   have q21 := putLl hA 21 d2 rfl rfl
   have r21 := slot_get q21
   clear hA
   refine Does.pure rfl (.bool false) ?_ ⟨Below.refl _ _, rfl⟩
   go_simp
  exact trivial
 ·
  intro f V7 hG hH
  obtain ⟨d0, d1, d2, d3, -⟩ : (f 0 = aggI .u64 cr0) ∧ (f 1 = aggI .u64 cr1) ∧ (f 2 = .bool true) ∧ (f 3 = .bool false) ∧ True := hH
  rw [show List.range (List.length [[], [], [0, 1, 1], [2]]) = [0, 1, 2, 3] from rfl]
  simp only [putL, List.getElem?_cons_zero, List.getElem?_cons_succ, Option.join, Option.bind_some, id_eq, Act.put, List.setIfInBounds_toArray, List.set_cons_zero, List.set_cons_succ, d0, d1, d2, d3]
  clear d0 d1 d2 d3
  clear A1 A2 A5
  obtain ⟨A1, A2, A5, BV⟩ := hG
  clear BB
  have BB := BV
  clear BV
  have zz7 := BB.size
  go_wp2_with (first
    | (with_reducible refine at_n 24 ?_; refine wpList_val' (fun R hR => Does.loadM rfl 36 _ rfl 4 _ und_num rfl info_num (w4.heap.size) 0 rfl .u64 (cr0) (A5) (by omega) (sl_all l_cr0) hR) ?_)
    | (with_reducible refine at_n 25 ?_; refine wpList_val' (fun R hR => Does.loadM rfl 36 _ rfl 4 _ und_num rfl info_num (w4.heap.size) 0 rfl .u64 (cr0) (A5) (by omega) (sl_all l_cr0) hR) ?_)
    | (with_reducible refine at_n 6 ?_; refine wpList_allocI rfl 36 rfl .u64 4 zero_num ?_; intro w9 A6 s9 b9; have q9_1 := A1.lt; have q9_2 := A2.lt; have q9_5 := A5.lt; replace A1 := A1.below b9; replace A2 := A2.below b9; replace A5 := A5.below b9; replace BB := below_then BB b9; have y9 := BB.size)
    | (with_reducible refine at_op (o := ⟨_, .store 36 (.tmp 6) _, _, _, _, _⟩) ?_; refine wpList_storeI rfl 36 _ _ rfl 4 info_num (w8.heap.size) rfl .u64 _ (cr3) rfl (A6) (rfl) (l_cr3) ?_; intro D10; replace A1 := A1.rowOther (B' := w8.heap.size) (by omega) ((cr3).map (Value.int .u64)).toArray; replace A2 := A2.rowOther (B' := w8.heap.size) (by omega) ((cr3).map (Value.int .u64)).toArray; replace A5 := A5.rowOther (B' := w8.heap.size) (by omega) ((cr3).map (Value.int .u64)).toArray; replace BB := Below.setRow BB (g := w8.heap.size) (by omega) ((cr3).map (Value.int .u64)).toArray; clear A6; have A6 := D10)
    | (go_at_call 57; first | ((with_reducible refine (H3 _).mono ?_); rintro e w8 ⟨rfl, b8⟩; replace A1 := A1.below b8; replace A2 := A2.below b8; replace A5 := A5.below b8; replace BB := below_then BB b8; have z8 := BB.size)))
  refine wp_world fun Wc11 hWc => ?_
  rw [← hWc] at BB A1 A2 A5 A6
  clear hWc
  have k11_0 := A1.lt
  have k11_1 := A2.lt
  have k11_2 := A5.lt
  have k11_3 := A6.lt
  refine wp_region_new [[], [], [0, 1, 0], [], [2, 3, 2], [], [5, 4, 4, 0, 1, 2, 3, 4, 5]] [some 27, some 28, some 29, some 30, some 31, some 7, none] (Wc11.heap.size) [⟨5, 6, .u64, 4, cr6⟩] (fun w' => Arr .u8 w' (w.heap.size) xb_set31 ∧ Arr .u64 w' (w1.heap.size) (List.replicate 12 0) ∧ Arr .u64 w' (w4.heap.size) cr0 ∧ Arr .u64 w' (w8.heap.size) cr3 ∧ Below Wc11.heap.size Wc11 w') (fun opn f _ => match opn with | 0 => f 0 = aggI .u64 cr4 | 1 => f 1 = aggI .u64 cr3 | 2 => f 2 = aggI .u64 cr5 | 3 => f 3 = aggI .u64 bu0 | 4 => f 4 = aggI .u64 cr6 | _ => True) (by kernel_rfl) (by kernel_rfl) (by kernel_rfl) (by kernel_rfl) rfl (by intro it h it' h' e; simp only [List.mem_cons, List.not_mem_nil, or_false] at h h'; rcases h with rfl <;> rcases h' with rfl <;> first | rfl | (simp at e)) (fun v v' hb h => ⟨h.1.below hb, h.2.1.below hb, h.2.2.1.below hb, h.2.2.2.1.below hb, below_then h.2.2.2.2 hb⟩) (fun v h => h.2.2.2.2.size) (fun v B cs hB h => ⟨h.1.rowOther (by omega) _, h.2.1.rowOther (by omega) _, h.2.2.1.rowOther (by omega) _, h.2.2.2.1.rowOther (by omega) _, Below.setRow h.2.2.2.2 (by omega) _⟩) (fun _ _ _ _ h => h) ⟨A1.drew, A2.drew, A5.drew, A6.drew, (Below.refl _ _).drew⟩ ?_ (by intro it h; simp only [List.mem_cons, List.not_mem_nil, or_false] at h; rcases h with rfl <;> exact ⟨by simp, by simp⟩) ?_
  ·
   refine StepN.plain rfl (fun f W hG hH => ?_) ?_
   ·
    clear hH
    generalize hA : putL _ _ _ _ = A
    clear hA
    refine Does.call rfl _ _ (by go_simp) ((H4 W).mono ?_)
    rintro e w' ⟨rfl, hb'⟩
    exact ⟨_, rfl, hb', rfl⟩
   refine StepN.plain rfl (fun f W hG hH => ?_) ?_
   ·
    clear hH
    generalize hA : putL _ _ _ _ = A
    have q6 : A.eval (.tmp 6) = .pointer (some ⟨w8.heap.size, 0, none⟩) := putLn hA 6 rfl rfl rfl
    clear hA
    exact Does.loadM rfl 36 _ rfl 4 _ und_num rfl info_num (w8.heap.size) (0) q6 .u64 (cr3) (hG.2.2.2.1) (by omega) (sl_all l_cr3) ⟨Below.refl _ _, rfl⟩
   refine StepN.plain rfl (fun f W hG hH => ?_) ?_
   ·
    obtain ⟨d0, d1, -, -⟩ := hH
    generalize hA : putL _ _ _ _ = A
    have q27 := putLl hA 27 d0 rfl rfl
    have r27 := slot_get q27
    have q28 := putLl hA 28 d1 rfl rfl
    have r28 := slot_get q28
    clear hA
    refine Does.call rfl _ _ (by go_simp) ((H5 W).mono ?_)
    rintro e w' ⟨rfl, hb'⟩
    exact ⟨_, rfl, hb', rfl⟩
   refine StepN.plain rfl (fun f W hG hH => ?_) ?_
   ·
    clear hH
    generalize hA : putL _ _ _ _ = A
    clear hA
    exact Does.buildI rfl 36 _ rfl .u64 (bu0) _ (hbu0) (rfl) ⟨Below.refl _ _, rfl⟩
   refine StepN.plain rfl (fun f W hG hH => ?_) ?_
   ·
    obtain ⟨d2, d3, -, -⟩ := hH
    generalize hA : putL _ _ _ _ = A
    have q29 := putLl hA 29 d2 rfl rfl
    have r29 := slot_get q29
    have q30 := putLl hA 30 d3 rfl rfl
    have r30 := slot_get q30
    clear hA
    refine Does.call rfl _ _ (by go_simp) ((H6 W).mono ?_)
    rintro e w' ⟨rfl, hb'⟩
    exact ⟨_, rfl, hb', rfl⟩
   refine StepN.alloc rfl (fun _ _ => trivial) (fun A W => ?_) ?_
   ·
    refine Does.allocI rfl 36 rfl .u64 4 zero_num ?_
    intro W1 D1 s1 b1'
    exact ⟨b1', rfl, D1⟩
   refine StepN.store rfl (fun _ _ => trivial) (fun f W B hG hH hB hZ => ?_) ?_
   ·
    obtain ⟨-, d4, -, d0, d1, d2, d3, -, -, -⟩ := hH
    generalize hA : putL _ _ _ _ = A
    have q7 : A.eval (.tmp 7) = f 5 := putLl hA 7 rfl rfl rfl
    have r7 := slot_get q7
    have q31 := putLl hA 31 d4 rfl rfl
    have r31 := slot_get q31
    clear hA
    have hB : f 5 = .pointer (some ⟨B, 0, none⟩) := hB
    rw [hB] at q7
    refine Does.storeI rfl 36 _ _ rfl 4 info_num B q7 .u64 _ (cr6) q31 hZ (by rfl) (l_cr6) ?_
    intro A9
    exact ⟨rfl, A9⟩
   exact trivial
  ·
   intro f V11 hG hH hN
   obtain ⟨d0, d1, d2, d3, d4, -, -, -⟩ : (f 0 = aggI .u64 cr4) ∧ (f 1 = aggI .u64 cr3) ∧ (f 2 = aggI .u64 cr5) ∧ (f 3 = aggI .u64 bu0) ∧ (f 4 = aggI .u64 cr6) ∧ (True) ∧ (True) ∧ True := hH
   rw [show List.range (List.length [[], [], [0, 1, 0], [], [2, 3, 2], [], [5, 4, 4, 0, 1, 2, 3, 4, 5]]) = [0, 1, 2, 3, 4, 5, 6] from rfl]
   obtain ⟨loc, hn1, hn2⟩ := hN
   obtain ⟨hN0, kN0, A7⟩ : f 5 = .pointer (some ⟨loc 5, 0, none⟩) ∧ Wc11.heap.size ≤ loc 5 ∧ Arr .u64 V11 (loc 5) cr6 := hn1 ⟨5, 6, .u64, 4, cr6⟩ (by simp) rfl
   clear hn1 hn2
   generalize loc 5 = N11_0 at *
   simp only [putL, List.getElem?_cons_zero, List.getElem?_cons_succ, Option.join, Option.bind_some, id_eq, Act.put, List.setIfInBounds_toArray, List.set_cons_zero, List.set_cons_succ, d0, d1, d2, d3, d4, hN0]
   clear d0 d1 d2 d3 d4 hN0
   clear A1 A2 A5 A6
   obtain ⟨A1, A2, A5, A6, BV⟩ := hG
   replace BB := below_then BB BV
   clear BV
   have zz11 := BB.size
   go_wp2
   have k12_0 := A1.lt
   have k12_1 := A2.lt
   have k12_2 := A5.lt
   have k12_3 := A6.lt
   have k12_4 := A7.lt
   refine wp_region_new [[], [], [0, 1], [], [3, 2], [2, 4, 4], [5, 5], [6], [7], [7], [], [10, 8, 6, 0, 1, 2, 3, 4, 5, 6, 7, 8, 10], [9, 11, 0, 1, 2, 3, 4, 5, 6, 7, 8, 9, 10, 11]] [some 33, some 34, some 35, some 36, some 37, some 38, some 39, some 32, some 40, some 41, some 8, none, some 9] (V11.heap.size) [⟨10, 11, .u64, 4, rx⟩] (fun w' => Arr .u8 w' (w.heap.size) xb_set31 ∧ Arr .u64 w' (w1.heap.size) (List.replicate 12 0) ∧ Arr .u64 w' (w4.heap.size) cr0 ∧ Arr .u64 w' (w8.heap.size) cr3 ∧ Arr .u64 w' (N11_0) cr6 ∧ Below V11.heap.size V11 w') (fun opn f _ => match opn with | 0 => f 0 = aggI .u64 cr3 | 1 => f 1 = aggI .u64 bu0 | 2 => f 2 = aggI .u64 cr7 | 3 => f 3 = aggI .u64 cr6 | 4 => f 4 = aggI .u64 cr8 | 5 => f 5 = aggI .u64 cr9 | 6 => f 6 = .tuple #[aggI .u64 rx, .bool true] | 7 => f 7 = .tuple #[aggI .u64 rx, .bool true] | 8 => f 8 = aggI .u64 rx | 9 => f 9 = .bool true | 12 => f 12 = .bool true | _ => True) (by kernel_rfl) (by kernel_rfl) (by kernel_rfl) (by kernel_rfl) rfl (by intro it h it' h' e; simp only [List.mem_cons, List.not_mem_nil, or_false] at h h'; rcases h with rfl <;> rcases h' with rfl <;> first | rfl | (simp at e)) (fun v v' hb h => ⟨h.1.below hb, h.2.1.below hb, h.2.2.1.below hb, h.2.2.2.1.below hb, h.2.2.2.2.1.below hb, below_then h.2.2.2.2.2 hb⟩) (fun v h => h.2.2.2.2.2.size) (fun v B cs hB h => ⟨h.1.rowOther (by omega) _, h.2.1.rowOther (by omega) _, h.2.2.1.rowOther (by omega) _, h.2.2.2.1.rowOther (by omega) _, h.2.2.2.2.1.rowOther (by omega) _, Below.setRow h.2.2.2.2.2 (by omega) _⟩) (fun _ _ _ _ h => h) ⟨A1.drew, A2.drew, A5.drew, A6.drew, A7.drew, (Below.refl _ _).drew⟩ ?_ (by intro it h; simp only [List.mem_cons, List.not_mem_nil, or_false] at h; rcases h with rfl <;> exact ⟨by simp, by simp⟩) ?_
   ·
    refine StepN.plain rfl (fun f W hG hH => ?_) ?_
    ·
     clear hH
     generalize hA : putL _ _ _ _ = A
     have q6 : A.eval (.tmp 6) = .pointer (some ⟨w8.heap.size, 0, none⟩) := putLn hA 6 rfl rfl rfl
     clear hA
     exact Does.loadM rfl 36 _ rfl 4 _ und_num rfl info_num (w8.heap.size) (0) q6 .u64 (cr3) (hG.2.2.2.1) (by omega) (sl_all l_cr3) ⟨Below.refl _ _, rfl⟩
    refine StepN.plain rfl (fun f W hG hH => ?_) ?_
    ·
     clear hH
     generalize hA : putL _ _ _ _ = A
     clear hA
     exact Does.buildI rfl 36 _ rfl .u64 (bu0) _ (hbu0) (rfl) ⟨Below.refl _ _, rfl⟩
    refine StepN.plain rfl (fun f W hG hH => ?_) ?_
    ·
     obtain ⟨d0, d1, -⟩ := hH
     generalize hA : putL _ _ _ _ = A
     have q33 := putLl hA 33 d0 rfl rfl
     have r33 := slot_get q33
     have q34 := putLl hA 34 d1 rfl rfl
     have r34 := slot_get q34
     clear hA
     refine Does.call rfl _ _ (by go_simp) ((H7 W).mono ?_)
     rintro e w' ⟨rfl, hb'⟩
     exact ⟨_, rfl, hb', rfl⟩
    refine StepN.plain rfl (fun f W hG hH => ?_) ?_
    ·
     clear hH
     generalize hA : putL _ _ _ _ = A
     have q7 : A.eval (.tmp 7) = .pointer (some ⟨N11_0, 0, none⟩) := putLn hA 7 rfl rfl rfl
     clear hA
     exact Does.loadM rfl 36 _ rfl 4 _ und_num rfl info_num (N11_0) (0) q7 .u64 (cr6) (hG.2.2.2.2.1) (by omega) (sl_all l_cr6) ⟨Below.refl _ _, rfl⟩
    refine StepN.plain rfl (fun f W hG hH => ?_) ?_
    ·
     obtain ⟨d3, d2, -⟩ := hH
     generalize hA : putL _ _ _ _ = A
     have q36 := putLl hA 36 d3 rfl rfl
     have r36 := slot_get q36
     clear hA
     refine Does.call rfl _ _ (by go_simp) ((H8 W).mono ?_)
     rintro e w' ⟨rfl, hb'⟩
     exact ⟨_, rfl, hb', rfl⟩
    refine StepN.plain rfl (fun f W hG hH => ?_) ?_
    ·
     obtain ⟨d2, d4, -, -⟩ := hH
     generalize hA : putL _ _ _ _ = A
     have q35 := putLl hA 35 d2 rfl rfl
     have r35 := slot_get q35
     have q37 := putLl hA 37 d4 rfl rfl
     have r37 := slot_get q37
     clear hA
     refine Does.call rfl _ _ (by go_simp) ((H9 W).mono ?_)
     rintro e w' ⟨rfl, hb'⟩
     exact ⟨_, rfl, hb', rfl⟩
    refine StepN.plain rfl (fun f W hG hH => ?_) ?_
    ·
     obtain ⟨d5, -, -⟩ := hH
     generalize hA : putL _ _ _ _ = A
     have q38 := putLl hA 38 d5 rfl rfl
     have r38 := slot_get q38
     clear hA
     refine Does.call rfl _ _ (by go_simp) ((H10 W).mono ?_)
     rintro e w' ⟨rfl, hb'⟩
     exact ⟨_, rfl, hb', rfl⟩
    refine StepN.plain rfl (fun f W hG hH => ?_) ?_
    ·
     obtain ⟨d6, -⟩ := hH
     generalize hA : putL _ _ _ _ = A
     have q39 := putLl hA 39 d6 rfl rfl
     have r39 := slot_get q39
     clear hA
     refine Does.pure rfl (.tuple #[aggI .u64 rx, .bool true]) ?_ ⟨Below.refl _ _, rfl⟩
     go_simp
    refine StepN.plain rfl (fun f W hG hH => ?_) ?_
    ·
     obtain ⟨d7, -⟩ := hH
     generalize hA : putL _ _ _ _ = A
     have q32 := putLl hA 32 d7 rfl rfl
     have r32 := slot_get q32
     clear hA
     refine Does.pure rfl (aggI .u64 rx) ?_ ⟨Below.refl _ _, rfl⟩
     go_simp
    refine StepN.plain rfl (fun f W hG hH => ?_) ?_
    ·
     obtain ⟨d7, -⟩ := hH
     generalize hA : putL _ _ _ _ = A
     have q32 := putLl hA 32 d7 rfl rfl
     have r32 := slot_get q32
     clear hA
     refine Does.pure rfl (.bool true) ?_ ⟨Below.refl _ _, rfl⟩
     go_simp
    refine StepN.alloc rfl (fun _ _ => trivial) (fun A W => ?_) ?_
    ·
     refine Does.allocI rfl 36 rfl .u64 4 zero_num ?_
     intro W1 D1 s1 b1'
     exact ⟨b1', rfl, D1⟩
    refine StepN.store rfl (fun _ _ => trivial) (fun f W B hG hH hB hZ => ?_) ?_
    ·
     obtain ⟨-, d8, d6, d0, d1, d2, d3, d4, d5, -, d7, -, -, -⟩ := hH
     generalize hA : putL _ _ _ _ = A
     have q8 : A.eval (.tmp 8) = f 10 := putLl hA 8 rfl rfl rfl
     have r8 := slot_get q8
     have q40 := putLl hA 40 d8 rfl rfl
     have r40 := slot_get q40
     clear hA
     have hB : f 10 = .pointer (some ⟨B, 0, none⟩) := hB
     rw [hB] at q8
     refine Does.storeI rfl 36 _ _ rfl 4 info_num B q8 .u64 _ (rx) q40 hZ (by rfl) (l_rx) ?_
     intro A9
     exact ⟨rfl, A9⟩
    refine StepN.plain rfl (fun f W hG hH => ?_) ?_
    ·
     obtain ⟨d9, -, d0, d1, d2, d3, d4, d5, d6, d7, d8, -, -, -, -⟩ := hH
     generalize hA : putL _ _ _ _ = A
     have q41 := putLl hA 41 d9 rfl rfl
     have r41 := slot_get q41
     clear hA
     refine Does.pure rfl (.bool true) ?_ ⟨Below.refl _ _, rfl⟩
     go_simp
    exact trivial
   ·
    intro f V12 hG hH hN
    obtain ⟨d0, d1, d2, d3, d4, d5, d6, d7, d8, d9, -, -, d12, -⟩ : (f 0 = aggI .u64 cr3) ∧ (f 1 = aggI .u64 bu0) ∧ (f 2 = aggI .u64 cr7) ∧ (f 3 = aggI .u64 cr6) ∧ (f 4 = aggI .u64 cr8) ∧ (f 5 = aggI .u64 cr9) ∧ (f 6 = .tuple #[aggI .u64 rx, .bool true]) ∧ (f 7 = .tuple #[aggI .u64 rx, .bool true]) ∧ (f 8 = aggI .u64 rx) ∧ (f 9 = .bool true) ∧ (True) ∧ (True) ∧ (f 12 = .bool true) ∧ True := hH
    rw [show List.range (List.length [[], [], [0, 1], [], [3, 2], [2, 4, 4], [5, 5], [6], [7], [7], [], [10, 8, 6, 0, 1, 2, 3, 4, 5, 6, 7, 8, 10], [9, 11, 0, 1, 2, 3, 4, 5, 6, 7, 8, 9, 10, 11]]) = [0, 1, 2, 3, 4, 5, 6, 7, 8, 9, 10, 11, 12] from rfl]
    obtain ⟨loc, hn1, hn2⟩ := hN
    obtain ⟨hN0, kN0, A8⟩ : f 10 = .pointer (some ⟨loc 10, 0, none⟩) ∧ V11.heap.size ≤ loc 10 ∧ Arr .u64 V12 (loc 10) rx := hn1 ⟨10, 11, .u64, 4, rx⟩ (by simp) rfl
    clear hn1 hn2
    generalize loc 10 = N12_0 at *
    simp only [putL, List.getElem?_cons_zero, List.getElem?_cons_succ, Option.join, Option.bind_some, id_eq, Act.put, List.setIfInBounds_toArray, List.set_cons_zero, List.set_cons_succ, d0, d1, d2, d3, d4, d5, d6, d7, d8, d9, d12, hN0]
    clear d0 d1 d2 d3 d4 d5 d6 d7 d8 d9 d12 hN0
    clear A1 A2 A5 A6 A7
    obtain ⟨A1, A2, A5, A6, A7, BV⟩ := hG
    replace BB := below_then BB BV
    clear BV
    have zz12 := BB.size
    go_wp2_with (first
      | (with_reducible refine at_n 47 ?_; refine wpList_val' (fun R hR => Does.loadM rfl 36 _ rfl 4 _ und_num rfl info_num (N12_0) 0 rfl .u64 (rx) (A8) (by omega) (sl_all l_rx) hR) ?_)
      | (with_reducible refine at_n 48 ?_; go_loud (refine wpList_val' (fun R hR => Does.buildI rfl 36 _ rfl .u64 (bu1) _ (hbu1) rfl hR) ?_))
      | (with_reducible refine at_n 49 ?_; refine wpList_val' (fun R hR => Does.eqlI rfl 36 _ 34 _ _ rfl 4 und_num .u64 .u64 Tryd.underlying34 (by kernel_rfl) (by kernel_rfl) (rx) (bu1) rfl rfl (l_rx) (l_bu1) false (by rw [show decide (rx = bu1) = false from he_rx_bu1]) hR) ?_)
      | (with_reducible refine at_n 54 ?_; go_loud (refine wpList_val' (fun R hR => Does.buildI rfl 36 _ rfl .u64 (bu1) _ (hbu1) rfl hR) ?_))
      | (with_reducible refine at_n 55 ?_; refine wpList_val' (fun R hR => Does.loadM rfl 36 _ rfl 4 _ und_num rfl info_num (N12_0) 0 rfl .u64 (rx) (A8) (by omega) (sl_all l_rx) hR) ?_)
      | (with_reducible refine at_op (o := ⟨_, .store 36 (.tmp 8) _, _, _, _, _⟩) ?_; refine wpList_storeI rfl 36 _ _ rfl 4 info_num (N12_0) rfl .u64 _ (cr11) rfl (A8) (l_rx) (l_cr11) ?_; intro D14; replace A1 := A1.rowOther (B' := N12_0) (by omega) ((cr11).map (Value.int .u64)).toArray; replace A2 := A2.rowOther (B' := N12_0) (by omega) ((cr11).map (Value.int .u64)).toArray; replace A5 := A5.rowOther (B' := N12_0) (by omega) ((cr11).map (Value.int .u64)).toArray; replace A6 := A6.rowOther (B' := N12_0) (by omega) ((cr11).map (Value.int .u64)).toArray; replace A7 := A7.rowOther (B' := N12_0) (by omega) ((cr11).map (Value.int .u64)).toArray; replace BB := Below.setRow BB (g := N12_0) (by omega) ((cr11).map (Value.int .u64)).toArray; clear A8; have A8 := D14)
      | (with_reducible refine at_n 57 ?_; refine wpList_val' (fun R hR => Does.loadM rfl 36 _ rfl 4 _ und_num rfl info_num (N12_0) 0 rfl .u64 (cr11) (A8) (by omega) (sl_all l_cr11) hR) ?_)
      | (with_reducible refine at_n 58 ?_; refine wpList_val' (fun R hR => Does.loadM rfl 36 _ rfl 4 _ und_num rfl info_num (w4.heap.size) 0 rfl .u64 (cr0) (A5) (by omega) (sl_all l_cr0) hR) ?_)
      | (with_reducible refine at_n 59 ?_; go_loud (refine wpList_val' (fun R hR => Does.buildI rfl 36 _ rfl .u64 (bu0) _ (hbu0) rfl hR) ?_))
      | (with_reducible refine at_n 60 ?_; go_loud (refine wpList_val' (fun R hR => Does.buildI rfl 50 _ rfl .u64 (bu2) _ (hbu2) rfl hR) ?_))
      | (with_reducible refine at_op (o := ⟨_, .store 50 (.tmp 2) _, _, _, _, _⟩) ?_; refine wpList_storeI rfl 50 _ _ rfl 12 info_pnt (w1.heap.size) rfl .u64 _ (bu2) rfl (A2) (rfl) (l_bu2) ?_; intro D15; replace A1 := A1.rowOther (B' := w1.heap.size) (by omega) ((bu2).map (Value.int .u64)).toArray; replace A5 := A5.rowOther (B' := w1.heap.size) (by omega) ((bu2).map (Value.int .u64)).toArray; replace A6 := A6.rowOther (B' := w1.heap.size) (by omega) ((bu2).map (Value.int .u64)).toArray; replace A7 := A7.rowOther (B' := w1.heap.size) (by omega) ((bu2).map (Value.int .u64)).toArray; replace A8 := A8.rowOther (B' := w1.heap.size) (by omega) ((bu2).map (Value.int .u64)).toArray; replace BB := Below.setRow BB (g := w1.heap.size) (by omega) ((bu2).map (Value.int .u64)).toArray; clear A2; have A2 := D15)
      | (go_at_call 35; first | ((with_reducible refine (H11 _).mono ?_); rintro e w13 ⟨rfl, b13⟩; replace A1 := A1.below b13; replace A2 := A2.below b13; replace A5 := A5.below b13; replace A6 := A6.below b13; replace A7 := A7.below b13; replace A8 := A8.below b13; replace BB := below_then BB b13; have z13 := BB.size)))
    refine bodyPost_ret (results_cell_tmpM rfl _ 12 _ Tryd.underlying50 rfl info_pnt (w1.heap.size) rfl .u64 _ A2 (l_bu2)) rfl ?_
    exact ⟨rfl, BB⟩
set_option maxHeartbeats 2000000 in
theorem read_f (xb xb_set31 cr0 cr1 cr3 cr4 cr5 bu0 cr6 cr7 cr8 cr9 rx bu1 : List Int) (xb_at31 yb : Int) (w : World) (l_xb : xb.length = 32) (l_xb_set31 : xb_set31.length = 32) (l_cr0 : cr0.length = 4) (l_cr1 : cr1.length = 4) (l_cr3 : cr3.length = 4) (l_cr4 : cr4.length = 4) (l_cr5 : cr5.length = 4) (l_bu0 : bu0.length = 4) (l_cr6 : cr6.length = 4) (l_cr7 : cr7.length = 4) (l_cr8 : cr8.length = 4) (l_cr9 : cr9.length = 4) (l_rx : rx.length = 4) (l_bu1 : bu1.length = 12)
  (h_xb_at31 : at0 xb 31 = xb_at31)
  (h_xb_set31 : List.set xb 31 (yb) = xb_set31)
  (hge : ¬ 128 ≤ xb_at31)
  (hlow : Int.tmod xb_at31 128 = yb)
  (hbu0 : Tryd.prog.built 36 [(0, .int .u64 1)] = some (bu0.map (Value.int .u64)).toArray)
  (hbu1 : Tryd.prog.built 50 [(0, aggI .u64 rx), (1, aggI .u64 cr0), (2, aggI .u64 bu0)] = some (bu1.map (Value.int .u64)).toArray)
  (he_rx_bu1 : decide (rx = bu1) = false)
  (H0 : ∀ W, Ret 54 #[aggI .u8 xb_set31] (aggI .u64 cr0) W)
  (H1 : ∀ W, Ret 56 #[] (aggI .u64 cr1) W)
  (H2 : ∀ W, Ret 55 #[aggI .u64 cr0, aggI .u64 cr1] (.bool true) W)
  (H3 : ∀ W, Ret 57 #[aggI .u64 cr0, aggI .u64 cr0] (aggI .u64 cr3) W)
  (H4 : ∀ W, Ret 59 #[] (aggI .u64 cr4) W)
  (H5 : ∀ W, Ret 57 #[aggI .u64 cr4, aggI .u64 cr3] (aggI .u64 cr5) W)
  (H6 : ∀ W, Ret 58 #[aggI .u64 cr5, aggI .u64 bu0] (aggI .u64 cr6) W)
  (H7 : ∀ W, Ret 35 #[aggI .u64 cr3, aggI .u64 bu0] (aggI .u64 cr7) W)
  (H8 : ∀ W, Ret 61 #[aggI .u64 cr6] (aggI .u64 cr8) W)
  (H9 : ∀ W, Ret 57 #[aggI .u64 cr7, aggI .u64 cr8] (aggI .u64 cr9) W)
  (H10 : ∀ W, Ret 60 #[aggI .u64 cr9] (.tuple #[aggI .u64 rx, .bool true]) W) :
  Calls Tryd.prog 29 #[aggI .u8 xb] w fun e w' => e = .returned (.tuple #[aggI .u64 bu1, .bool true]) ∧ Below w.heap.size w w' := by
 go_enter Tryd.func29, Tryd.ntmps29
 go_wp2_with (first
   | (with_reducible refine at_n 1 ?_; refine wpList_boxI rfl 22 _ rfl .u8 xb rfl ?_; intro w1 A1 s1 b1; have BB := b1; have y1 := BB.size)
   | (with_reducible refine at_n 2 ?_; refine wpList_allocI rfl 50 rfl .u64 12 zero_pnt ?_; intro w2 A2 s2 b2; have q2_1 := A1.lt; replace A1 := A1.below b2; replace BB := below_then BB b2; have y2 := BB.size)
   | (with_reducible refine at_n 11 ?_; refine wpList_val' (fun R hR => Does.loadC rfl 5 _ rfl _ Tryd.underlying5 rfl (w.heap.size) 31 rfl .u8 (xb) (A1) (by rw [l_xb]; decide) (h_xb_at31) hR) ?_)
   | (with_reducible refine at_n 14 ?_; refine wpList_val' (fun R hR => Does.loadC rfl 5 _ rfl _ Tryd.underlying5 rfl (w.heap.size) 31 rfl .u8 (xb) (A1) (by rw [l_xb]; decide) (h_xb_at31) hR) ?_)
   | (with_reducible refine at_op (o := ⟨_, .store 5 (.tmp 16) _, _, _, _, _⟩) ?_; refine wpList_storeC rfl 5 _ _ rfl (by kernel_rfl) (w.heap.size) 31 rfl .u8 _ rfl (xb) xb_set31 (A1) (by rw [l_xb]; decide) (by first | exact h_xb_set31 | (simp only [hge, hlow]; exact h_xb_set31)) ?_; intro w3 D3 O3 L3; replace A2 := O3 _ _ _ (by omega) A2; replace BB := L3 _ _ BB (by omega); have z3 := BB.size; clear O3 L3 A1; have A1 := D3)
   | (with_reducible refine at_n 17 ?_; refine wpList_val' (fun R hR => Does.loadM rfl 22 _ rfl 32 _ und_a32 rfl info_a32 (w.heap.size) 0 rfl .u8 (xb_set31) (A1) (by omega) (sl_all l_xb_set31) hR) ?_)
   | (with_reducible refine at_n 5 ?_; refine wpList_allocI rfl 36 rfl .u64 4 zero_num ?_; intro w5 A5 s5 b5; have q5_1 := A1.lt; have q5_2 := A2.lt; replace A1 := A1.below b5; replace A2 := A2.below b5; replace BB := below_then BB b5; have y5 := BB.size)
   | (with_reducible refine at_op (o := ⟨_, .store 36 (.tmp 5) _, _, _, _, _⟩) ?_; refine wpList_storeI rfl 36 _ _ rfl 4 info_num (w4.heap.size) rfl .u64 _ (cr0) rfl (A5) (rfl) (l_cr0) ?_; intro D6; replace A1 := A1.rowOther (B' := w4.heap.size) (by omega) ((cr0).map (Value.int .u64)).toArray; replace A2 := A2.rowOther (B' := w4.heap.size) (by omega) ((cr0).map (Value.int .u64)).toArray; replace BB := Below.setRow BB (g := w4.heap.size) (by omega) ((cr0).map (Value.int .u64)).toArray; clear A5; have A5 := D6)
   | (go_at_call 54; first | ((with_reducible refine (H0 _).mono ?_); rintro e w4 ⟨rfl, b4⟩; replace A1 := A1.below b4; replace A2 := A2.below b4; replace BB := below_then BB b4; have z4 := BB.size)))
 refine wp_world fun Wc7 hWc => ?_
 rw [← hWc] at BB A1 A2 A5
 clear hWc
 have k7_0 := A1.lt
 have k7_1 := A2.lt
 have k7_2 := A5.lt
 refine wp_region_ord [[], [], [0, 1, 1], [2]] [some 19, some 20, some 21, some 22] 4 (fun b w' => Arr .u8 w' (w.heap.size) xb_set31 ∧ Arr .u64 w' (w1.heap.size) (List.replicate 12 0) ∧ Arr .u64 w' (w4.heap.size) cr0 ∧ Below w.heap.size w w') (fun opn f _ => match opn with | 0 => f 0 = aggI .u64 cr0 | 1 => f 1 = aggI .u64 cr1 | 2 => f 2 = .bool true | 3 => f 3 = .bool false | _ => True) (fun _ _ _ => True) (by kernel_rfl) (by kernel_rfl) (by kernel_rfl) (by kernel_rfl) (fun b v v' hb h => ⟨h.1.below hb, h.2.1.below hb, h.2.2.1.below hb, below_then h.2.2.2 hb⟩) (fun _ _ _ _ _ h => h) (fun _ _ _ _ _ _ _ h => h) ⟨A1.drew, A2.drew, A5.drew, BB.drew⟩ ?_ ?_
 ·
  refine StepL.other (k := 0) rfl (fun b f W hb hG hH => ?_) ?_
  ·
   clear hH
   generalize hA : putL _ _ _ _ = A
   have q5 : A.eval (.tmp 5) = .pointer (some ⟨w4.heap.size, 0, none⟩) := putLn hA 5 rfl rfl rfl
   clear hA
   exact Does.loadM rfl 36 _ rfl 4 _ und_num rfl info_num (w4.heap.size) (0) q5 .u64 (cr0) (hG.2.2.1) (by omega) (sl_all l_cr0) ⟨Below.refl _ _, rfl⟩
  refine StepL.other (k := 1) rfl (fun b f W hb hG hH => ?_) ?_
  ·
   clear hH
   generalize hA : putL _ _ _ _ = A
   clear hA
   refine Does.call rfl _ _ (by go_simp) ((H1 W).mono ?_)
   rintro e w' ⟨rfl, hb'⟩
   exact ⟨_, rfl, hb', rfl⟩
  refine StepL.other (k := 2) rfl (fun b f W hb hG hH => ?_) ?_
  ·
   obtain ⟨d0, d1, -, -⟩ := hH
   generalize hA : putL _ _ _ _ = A
   have q19 := putLl hA 19 d0 rfl rfl
   have r19 := slot_get q19
   have q20 := putLl hA 20 d1 rfl rfl
   have r20 := slot_get q20
   clear hA
   refine Does.call rfl _ _ (by go_simp) ((H2 W).mono ?_)
   rintro e w' ⟨rfl, hb'⟩
   exact ⟨_, rfl, hb', rfl⟩
  refine StepL.other (k := 3) rfl (fun b f W hb hG hH => ?_) ?_
  ·
   obtain ⟨d2, -⟩ := hH
   generalize hA : putL _ _ _ _ = A
   have q21 := putLl hA 21 d2 rfl rfl
   have r21 := slot_get q21
   clear hA
   refine Does.pure rfl (.bool false) ?_ ⟨Below.refl _ _, rfl⟩
   go_simp
  exact trivial
 ·
  intro f V7 hG hH
  obtain ⟨d0, d1, d2, d3, -⟩ : (f 0 = aggI .u64 cr0) ∧ (f 1 = aggI .u64 cr1) ∧ (f 2 = .bool true) ∧ (f 3 = .bool false) ∧ True := hH
  rw [show List.range (List.length [[], [], [0, 1, 1], [2]]) = [0, 1, 2, 3] from rfl]
  simp only [putL, List.getElem?_cons_zero, List.getElem?_cons_succ, Option.join, Option.bind_some, id_eq, Act.put, List.setIfInBounds_toArray, List.set_cons_zero, List.set_cons_succ, d0, d1, d2, d3]
  clear d0 d1 d2 d3
  clear A1 A2 A5
  obtain ⟨A1, A2, A5, BV⟩ := hG
  clear BB
  have BB := BV
  clear BV
  have zz7 := BB.size
  go_wp2_with (first
    | (with_reducible refine at_n 24 ?_; refine wpList_val' (fun R hR => Does.loadM rfl 36 _ rfl 4 _ und_num rfl info_num (w4.heap.size) 0 rfl .u64 (cr0) (A5) (by omega) (sl_all l_cr0) hR) ?_)
    | (with_reducible refine at_n 25 ?_; refine wpList_val' (fun R hR => Does.loadM rfl 36 _ rfl 4 _ und_num rfl info_num (w4.heap.size) 0 rfl .u64 (cr0) (A5) (by omega) (sl_all l_cr0) hR) ?_)
    | (with_reducible refine at_n 6 ?_; refine wpList_allocI rfl 36 rfl .u64 4 zero_num ?_; intro w9 A6 s9 b9; have q9_1 := A1.lt; have q9_2 := A2.lt; have q9_5 := A5.lt; replace A1 := A1.below b9; replace A2 := A2.below b9; replace A5 := A5.below b9; replace BB := below_then BB b9; have y9 := BB.size)
    | (with_reducible refine at_op (o := ⟨_, .store 36 (.tmp 6) _, _, _, _, _⟩) ?_; refine wpList_storeI rfl 36 _ _ rfl 4 info_num (w8.heap.size) rfl .u64 _ (cr3) rfl (A6) (rfl) (l_cr3) ?_; intro D10; replace A1 := A1.rowOther (B' := w8.heap.size) (by omega) ((cr3).map (Value.int .u64)).toArray; replace A2 := A2.rowOther (B' := w8.heap.size) (by omega) ((cr3).map (Value.int .u64)).toArray; replace A5 := A5.rowOther (B' := w8.heap.size) (by omega) ((cr3).map (Value.int .u64)).toArray; replace BB := Below.setRow BB (g := w8.heap.size) (by omega) ((cr3).map (Value.int .u64)).toArray; clear A6; have A6 := D10)
    | (go_at_call 57; first | ((with_reducible refine (H3 _).mono ?_); rintro e w8 ⟨rfl, b8⟩; replace A1 := A1.below b8; replace A2 := A2.below b8; replace A5 := A5.below b8; replace BB := below_then BB b8; have z8 := BB.size)))
  refine wp_world fun Wc11 hWc => ?_
  rw [← hWc] at BB A1 A2 A5 A6
  clear hWc
  have k11_0 := A1.lt
  have k11_1 := A2.lt
  have k11_2 := A5.lt
  have k11_3 := A6.lt
  refine wp_region_new [[], [], [0, 1, 0], [], [2, 3, 2], [], [5, 4, 4, 0, 1, 2, 3, 4, 5]] [some 27, some 28, some 29, some 30, some 31, some 7, none] (Wc11.heap.size) [⟨5, 6, .u64, 4, cr6⟩] (fun w' => Arr .u8 w' (w.heap.size) xb_set31 ∧ Arr .u64 w' (w1.heap.size) (List.replicate 12 0) ∧ Arr .u64 w' (w4.heap.size) cr0 ∧ Arr .u64 w' (w8.heap.size) cr3 ∧ Below Wc11.heap.size Wc11 w') (fun opn f _ => match opn with | 0 => f 0 = aggI .u64 cr4 | 1 => f 1 = aggI .u64 cr3 | 2 => f 2 = aggI .u64 cr5 | 3 => f 3 = aggI .u64 bu0 | 4 => f 4 = aggI .u64 cr6 | _ => True) (by kernel_rfl) (by kernel_rfl) (by kernel_rfl) (by kernel_rfl) rfl (by intro it h it' h' e; simp only [List.mem_cons, List.not_mem_nil, or_false] at h h'; rcases h with rfl <;> rcases h' with rfl <;> first | rfl | (simp at e)) (fun v v' hb h => ⟨h.1.below hb, h.2.1.below hb, h.2.2.1.below hb, h.2.2.2.1.below hb, below_then h.2.2.2.2 hb⟩) (fun v h => h.2.2.2.2.size) (fun v B cs hB h => ⟨h.1.rowOther (by omega) _, h.2.1.rowOther (by omega) _, h.2.2.1.rowOther (by omega) _, h.2.2.2.1.rowOther (by omega) _, Below.setRow h.2.2.2.2 (by omega) _⟩) (fun _ _ _ _ h => h) ⟨A1.drew, A2.drew, A5.drew, A6.drew, (Below.refl _ _).drew⟩ ?_ (by intro it h; simp only [List.mem_cons, List.not_mem_nil, or_false] at h; rcases h with rfl <;> exact ⟨by simp, by simp⟩) ?_
  ·
   refine StepN.plain rfl (fun f W hG hH => ?_) ?_
   ·
    clear hH
    generalize hA : putL _ _ _ _ = A
    clear hA
    refine Does.call rfl _ _ (by go_simp) ((H4 W).mono ?_)
    rintro e w' ⟨rfl, hb'⟩
    exact ⟨_, rfl, hb', rfl⟩
   refine StepN.plain rfl (fun f W hG hH => ?_) ?_
   ·
    clear hH
    generalize hA : putL _ _ _ _ = A
    have q6 : A.eval (.tmp 6) = .pointer (some ⟨w8.heap.size, 0, none⟩) := putLn hA 6 rfl rfl rfl
    clear hA
    exact Does.loadM rfl 36 _ rfl 4 _ und_num rfl info_num (w8.heap.size) (0) q6 .u64 (cr3) (hG.2.2.2.1) (by omega) (sl_all l_cr3) ⟨Below.refl _ _, rfl⟩
   refine StepN.plain rfl (fun f W hG hH => ?_) ?_
   ·
    obtain ⟨d0, d1, -, -⟩ := hH
    generalize hA : putL _ _ _ _ = A
    have q27 := putLl hA 27 d0 rfl rfl
    have r27 := slot_get q27
    have q28 := putLl hA 28 d1 rfl rfl
    have r28 := slot_get q28
    clear hA
    refine Does.call rfl _ _ (by go_simp) ((H5 W).mono ?_)
    rintro e w' ⟨rfl, hb'⟩
    exact ⟨_, rfl, hb', rfl⟩
   refine StepN.plain rfl (fun f W hG hH => ?_) ?_
   ·
    clear hH
    generalize hA : putL _ _ _ _ = A
    clear hA
    exact Does.buildI rfl 36 _ rfl .u64 (bu0) _ (hbu0) (rfl) ⟨Below.refl _ _, rfl⟩
   refine StepN.plain rfl (fun f W hG hH => ?_) ?_
   ·
    obtain ⟨d2, d3, -, -⟩ := hH
    generalize hA : putL _ _ _ _ = A
    have q29 := putLl hA 29 d2 rfl rfl
    have r29 := slot_get q29
    have q30 := putLl hA 30 d3 rfl rfl
    have r30 := slot_get q30
    clear hA
    refine Does.call rfl _ _ (by go_simp) ((H6 W).mono ?_)
    rintro e w' ⟨rfl, hb'⟩
    exact ⟨_, rfl, hb', rfl⟩
   refine StepN.alloc rfl (fun _ _ => trivial) (fun A W => ?_) ?_
   ·
    refine Does.allocI rfl 36 rfl .u64 4 zero_num ?_
    intro W1 D1 s1 b1'
    exact ⟨b1', rfl, D1⟩
   refine StepN.store rfl (fun _ _ => trivial) (fun f W B hG hH hB hZ => ?_) ?_
   ·
    obtain ⟨-, d4, -, d0, d1, d2, d3, -, -, -⟩ := hH
    generalize hA : putL _ _ _ _ = A
    have q7 : A.eval (.tmp 7) = f 5 := putLl hA 7 rfl rfl rfl
    have r7 := slot_get q7
    have q31 := putLl hA 31 d4 rfl rfl
    have r31 := slot_get q31
    clear hA
    have hB : f 5 = .pointer (some ⟨B, 0, none⟩) := hB
    rw [hB] at q7
    refine Does.storeI rfl 36 _ _ rfl 4 info_num B q7 .u64 _ (cr6) q31 hZ (by rfl) (l_cr6) ?_
    intro A9
    exact ⟨rfl, A9⟩
   exact trivial
  ·
   intro f V11 hG hH hN
   obtain ⟨d0, d1, d2, d3, d4, -, -, -⟩ : (f 0 = aggI .u64 cr4) ∧ (f 1 = aggI .u64 cr3) ∧ (f 2 = aggI .u64 cr5) ∧ (f 3 = aggI .u64 bu0) ∧ (f 4 = aggI .u64 cr6) ∧ (True) ∧ (True) ∧ True := hH
   rw [show List.range (List.length [[], [], [0, 1, 0], [], [2, 3, 2], [], [5, 4, 4, 0, 1, 2, 3, 4, 5]]) = [0, 1, 2, 3, 4, 5, 6] from rfl]
   obtain ⟨loc, hn1, hn2⟩ := hN
   obtain ⟨hN0, kN0, A7⟩ : f 5 = .pointer (some ⟨loc 5, 0, none⟩) ∧ Wc11.heap.size ≤ loc 5 ∧ Arr .u64 V11 (loc 5) cr6 := hn1 ⟨5, 6, .u64, 4, cr6⟩ (by simp) rfl
   clear hn1 hn2
   generalize loc 5 = N11_0 at *
   simp only [putL, List.getElem?_cons_zero, List.getElem?_cons_succ, Option.join, Option.bind_some, id_eq, Act.put, List.setIfInBounds_toArray, List.set_cons_zero, List.set_cons_succ, d0, d1, d2, d3, d4, hN0]
   clear d0 d1 d2 d3 d4 hN0
   clear A1 A2 A5 A6
   obtain ⟨A1, A2, A5, A6, BV⟩ := hG
   replace BB := below_then BB BV
   clear BV
   have zz11 := BB.size
   go_wp2
   have k12_0 := A1.lt
   have k12_1 := A2.lt
   have k12_2 := A5.lt
   have k12_3 := A6.lt
   have k12_4 := A7.lt
   refine wp_region_new [[], [], [0, 1], [], [3, 2], [2, 4, 4], [5, 5], [6], [7], [7], [], [10, 8, 6, 0, 1, 2, 3, 4, 5, 6, 7, 8, 10], [9, 11, 0, 1, 2, 3, 4, 5, 6, 7, 8, 9, 10, 11]] [some 33, some 34, some 35, some 36, some 37, some 38, some 39, some 32, some 40, some 41, some 8, none, some 9] (V11.heap.size) [⟨10, 11, .u64, 4, rx⟩] (fun w' => Arr .u8 w' (w.heap.size) xb_set31 ∧ Arr .u64 w' (w1.heap.size) (List.replicate 12 0) ∧ Arr .u64 w' (w4.heap.size) cr0 ∧ Arr .u64 w' (w8.heap.size) cr3 ∧ Arr .u64 w' (N11_0) cr6 ∧ Below V11.heap.size V11 w') (fun opn f _ => match opn with | 0 => f 0 = aggI .u64 cr3 | 1 => f 1 = aggI .u64 bu0 | 2 => f 2 = aggI .u64 cr7 | 3 => f 3 = aggI .u64 cr6 | 4 => f 4 = aggI .u64 cr8 | 5 => f 5 = aggI .u64 cr9 | 6 => f 6 = .tuple #[aggI .u64 rx, .bool true] | 7 => f 7 = .tuple #[aggI .u64 rx, .bool true] | 8 => f 8 = aggI .u64 rx | 9 => f 9 = .bool true | 12 => f 12 = .bool true | _ => True) (by kernel_rfl) (by kernel_rfl) (by kernel_rfl) (by kernel_rfl) rfl (by intro it h it' h' e; simp only [List.mem_cons, List.not_mem_nil, or_false] at h h'; rcases h with rfl <;> rcases h' with rfl <;> first | rfl | (simp at e)) (fun v v' hb h => ⟨h.1.below hb, h.2.1.below hb, h.2.2.1.below hb, h.2.2.2.1.below hb, h.2.2.2.2.1.below hb, below_then h.2.2.2.2.2 hb⟩) (fun v h => h.2.2.2.2.2.size) (fun v B cs hB h => ⟨h.1.rowOther (by omega) _, h.2.1.rowOther (by omega) _, h.2.2.1.rowOther (by omega) _, h.2.2.2.1.rowOther (by omega) _, h.2.2.2.2.1.rowOther (by omega) _, Below.setRow h.2.2.2.2.2 (by omega) _⟩) (fun _ _ _ _ h => h) ⟨A1.drew, A2.drew, A5.drew, A6.drew, A7.drew, (Below.refl _ _).drew⟩ ?_ (by intro it h; simp only [List.mem_cons, List.not_mem_nil, or_false] at h; rcases h with rfl <;> exact ⟨by simp, by simp⟩) ?_
   ·
    refine StepN.plain rfl (fun f W hG hH => ?_) ?_
    ·
     clear hH
     generalize hA : putL _ _ _ _ = A
     have q6 : A.eval (.tmp 6) = .pointer (some ⟨w8.heap.size, 0, none⟩) := putLn hA 6 rfl rfl rfl
     clear hA
     exact Does.loadM rfl 36 _ rfl 4 _ und_num rfl info_num (w8.heap.size) (0) q6 .u64 (cr3) (hG.2.2.2.1) (by omega) (sl_all l_cr3) ⟨Below.refl _ _, rfl⟩
    refine StepN.plain rfl (fun f W hG hH => ?_) ?_
    ·
     clear hH
     generalize hA : putL _ _ _ _ = A
     clear hA
     exact Does.buildI rfl 36 _ rfl .u64 (bu0) _ (hbu0) (rfl) ⟨Below.refl _ _, rfl⟩
    refine StepN.plain rfl (fun f W hG hH => ?_) ?_
    ·
     obtain ⟨d0, d1, -⟩ := hH
     generalize hA : putL _ _ _ _ = A
     have q33 := putLl hA 33 d0 rfl rfl
     have r33 := slot_get q33
     have q34 := putLl hA 34 d1 rfl rfl
     have r34 := slot_get q34
     clear hA
     refine Does.call rfl _ _ (by go_simp) ((H7 W).mono ?_)
     rintro e w' ⟨rfl, hb'⟩
     exact ⟨_, rfl, hb', rfl⟩
    refine StepN.plain rfl (fun f W hG hH => ?_) ?_
    ·
     clear hH
     generalize hA : putL _ _ _ _ = A
     have q7 : A.eval (.tmp 7) = .pointer (some ⟨N11_0, 0, none⟩) := putLn hA 7 rfl rfl rfl
     clear hA
     exact Does.loadM rfl 36 _ rfl 4 _ und_num rfl info_num (N11_0) (0) q7 .u64 (cr6) (hG.2.2.2.2.1) (by omega) (sl_all l_cr6) ⟨Below.refl _ _, rfl⟩
    refine StepN.plain rfl (fun f W hG hH => ?_) ?_
    ·
     obtain ⟨d3, d2, -⟩ := hH
     generalize hA : putL _ _ _ _ = A
     have q36 := putLl hA 36 d3 rfl rfl
     have r36 := slot_get q36
     clear hA
     refine Does.call rfl _ _ (by go_simp) ((H8 W).mono ?_)
     rintro e w' ⟨rfl, hb'⟩
     exact ⟨_, rfl, hb', rfl⟩
    refine StepN.plain rfl (fun f W hG hH => ?_) ?_
    ·
     obtain ⟨d2, d4, -, -⟩ := hH
     generalize hA : putL _ _ _ _ = A
     have q35 := putLl hA 35 d2 rfl rfl
     have r35 := slot_get q35
     have q37 := putLl hA 37 d4 rfl rfl
     have r37 := slot_get q37
     clear hA
     refine Does.call rfl _ _ (by go_simp) ((H9 W).mono ?_)
     rintro e w' ⟨rfl, hb'⟩
     exact ⟨_, rfl, hb', rfl⟩
    refine StepN.plain rfl (fun f W hG hH => ?_) ?_
    ·
     obtain ⟨d5, -, -⟩ := hH
     generalize hA : putL _ _ _ _ = A
     have q38 := putLl hA 38 d5 rfl rfl
     have r38 := slot_get q38
     clear hA
     refine Does.call rfl _ _ (by go_simp) ((H10 W).mono ?_)
     rintro e w' ⟨rfl, hb'⟩
     exact ⟨_, rfl, hb', rfl⟩
    refine StepN.plain rfl (fun f W hG hH => ?_) ?_
    ·
     obtain ⟨d6, -⟩ := hH
     generalize hA : putL _ _ _ _ = A
     have q39 := putLl hA 39 d6 rfl rfl
     have r39 := slot_get q39
     clear hA
     refine Does.pure rfl (.tuple #[aggI .u64 rx, .bool true]) ?_ ⟨Below.refl _ _, rfl⟩
     go_simp
    refine StepN.plain rfl (fun f W hG hH => ?_) ?_
    ·
     obtain ⟨d7, -⟩ := hH
     generalize hA : putL _ _ _ _ = A
     have q32 := putLl hA 32 d7 rfl rfl
     have r32 := slot_get q32
     clear hA
     refine Does.pure rfl (aggI .u64 rx) ?_ ⟨Below.refl _ _, rfl⟩
     go_simp
    refine StepN.plain rfl (fun f W hG hH => ?_) ?_
    ·
     obtain ⟨d7, -⟩ := hH
     generalize hA : putL _ _ _ _ = A
     have q32 := putLl hA 32 d7 rfl rfl
     have r32 := slot_get q32
     clear hA
     refine Does.pure rfl (.bool true) ?_ ⟨Below.refl _ _, rfl⟩
     go_simp
    refine StepN.alloc rfl (fun _ _ => trivial) (fun A W => ?_) ?_
    ·
     refine Does.allocI rfl 36 rfl .u64 4 zero_num ?_
     intro W1 D1 s1 b1'
     exact ⟨b1', rfl, D1⟩
    refine StepN.store rfl (fun _ _ => trivial) (fun f W B hG hH hB hZ => ?_) ?_
    ·
     obtain ⟨-, d8, d6, d0, d1, d2, d3, d4, d5, -, d7, -, -, -⟩ := hH
     generalize hA : putL _ _ _ _ = A
     have q8 : A.eval (.tmp 8) = f 10 := putLl hA 8 rfl rfl rfl
     have r8 := slot_get q8
     have q40 := putLl hA 40 d8 rfl rfl
     have r40 := slot_get q40
     clear hA
     have hB : f 10 = .pointer (some ⟨B, 0, none⟩) := hB
     rw [hB] at q8
     refine Does.storeI rfl 36 _ _ rfl 4 info_num B q8 .u64 _ (rx) q40 hZ (by rfl) (l_rx) ?_
     intro A9
     exact ⟨rfl, A9⟩
    refine StepN.plain rfl (fun f W hG hH => ?_) ?_
    ·
     obtain ⟨d9, -, d0, d1, d2, d3, d4, d5, d6, d7, d8, -, -, -, -⟩ := hH
     generalize hA : putL _ _ _ _ = A
     have q41 := putLl hA 41 d9 rfl rfl
     have r41 := slot_get q41
     clear hA
     refine Does.pure rfl (.bool true) ?_ ⟨Below.refl _ _, rfl⟩
     go_simp
    exact trivial
   ·
    intro f V12 hG hH hN
    obtain ⟨d0, d1, d2, d3, d4, d5, d6, d7, d8, d9, -, -, d12, -⟩ : (f 0 = aggI .u64 cr3) ∧ (f 1 = aggI .u64 bu0) ∧ (f 2 = aggI .u64 cr7) ∧ (f 3 = aggI .u64 cr6) ∧ (f 4 = aggI .u64 cr8) ∧ (f 5 = aggI .u64 cr9) ∧ (f 6 = .tuple #[aggI .u64 rx, .bool true]) ∧ (f 7 = .tuple #[aggI .u64 rx, .bool true]) ∧ (f 8 = aggI .u64 rx) ∧ (f 9 = .bool true) ∧ (True) ∧ (True) ∧ (f 12 = .bool true) ∧ True := hH
    rw [show List.range (List.length [[], [], [0, 1], [], [3, 2], [2, 4, 4], [5, 5], [6], [7], [7], [], [10, 8, 6, 0, 1, 2, 3, 4, 5, 6, 7, 8, 10], [9, 11, 0, 1, 2, 3, 4, 5, 6, 7, 8, 9, 10, 11]]) = [0, 1, 2, 3, 4, 5, 6, 7, 8, 9, 10, 11, 12] from rfl]
    obtain ⟨loc, hn1, hn2⟩ := hN
    obtain ⟨hN0, kN0, A8⟩ : f 10 = .pointer (some ⟨loc 10, 0, none⟩) ∧ V11.heap.size ≤ loc 10 ∧ Arr .u64 V12 (loc 10) rx := hn1 ⟨10, 11, .u64, 4, rx⟩ (by simp) rfl
    clear hn1 hn2
    generalize loc 10 = N12_0 at *
    simp only [putL, List.getElem?_cons_zero, List.getElem?_cons_succ, Option.join, Option.bind_some, id_eq, Act.put, List.setIfInBounds_toArray, List.set_cons_zero, List.set_cons_succ, d0, d1, d2, d3, d4, d5, d6, d7, d8, d9, d12, hN0]
    clear d0 d1 d2 d3 d4 d5 d6 d7 d8 d9 d12 hN0
    clear A1 A2 A5 A6 A7
    obtain ⟨A1, A2, A5, A6, A7, BV⟩ := hG
    replace BB := below_then BB BV
    clear BV
    have zz12 := BB.size
    go_wp2_with (first
      | (with_reducible refine at_n 57 ?_; refine wpList_val' (fun R hR => Does.loadM rfl 36 _ rfl 4 _ und_num rfl info_num (N12_0) 0 rfl .u64 (rx) (A8) (by omega) (sl_all l_rx) hR) ?_)
      | (with_reducible refine at_n 58 ?_; refine wpList_val' (fun R hR => Does.loadM rfl 36 _ rfl 4 _ und_num rfl info_num (w4.heap.size) 0 rfl .u64 (cr0) (A5) (by omega) (sl_all l_cr0) hR) ?_)
      | (with_reducible refine at_n 59 ?_; go_loud (refine wpList_val' (fun R hR => Does.buildI rfl 36 _ rfl .u64 (bu0) _ (hbu0) rfl hR) ?_))
      | (with_reducible refine at_n 60 ?_; go_loud (refine wpList_val' (fun R hR => Does.buildI rfl 50 _ rfl .u64 (bu1) _ (hbu1) rfl hR) ?_))
      | (with_reducible refine at_op (o := ⟨_, .store 50 (.tmp 2) _, _, _, _, _⟩) ?_; refine wpList_storeI rfl 50 _ _ rfl 12 info_pnt (w1.heap.size) rfl .u64 _ (bu1) rfl (A2) (rfl) (l_bu1) ?_; intro D13; replace A1 := A1.rowOther (B' := w1.heap.size) (by omega) ((bu1).map (Value.int .u64)).toArray; replace A5 := A5.rowOther (B' := w1.heap.size) (by omega) ((bu1).map (Value.int .u64)).toArray; replace A6 := A6.rowOther (B' := w1.heap.size) (by omega) ((bu1).map (Value.int .u64)).toArray; replace A7 := A7.rowOther (B' := w1.heap.size) (by omega) ((bu1).map (Value.int .u64)).toArray; replace A8 := A8.rowOther (B' := w1.heap.size) (by omega) ((bu1).map (Value.int .u64)).toArray; replace BB := Below.setRow BB (g := w1.heap.size) (by omega) ((bu1).map (Value.int .u64)).toArray; clear A2; have A2 := D13))
    refine bodyPost_ret (results_cell_tmpM rfl _ 12 _ Tryd.underlying50 rfl info_pnt (w1.heap.size) rfl .u64 _ A2 (l_bu1)) rfl ?_
    exact ⟨rfl, BB⟩
end Go.Proofs.YtelppapkffjmpaaDoor
