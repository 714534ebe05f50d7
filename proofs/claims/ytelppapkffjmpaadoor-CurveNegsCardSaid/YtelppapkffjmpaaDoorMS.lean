/- Merged: The closures of Times and Mix. made with the closures of Times and Mix; Times and Mix. What the program's Times and Mix say. What the program tells of points that are fed back in. -/
import Derived.Test.YtelppapkffjmpaaDoorMQ
import Derived.Test.YtelppapkffjmpaaDoorMR
section
namespace Go.Proofs.YtelppapkffjmpaaDoor
open Go.RowKit Go.Shelf
set_option linter.unusedVariables false
set_option maxRecDepth 8000

set_option maxHeartbeats 2000000 in
theorem times1_walk (pts xk cr0 : List Int) (Bp Bk : Nat) (w : World) (hT : TabD w)
    (A_p0 : Arr .u64 w Bp pts)
    (A_p1 : Arr .u8 w Bk xk)
    (l_pts : pts.length = 20) (l_xk : xk.length = 32) (l_cr0 : cr0.length = 20)
    (H0 : ∀ W B0 B1, TabD W → Arr .u8 W B0 xk → Arr .u64 W B1 pts → Ret 38 #[.slice (some ⟨B0, 0, none⟩) 1 1, .slice (some ⟨B1, 0, none⟩) 1 1] (aggI .u64 cr0) W) :
    Calls Tryd.prog 37 #[.slice (some ⟨Bp, 0, none⟩) 1 1, .pointer (some ⟨Bk, 0, none⟩)] w fun e w' => e = .returned (aggI .u64 cr0) ∧ Below w.heap.size w w' := by
  go_enter Tryd.func37, Tryd.ntmps37
  go_wp2_with (first
      | (with_reducible refine at_n 3 ?_; refine wpList_allocI rfl 46 rfl .u64 20 zero_point ?_; intro w1 A3 s1 b1; have q1_p0 := A_p0.lt; have q1_p1 := A_p1.lt; replace A_p0 := A_p0.below b1; replace A_p1 := A_p1.below b1; have BB := b1; have y1 := BB.size)
      | (with_reducible refine at_n 4 ?_; refine wpList_val' (fun R hR => Does.loadM rfl 22 _ rfl 32 _ und_a32 rfl info_a32 (Bk) 0 rfl .u8 (xk) (A_p1) (by omega) (sl_all l_xk) hR) ?_)
      | (with_reducible refine at_n 5 ?_; refine wpList_buildS rfl 61 _ 1 _ rfl Tryd.underlying61 .u8 32 info_a32 zero_a32 (by decide) (by decide) [(0, aggI .u8 xk)] rfl xk (fill_a32_1 l_xk) ?_; intro w2 A5 s2 b2; have q2_p0 := A_p0.lt; have q2_p1 := A_p1.lt; have q2_3 := A3.lt; replace A_p0 := A_p0.below b2; replace A_p1 := A_p1.below b2; replace A3 := A3.below b2; replace BB := below_then BB b2; have y2 := BB.size)
      | (with_reducible refine at_op (o := ⟨_, .store 46 (.tmp 3) _, _, _, _, _⟩) ?_; refine wpList_storeI rfl 46 _ _ rfl 20 info_point (w.heap.size) rfl .u64 _ (cr0) rfl (A3) (rfl) (l_cr0) ?_; intro D4; replace A_p0 := A_p0.rowOther (B' := w.heap.size) (by omega) ((cr0).map (Value.int .u64)).toArray; replace A_p1 := A_p1.rowOther (B' := w.heap.size) (by omega) ((cr0).map (Value.int .u64)).toArray; replace A5 := A5.rowOther (B' := w.heap.size) (by omega) ((cr0).map (Value.int .u64)).toArray; replace BB := Below.setRow BB (g := w.heap.size) (by omega) ((cr0).map (Value.int .u64)).toArray; clear A3; have A3 := D4)
      | (go_at_call 38; first | ((with_reducible refine (H0 _ _ _ (hT.below BB) A5 A_p0).mono ?_); rintro e w3 ⟨rfl, b3⟩; replace A_p0 := A_p0.below b3; replace A_p1 := A_p1.below b3; replace A3 := A3.below b3; replace A5 := A5.below b3; replace BB := below_then BB b3; have z3 := BB.size)))
  refine bodyPost_ret (results_cellM rfl _ 20 _ Tryd.underlying46 rfl info_point (w.heap.size) rfl .u64 _ A3 (l_cr0)) rfl ?_
  exact ⟨rfl, BB⟩
set_option maxHeartbeats 4000000 in
theorem mix1_walk (pts xk xl cra cr1 : List Int) (Bp Bk Bl : Nat) (w : World) (hT : TabD w)
  (A_p0 : Arr .u64 w Bp pts)
  (A_p1 : Arr .u8 w Bk xk)
  (A_p2 : Arr .u8 w Bl xl)
  (l_pts : pts.length = 20) (l_xk : xk.length = 32) (l_xl : xl.length = 32) (l_cra : cra.length = 20) (l_cr1 : cr1.length = 20)
  (H0 : ∀ W, Ret 34 #[aggI .u64 bLn] (aggI .u64 cra) W)
  (H1 : ∀ W B2 B8, TabD W → Arr .u8 W B2 (xk ++ xl) → Arr .u64 W B8 (pts ++ cra) → Ret 38 #[.slice (some ⟨B2, 0, none⟩) 2 2, .slice (some ⟨B8, 0, none⟩) 2 2] (aggI .u64 cr1) W) :
  Calls Tryd.prog 43 #[.slice (some ⟨Bp, 0, none⟩) 1 1, .pointer (some ⟨Bk, 0, none⟩), .pointer (some ⟨Bl, 0, none⟩)] w fun e w' => e = .returned (aggI .u64 cr1) ∧ Below w.heap.size w w' := by
 go_enter Tryd.func43, Tryd.ntmps43
 go_wp2_with (first
   | (with_reducible refine at_n 4 ?_; refine wpList_allocI rfl 46 rfl .u64 20 zero_point ?_; intro w1 A4 s1 b1; have q1_p0 := A_p0.lt; have q1_p1 := A_p1.lt; have q1_p2 := A_p2.lt; replace A_p0 := A_p0.below b1; replace A_p1 := A_p1.below b1; replace A_p2 := A_p2.below b1; have BB := b1; have y1 := BB.size))
 have k2_0 := A_p0.lt
 have k2_1 := A_p1.lt
 have k2_2 := A_p2.lt
 have k2_3 := A4.lt
 refine wp_region_ord [[], [], [0, 1], [], [3], [4], [], [6], [5, 7], [2, 8, 7], [9, 9, 0, 1, 2, 3, 4, 5, 6, 7, 8, 9]] [some 5, some 6, some 7, some 8, some 9, some 10, some 11, some 12, some 13, some 14, none] 10 (fun b w' => Arr .u64 w' (Bp) pts ∧ Arr .u8 w' (Bk) xk ∧ Arr .u8 w' (Bl) xl ∧ Arr .u64 w' (w.heap.size) (if b then cr1 else List.replicate 20 0) ∧ Below w.heap.size w w') (fun opn f W9 => match opn with | 0 => f 0 = aggI .u8 xk | 1 => f 1 = aggI .u8 xl | 2 => (∃ B, f 2 = .slice (some ⟨B, 0, none⟩) 2 2 ∧ w.heap.size < B ∧ Arr .u8 W9 B (xk ++ xl)) | 3 => f 3 = .slice (some ⟨Bp, 0, none⟩) 1 1 | 4 => f 4 = .pointer (some ⟨Bp, 0, none⟩) | 5 => f 5 = aggI .u64 pts | 6 => f 6 = aggI .u64 bLn | 7 => f 7 = aggI .u64 cra | 8 => (∃ B, f 8 = .slice (some ⟨B, 0, none⟩) 2 2 ∧ w.heap.size < B ∧ Arr .u64 W9 B (pts ++ cra)) | 9 => f 9 = aggI .u64 cr1 | 10 => f 10 = undef | _ => True) (fun _ v v' => ∃ cs, v' = v.setRow (w.heap.size) cs) (by kernel_rfl) (by kernel_rfl) (by kernel_rfl) (by kernel_rfl) (fun b v v' hb h => ⟨h.1.below hb, h.2.1.below hb, h.2.2.1.below hb, h.2.2.2.1.below hb, below_then h.2.2.2.2 hb⟩) (by intro j g v v' hb h; match j, h with | 0, h => exact h | 1, h => exact h | 2, h => (obtain ⟨B, e, l, A⟩ := h; exact ⟨B, e, l, A.below hb⟩) | 3, h => exact h | 4, h => exact h | 5, h => exact h | 6, h => exact h | 7, h => exact h | 8, h => (obtain ⟨B, e, l, A⟩ := h; exact ⟨B, e, l, A.below hb⟩) | 9, h => exact h | 10, h => exact h | _ + 11, h => exact trivial) (by intro j g f v v' hj hS h; obtain ⟨cs, rfl⟩ := hS; match j, h with | 0, h => exact h | 1, h => exact h | 2, h => (obtain ⟨B, e, l, A⟩ := h; exact ⟨B, e, l, A.rowOther (by omega) cs⟩) | 3, h => exact h | 4, h => exact h | 5, h => exact h | 6, h => exact h | 7, h => exact h | 8, h => (obtain ⟨B, e, l, A⟩ := h; exact ⟨B, e, l, A.rowOther (by omega) cs⟩) | 9, h => exact h | 10, h => exact h | _ + 11, h => exact trivial) ⟨A_p0.drew, A_p1.drew, A_p2.drew, A4.drew, BB.drew⟩ ?_ ?_
 ·
  refine StepL.other (k := 0) rfl (fun b f W hb hG hH => ?_) ?_
  ·
   obtain rfl := hb rfl
   clear hH
   generalize hA : putL _ _ _ _ = A
   have q1 : A.eval (.tmp 1) = .pointer (some ⟨Bk, 0, none⟩) := putLn hA 1 rfl rfl rfl
   clear hA
   exact Does.loadM rfl 22 _ rfl 32 _ und_a32 rfl info_a32 (Bk) (0) q1 .u8 (xk) (hG.2.1) (by omega) (sl_all l_xk) ⟨Below.refl _ _, rfl⟩
  refine StepL.other (k := 1) rfl (fun b f W hb hG hH => ?_) ?_
  ·
   obtain rfl := hb rfl
   clear hH
   generalize hA : putL _ _ _ _ = A
   have q2 : A.eval (.tmp 2) = .pointer (some ⟨Bl, 0, none⟩) := putLn hA 2 rfl rfl rfl
   clear hA
   exact Does.loadM rfl 22 _ rfl 32 _ und_a32 rfl info_a32 (Bl) (0) q2 .u8 (xl) (hG.2.2.1) (by omega) (sl_all l_xl) ⟨Below.refl _ _, rfl⟩
  refine StepL.other (k := 2) rfl (fun b f W hb hG hH => ?_) ?_
  ·
   obtain rfl := hb rfl
   obtain ⟨d0, d1, -⟩ := hH
   generalize hA : putL _ _ _ _ = A
   have q5 := putLl hA 5 d0 rfl rfl
   have r5 := slot_get q5
   have q6 := putLl hA 6 d1 rfl rfl
   have r6 := slot_get q6
   clear hA
   refine Does.buildS rfl 61 _ 2 _ rfl Tryd.underlying61 .u8 32 info_a32 zero_a32 (by decide) (by decide) _ (by simp [q5, q6]) (xk ++ xl) (fill_a32_2 l_xk l_xl) ?_
   intro W1 D1 s1 b1
   exact ⟨b1, _, rfl, hG.2.2.2.1.lt, D1⟩
  refine StepL.other (k := 3) rfl (fun b f W hb hG hH => ?_) ?_
  ·
   obtain rfl := hb rfl
   clear hH
   generalize hA : putL _ _ _ _ = A
   have q0 : A.eval (.tmp 0) = .slice (some ⟨Bp, 0, none⟩) 1 1 := putLn hA 0 rfl rfl rfl
   have r0 := slot_get q0
   clear hA
   refine Does.pure rfl (.slice (some ⟨Bp, 0, none⟩) 1 1) ?_ ⟨Below.refl _ _, rfl⟩
   go_simp
  refine StepL.other (k := 4) rfl (fun b f W hb hG hH => ?_) ?_
  ·
   obtain rfl := hb rfl
   obtain ⟨d3, -⟩ := hH
   generalize hA : putL _ _ _ _ = A
   have q8 := putLl hA 8 d3 rfl rfl
   clear hA
   exact Does.indexS rfl 40 _ _ rfl Tryd.underlying40 info_point (Bp) 0 q8 .i64 0 rfl (by decide) (by decide) (o1 := 0) rfl ⟨Below.refl _ _, rfl⟩
  refine StepL.other (k := 5) rfl (fun b f W hb hG hH => ?_) ?_
  ·
   obtain rfl := hb rfl
   obtain ⟨d4, -⟩ := hH
   generalize hA : putL _ _ _ _ = A
   have q9 := putLl hA 9 d4 rfl rfl
   clear hA
   exact Does.loadM rfl 46 _ rfl 20 _ Tryd.underlying46 rfl info_point (Bp) (0) q9 .u64 (pts) (hG.1) (by omega) (sl_all l_pts) ⟨Below.refl _ _, rfl⟩
  refine StepL.other (k := 6) rfl (fun b f W hb hG hH => ?_) ?_
  ·
   obtain rfl := hb rfl
   clear hH
   generalize hA : putL _ _ _ _ = A
   clear hA
   exact Does.loadG rfl 44 _ rfl 10 _ Tryd.underlying44 rfl info_plane 0 0 rfl .u64 (bLn) ((hT.below (hG.2.2.2.2)).g0) (by rw [l_bLn]; decide) (sl_all l_bLn) ⟨Below.refl _ _, rfl⟩
  refine StepL.other (k := 7) rfl (fun b f W hb hG hH => ?_) ?_
  ·
   obtain rfl := hb rfl
   obtain ⟨d6, -⟩ := hH
   generalize hA : putL _ _ _ _ = A
   have q11 := putLl hA 11 d6 rfl rfl
   have r11 := slot_get q11
   clear hA
   refine Does.call rfl _ _ (by go_simp) ((H0 W).mono ?_)
   rintro e w' ⟨rfl, hb'⟩
   exact ⟨_, rfl, hb', rfl⟩
  refine StepL.other (k := 8) rfl (fun b f W hb hG hH => ?_) ?_
  ·
   obtain rfl := hb rfl
   obtain ⟨d5, d7, -⟩ := hH
   generalize hA : putL _ _ _ _ = A
   have q10 := putLl hA 10 d5 rfl rfl
   have r10 := slot_get q10
   have q12 := putLl hA 12 d7 rfl rfl
   have r12 := slot_get q12
   clear hA
   refine Does.buildS rfl 40 _ 2 _ rfl Tryd.underlying40 .u64 20 info_point zero_point (by decide) (by decide) _ (by simp [q10, q12]) (pts ++ cra) (fill_point_2 l_pts l_cra) ?_
   intro W1 D1 s1 b1
   exact ⟨b1, _, rfl, hG.2.2.2.1.lt, D1⟩
  refine StepL.other (k := 9) rfl (fun b f W hb hG hH => ?_) ?_
  ·
   obtain rfl := hb rfl
   obtain ⟨⟨B2, d2, g2, E2⟩, ⟨B8, d8, g8, E8⟩, d7, -⟩ : (∃ B, f 2 = .slice (some ⟨B, 0, none⟩) 2 2 ∧ w.heap.size < B ∧ Arr .u8 W B (xk ++ xl)) ∧ (∃ B, f 8 = .slice (some ⟨B, 0, none⟩) 2 2 ∧ w.heap.size < B ∧ Arr .u64 W B (pts ++ cra)) ∧ (f 7 = aggI .u64 cra) ∧ True := hH
   generalize hA : putL _ _ _ _ = A
   have q7 := putLl hA 7 d2 rfl rfl
   have r7 := slot_get q7
   have q13 := putLl hA 13 d8 rfl rfl
   have r13 := slot_get q13
   clear hA
   refine Does.call rfl _ _ (by go_simp) ((H1 W B2 B8 (hT.below (hG.2.2.2.2)) E2 E8).mono ?_)
   rintro e w' ⟨rfl, hb'⟩
   exact ⟨_, rfl, hb', rfl⟩
  refine StepL.self (k := 10) rfl (fun f W hG hH => ?_) ?_
  ·
   obtain ⟨d9, -, d0, d1, ⟨B2, d2, g2, E2⟩, d3, d4, d5, d6, d7, ⟨B8, d8, g8, E8⟩, -, -⟩ : (f 9 = aggI .u64 cr1) ∧ (f 9 = aggI .u64 cr1) ∧ (f 0 = aggI .u8 xk) ∧ (f 1 = aggI .u8 xl) ∧ (∃ B, f 2 = .slice (some ⟨B, 0, none⟩) 2 2 ∧ w.heap.size < B ∧ Arr .u8 W B (xk ++ xl)) ∧ (f 3 = .slice (some ⟨Bp, 0, none⟩) 1 1) ∧ (f 4 = .pointer (some ⟨Bp, 0, none⟩)) ∧ (f 5 = aggI .u64 pts) ∧ (f 6 = aggI .u64 bLn) ∧ (f 7 = aggI .u64 cra) ∧ (∃ B, f 8 = .slice (some ⟨B, 0, none⟩) 2 2 ∧ w.heap.size < B ∧ Arr .u64 W B (pts ++ cra)) ∧ (f 9 = aggI .u64 cr1) ∧ True := hH
   generalize hA : putL _ _ _ _ = A
   have q4 : A.eval (.tmp 4) = .pointer (some ⟨w.heap.size, 0, none⟩) := putLn hA 4 rfl rfl rfl
   have r4 := slot_get q4
   have q14 := putLl hA 14 d9 rfl rfl
   have r14 := slot_get q14
   clear hA
   have hZ : Arr .u64 W (w.heap.size) (List.replicate 20 0) := hG.2.2.2.1
   refine Does.storeI rfl 46 _ _ rfl 20 info_point (w.heap.size) q4 .u64 _ (cr1) q14 hZ (rfl) (l_cr1) ?_
   intro A9
   exact ⟨⟨_, rfl⟩, ⟨hG.1.rowOther (by omega) _, hG.2.1.rowOther (by omega) _, hG.2.2.1.rowOther (by omega) _, A9, Below.setRow hG.2.2.2.2 (by omega) _⟩, rfl⟩
  exact trivial
 ·
  intro f V2 hG hH
  obtain ⟨d0, d1, ⟨B2, d2, g2, E2⟩, d3, d4, d5, d6, d7, ⟨B8, d8, g8, E8⟩, d9, d10, -⟩ : (f 0 = aggI .u8 xk) ∧ (f 1 = aggI .u8 xl) ∧ (∃ B, f 2 = .slice (some ⟨B, 0, none⟩) 2 2 ∧ w.heap.size < B ∧ Arr .u8 V2 B (xk ++ xl)) ∧ (f 3 = .slice (some ⟨Bp, 0, none⟩) 1 1) ∧ (f 4 = .pointer (some ⟨Bp, 0, none⟩)) ∧ (f 5 = aggI .u64 pts) ∧ (f 6 = aggI .u64 bLn) ∧ (f 7 = aggI .u64 cra) ∧ (∃ B, f 8 = .slice (some ⟨B, 0, none⟩) 2 2 ∧ w.heap.size < B ∧ Arr .u64 V2 B (pts ++ cra)) ∧ (f 9 = aggI .u64 cr1) ∧ (f 10 = undef) ∧ True := hH
  rw [show List.range (List.length [[], [], [0, 1], [], [3], [4], [], [6], [5, 7], [2, 8, 7], [9, 9, 0, 1, 2, 3, 4, 5, 6, 7, 8, 9]]) = [0, 1, 2, 3, 4, 5, 6, 7, 8, 9, 10] from rfl]
  simp only [putL, List.getElem?_cons_zero, List.getElem?_cons_succ, Option.join, Option.bind_some, id_eq, Act.put, List.setIfInBounds_toArray, List.set_cons_zero, List.set_cons_succ, d0, d1, d2, d3, d4, d5, d6, d7, d8, d9]
  clear d0 d1 d2 d3 d4 d5 d6 d7 d8 d9 d10
  clear A_p0 A_p1 A_p2 A4
  obtain ⟨A_p0, A_p1, A_p2, A4, BV⟩ := hG
  have A4 : Arr .u64 V2 (w.heap.size) cr1 := A4
  clear BB
  have BB := BV
  clear BV
  have zz2 := BB.size
  go_wp2
  refine bodyPost_ret (results_cellM rfl _ 20 _ Tryd.underlying46 rfl info_point (w.heap.size) rfl .u64 _ A4 (l_cr1)) rfl ?_
  exact ⟨rfl, BB⟩
end Go.Proofs.YtelppapkffjmpaaDoor
end
section
namespace Go.Proofs.YtelppapkffjmpaaDoor
open Go.RowKit Go.Shelf
set_option linter.unusedVariables false
set_option maxRecDepth 8000

set_option maxHeartbeats 8000000 in
theorem made_times (xk tms ld0 cr1 cr2 cr3 : List Int) (Bk Ba : Nat) (w : World) (hT : TabD w)
    (A_p0c0 : Arr .u8 w Bk xk)
    (A_p1 : Arr .u8 w Ba tms)
    (l_xk : xk.length = 32) (l_tms : tms.length = 32) (l_ld0 : ld0.length = 20) (l_cr1 : cr1.length = 20) (l_cr2 : cr2.length = 10) (l_cr3 : cr3.length = 32)
    (H0 : ∀ W, TabD W → Ret 36 #[aggI .u8 tms] (.tuple #[aggI .u64 ld0, .bool true]) W)
    (H1 : ∀ W B0 B1, TabD W → Arr .u64 W B0 ld0 → Arr .u8 W B1 xk → Ret 37 #[.slice (some ⟨B0, 0, none⟩) 1 1, .pointer (some ⟨B1, 0, none⟩)] (aggI .u64 cr1) W)
    (H2 : ∀ W, Ret 40 #[aggI .u64 cr1] (aggI .u64 cr2) W)
    (H3 : ∀ W, Ret 41 #[aggI .u64 cr2] (aggI .u8 cr3) W) :
    Calls Tryd.prog 26 #[.func (.func 37) #[] #[.pointer (some ⟨Bk, 0, none⟩)], .slice (some ⟨Ba, 0, none⟩) 1 1] w fun e w' => e = .returned (.tuple #[aggI .u8 cr3, .int .i64 0]) ∧ Below w.heap.size w w' := by
  go_enter Tryd.func26, Tryd.ntmps26
  go_wp2_with (first
      | (with_reducible refine at_n 4 ?_; refine wpList_allocI rfl 22 rfl .u8 32 zero_a32 ?_; intro w1 A4 s1 b1; have q1_p0c0 := A_p0c0.lt; have q1_p1 := A_p1.lt; replace A_p0c0 := A_p0c0.below b1; replace A_p1 := A_p1.below b1; have BB := b1; have y1 := BB.size)
      | (with_reducible refine at_n 13 ?_; refine wpList_makeI rfl 40 _ _ _ rfl Tryd.underlying40 .u64 20 160 zero_point info_point (by kernel_rfl) (by decide) 1 rfl rfl (by decide) (by decide) ?_; intro w2 A13 s2 b2; have q2_p0c0 := A_p0c0.lt; have q2_p1 := A_p1.lt; have q2_4 := A4.lt; replace A_p0c0 := A_p0c0.below b2; replace A_p1 := A_p1.below b2; replace A4 := A4.below b2; replace BB := below_then BB b2; have y2 := BB.size))
  refine wp_loop_rounds 2 ?_
  rw [rounds_succ]
  go_wp2_with (first
      | (with_reducible refine at_n 19 ?_; refine wpList_val' (fun R hR => Does.indexS rfl 61 _ _ rfl Tryd.underlying61 info_a32 (Ba) 0 rfl .i64 0 rfl (by decide) (by decide) (o1 := 0) rfl hR) ?_)
      | (with_reducible refine at_n 20 ?_; refine wpList_val' (fun R hR => Does.loadM rfl 22 _ rfl 32 _ und_a32 rfl info_a32 (Ba) 0 rfl .u8 (tms) (A_p1) (by omega) (sl_all l_tms) hR) ?_)
      | (with_reducible refine at_n 8 ?_; refine wpList_allocI rfl 22 rfl .u8 32 zero_a32 ?_; intro w3 A8 s3 b3; have q3_p0c0 := A_p0c0.lt; have q3_p1 := A_p1.lt; have q3_4 := A4.lt; have q3_13 := A13.lt; replace A_p0c0 := A_p0c0.below b3; replace A_p1 := A_p1.below b3; replace A4 := A4.below b3; replace A13 := A13.below b3; replace BB := below_then BB b3; have y3 := BB.size)
      | (with_reducible refine at_op (o := ⟨_, .store 22 (.tmp 8) _, _, _, _, _⟩) ?_; refine wpList_storeI rfl 22 _ _ rfl 32 info_a32 (w2.heap.size) rfl .u8 _ (tms) rfl (A8) (rfl) (l_tms) ?_; intro D4; replace A_p0c0 := A_p0c0.rowOther (B' := w2.heap.size) (by omega) ((tms).map (Value.int .u8)).toArray; replace A_p1 := A_p1.rowOther (B' := w2.heap.size) (by omega) ((tms).map (Value.int .u8)).toArray; replace A4 := A4.rowOther (B' := w2.heap.size) (by omega) ((tms).map (Value.int .u8)).toArray; replace A13 := A13.rowOther (B' := w2.heap.size) (by omega) ((tms).map (Value.int .u8)).toArray; replace BB := Below.setRow BB (g := w2.heap.size) (by omega) ((tms).map (Value.int .u8)).toArray; clear A8; have A8 := D4)
      | (with_reducible refine at_n 22 ?_; refine wpList_val' (fun R hR => Does.loadM rfl 22 _ rfl 32 _ und_a32 rfl info_a32 (w2.heap.size) 0 rfl .u8 (tms) (A8) (by omega) (sl_all l_tms) hR) ?_)
      | (with_reducible refine at_n 9 ?_; refine wpList_allocI rfl 46 rfl .u64 20 zero_point ?_; intro w6 A9 s6 b6; have q6_p0c0 := A_p0c0.lt; have q6_p1 := A_p1.lt; have q6_4 := A4.lt; have q6_13 := A13.lt; have q6_8 := A8.lt; replace A_p0c0 := A_p0c0.below b6; replace A_p1 := A_p1.below b6; replace A4 := A4.below b6; replace A13 := A13.below b6; replace A8 := A8.below b6; replace BB := below_then BB b6; have y6 := BB.size)
      | (with_reducible refine at_op (o := ⟨_, .store 46 (.tmp 9) _, _, _, _, _⟩) ?_; refine wpList_storeI rfl 46 _ _ rfl 20 info_point (w5.heap.size) rfl .u64 _ (ld0) rfl (A9) (rfl) (l_ld0) ?_; intro D7; replace A_p0c0 := A_p0c0.rowOther (B' := w5.heap.size) (by omega) ((ld0).map (Value.int .u64)).toArray; replace A_p1 := A_p1.rowOther (B' := w5.heap.size) (by omega) ((ld0).map (Value.int .u64)).toArray; replace A4 := A4.rowOther (B' := w5.heap.size) (by omega) ((ld0).map (Value.int .u64)).toArray; replace A13 := A13.rowOther (B' := w5.heap.size) (by omega) ((ld0).map (Value.int .u64)).toArray; replace A8 := A8.rowOther (B' := w5.heap.size) (by omega) ((ld0).map (Value.int .u64)).toArray; replace BB := Below.setRow BB (g := w5.heap.size) (by omega) ((ld0).map (Value.int .u64)).toArray; clear A9; have A9 := D7)
      | (with_reducible refine at_n 31 ?_; refine wpList_val' (fun R hR => Does.loadM rfl 46 _ rfl 20 _ Tryd.underlying46 rfl info_point (w5.heap.size) 0 rfl .u64 (ld0) (A9) (by omega) (sl_all l_ld0) hR) ?_)
      | (with_reducible refine at_n 32 ?_; refine wpList_val' (fun R hR => Does.indexS rfl 40 _ _ rfl Tryd.underlying40 info_point (w1.heap.size) 0 rfl .i64 0 rfl (by decide) (by decide) (o1 := 0) rfl hR) ?_)
      | (with_reducible refine at_op (o := ⟨_, .store 46 (.tmp 32) _, _, _, _, _⟩) ?_; refine wpList_storeI rfl 46 _ _ rfl 20 info_point (w1.heap.size) rfl .u64 _ (ld0) rfl (A13) (rfl) (l_ld0) ?_; intro D8; replace A_p0c0 := A_p0c0.rowOther (B' := w1.heap.size) (by omega) ((ld0).map (Value.int .u64)).toArray; replace A_p1 := A_p1.rowOther (B' := w1.heap.size) (by omega) ((ld0).map (Value.int .u64)).toArray; replace A4 := A4.rowOther (B' := w1.heap.size) (by omega) ((ld0).map (Value.int .u64)).toArray; replace A8 := A8.rowOther (B' := w1.heap.size) (by omega) ((ld0).map (Value.int .u64)).toArray; replace A9 := A9.rowOther (B' := w1.heap.size) (by omega) ((ld0).map (Value.int .u64)).toArray; replace BB := Below.setRow BB (g := w1.heap.size) (by omega) ((ld0).map (Value.int .u64)).toArray; clear A13; have A13 := D8)
      | (go_at_call 36; first | ((with_reducible refine (H0 _ (hT.below BB)).mono ?_); rintro e w5 ⟨rfl, b5⟩; replace A_p0c0 := A_p0c0.below b5; replace A_p1 := A_p1.below b5; replace A4 := A4.below b5; replace A13 := A13.below b5; replace A8 := A8.below b5; replace BB := below_then BB b5; have z5 := BB.size)))
  rw [rounds_succ]
  go_wp2_with (first
      | (with_reducible refine at_op (o := ⟨_, .store 22 (.tmp 4) _, _, _, _, _⟩) ?_; refine wpList_storeI rfl 22 _ _ rfl 32 info_a32 (w.heap.size) rfl .u8 _ (cr3) rfl (A4) (rfl) (l_cr3) ?_; intro D12; replace A_p0c0 := A_p0c0.rowOther (B' := w.heap.size) (by omega) ((cr3).map (Value.int .u8)).toArray; replace A_p1 := A_p1.rowOther (B' := w.heap.size) (by omega) ((cr3).map (Value.int .u8)).toArray; replace A13 := A13.rowOther (B' := w.heap.size) (by omega) ((cr3).map (Value.int .u8)).toArray; replace A8 := A8.rowOther (B' := w.heap.size) (by omega) ((cr3).map (Value.int .u8)).toArray; replace A9 := A9.rowOther (B' := w.heap.size) (by omega) ((cr3).map (Value.int .u8)).toArray; replace BB := Below.setRow BB (g := w.heap.size) (by omega) ((cr3).map (Value.int .u8)).toArray; clear A4; have A4 := D12)
      | (go_at_call 37; first | ((with_reducible refine (H1 _ _ _ (hT.below BB) A13 A_p0c0).mono ?_); rintro e w9 ⟨rfl, b9⟩; replace A_p0c0 := A_p0c0.below b9; replace A_p1 := A_p1.below b9; replace A4 := A4.below b9; replace A13 := A13.below b9; replace A8 := A8.below b9; replace A9 := A9.below b9; replace BB := below_then BB b9; have z9 := BB.size))
      | (go_at_call 40; first | ((with_reducible refine (H2 _).mono ?_); rintro e w10 ⟨rfl, b10⟩; replace A_p0c0 := A_p0c0.below b10; replace A_p1 := A_p1.below b10; replace A4 := A4.below b10; replace A13 := A13.below b10; replace A8 := A8.below b10; replace A9 := A9.below b10; replace BB := below_then BB b10; have z10 := BB.size))
      | (go_at_call 41; first | ((with_reducible refine (H3 _).mono ?_); rintro e w11 ⟨rfl, b11⟩; replace A_p0c0 := A_p0c0.below b11; replace A_p1 := A_p1.below b11; replace A4 := A4.below b11; replace A13 := A13.below b11; replace A8 := A8.below b11; replace A9 := A9.below b11; replace BB := below_then BB b11; have z11 := BB.size)))
  refine bodyPost_ret (results_cell_tmpM rfl _ 32 _ und_a32 rfl info_a32 (w.heap.size) rfl .u8 _ A4 (l_cr3)) rfl ?_
  exact ⟨rfl, BB⟩
set_option maxHeartbeats 8000000 in
theorem made_mix (xk xl tms ld0 cr1 cr2 cr3 : List Int) (Bk Bl Ba : Nat) (w : World) (hT : TabD w)
    (A_p0c0 : Arr .u8 w Bk xk)
    (A_p0c1 : Arr .u8 w Bl xl)
    (A_p1 : Arr .u8 w Ba tms)
    (l_xk : xk.length = 32) (l_xl : xl.length = 32) (l_tms : tms.length = 32) (l_ld0 : ld0.length = 20) (l_cr1 : cr1.length = 20) (l_cr2 : cr2.length = 10) (l_cr3 : cr3.length = 32)
    (H0 : ∀ W, TabD W → Ret 36 #[aggI .u8 tms] (.tuple #[aggI .u64 ld0, .bool true]) W)
    (H1 : ∀ W B0 B1 B2, TabD W → Arr .u64 W B0 ld0 → Arr .u8 W B1 xk → Arr .u8 W B2 xl → Ret 43 #[.slice (some ⟨B0, 0, none⟩) 1 1, .pointer (some ⟨B1, 0, none⟩), .pointer (some ⟨B2, 0, none⟩)] (aggI .u64 cr1) W)
    (H2 : ∀ W, Ret 40 #[aggI .u64 cr1] (aggI .u64 cr2) W)
    (H3 : ∀ W, Ret 41 #[aggI .u64 cr2] (aggI .u8 cr3) W) :
    Calls Tryd.prog 26 #[.func (.func 43) #[] #[.pointer (some ⟨Bk, 0, none⟩), .pointer (some ⟨Bl, 0, none⟩)], .slice (some ⟨Ba, 0, none⟩) 1 1] w fun e w' => e = .returned (.tuple #[aggI .u8 cr3, .int .i64 0]) ∧ Below w.heap.size w w' := by
  go_enter Tryd.func26, Tryd.ntmps26
  go_wp2_with (first
      | (with_reducible refine at_n 4 ?_; refine wpList_allocI rfl 22 rfl .u8 32 zero_a32 ?_; intro w1 A4 s1 b1; have q1_p0c0 := A_p0c0.lt; have q1_p0c1 := A_p0c1.lt; have q1_p1 := A_p1.lt; replace A_p0c0 := A_p0c0.below b1; replace A_p0c1 := A_p0c1.below b1; replace A_p1 := A_p1.below b1; have BB := b1; have y1 := BB.size)
      | (with_reducible refine at_n 13 ?_; refine wpList_makeI rfl 40 _ _ _ rfl Tryd.underlying40 .u64 20 160 zero_point info_point (by kernel_rfl) (by decide) 1 rfl rfl (by decide) (by decide) ?_; intro w2 A13 s2 b2; have q2_p0c0 := A_p0c0.lt; have q2_p0c1 := A_p0c1.lt; have q2_p1 := A_p1.lt; have q2_4 := A4.lt; replace A_p0c0 := A_p0c0.below b2; replace A_p0c1 := A_p0c1.below b2; replace A_p1 := A_p1.below b2; replace A4 := A4.below b2; replace BB := below_then BB b2; have y2 := BB.size))
  refine wp_loop_rounds 2 ?_
  rw [rounds_succ]
  go_wp2_with (first
      | (with_reducible refine at_n 19 ?_; refine wpList_val' (fun R hR => Does.indexS rfl 61 _ _ rfl Tryd.underlying61 info_a32 (Ba) 0 rfl .i64 0 rfl (by decide) (by decide) (o1 := 0) rfl hR) ?_)
      | (with_reducible refine at_n 20 ?_; refine wpList_val' (fun R hR => Does.loadM rfl 22 _ rfl 32 _ und_a32 rfl info_a32 (Ba) 0 rfl .u8 (tms) (A_p1) (by omega) (sl_all l_tms) hR) ?_)
      | (with_reducible refine at_n 8 ?_; refine wpList_allocI rfl 22 rfl .u8 32 zero_a32 ?_; intro w3 A8 s3 b3; have q3_p0c0 := A_p0c0.lt; have q3_p0c1 := A_p0c1.lt; have q3_p1 := A_p1.lt; have q3_4 := A4.lt; have q3_13 := A13.lt; replace A_p0c0 := A_p0c0.below b3; replace A_p0c1 := A_p0c1.below b3; replace A_p1 := A_p1.below b3; replace A4 := A4.below b3; replace A13 := A13.below b3; replace BB := below_then BB b3; have y3 := BB.size)
      | (with_reducible refine at_op (o := ⟨_, .store 22 (.tmp 8) _, _, _, _, _⟩) ?_; refine wpList_storeI rfl 22 _ _ rfl 32 info_a32 (w2.heap.size) rfl .u8 _ (tms) rfl (A8) (rfl) (l_tms) ?_; intro D4; replace A_p0c0 := A_p0c0.rowOther (B' := w2.heap.size) (by omega) ((tms).map (Value.int .u8)).toArray; replace A_p0c1 := A_p0c1.rowOther (B' := w2.heap.size) (by omega) ((tms).map (Value.int .u8)).toArray; replace A_p1 := A_p1.rowOther (B' := w2.heap.size) (by omega) ((tms).map (Value.int .u8)).toArray; replace A4 := A4.rowOther (B' := w2.heap.size) (by omega) ((tms).map (Value.int .u8)).toArray; replace A13 := A13.rowOther (B' := w2.heap.size) (by omega) ((tms).map (Value.int .u8)).toArray; replace BB := Below.setRow BB (g := w2.heap.size) (by omega) ((tms).map (Value.int .u8)).toArray; clear A8; have A8 := D4)
      | (with_reducible refine at_n 22 ?_; refine wpList_val' (fun R hR => Does.loadM rfl 22 _ rfl 32 _ und_a32 rfl info_a32 (w2.heap.size) 0 rfl .u8 (tms) (A8) (by omega) (sl_all l_tms) hR) ?_)
      | (with_reducible refine at_n 9 ?_; refine wpList_allocI rfl 46 rfl .u64 20 zero_point ?_; intro w6 A9 s6 b6; have q6_p0c0 := A_p0c0.lt; have q6_p0c1 := A_p0c1.lt; have q6_p1 := A_p1.lt; have q6_4 := A4.lt; have q6_13 := A13.lt; have q6_8 := A8.lt; replace A_p0c0 := A_p0c0.below b6; replace A_p0c1 := A_p0c1.below b6; replace A_p1 := A_p1.below b6; replace A4 := A4.below b6; replace A13 := A13.below b6; replace A8 := A8.below b6; replace BB := below_then BB b6; have y6 := BB.size)
      | (with_reducible refine at_op (o := ⟨_, .store 46 (.tmp 9) _, _, _, _, _⟩) ?_; refine wpList_storeI rfl 46 _ _ rfl 20 info_point (w5.heap.size) rfl .u64 _ (ld0) rfl (A9) (rfl) (l_ld0) ?_; intro D7; replace A_p0c0 := A_p0c0.rowOther (B' := w5.heap.size) (by omega) ((ld0).map (Value.int .u64)).toArray; replace A_p0c1 := A_p0c1.rowOther (B' := w5.heap.size) (by omega) ((ld0).map (Value.int .u64)).toArray; replace A_p1 := A_p1.rowOther (B' := w5.heap.size) (by omega) ((ld0).map (Value.int .u64)).toArray; replace A4 := A4.rowOther (B' := w5.heap.size) (by omega) ((ld0).map (Value.int .u64)).toArray; replace A13 := A13.rowOther (B' := w5.heap.size) (by omega) ((ld0).map (Value.int .u64)).toArray; replace A8 := A8.rowOther (B' := w5.heap.size) (by omega) ((ld0).map (Value.int .u64)).toArray; replace BB := Below.setRow BB (g := w5.heap.size) (by omega) ((ld0).map (Value.int .u64)).toArray; clear A9; have A9 := D7)
      | (with_reducible refine at_n 31 ?_; refine wpList_val' (fun R hR => Does.loadM rfl 46 _ rfl 20 _ Tryd.underlying46 rfl info_point (w5.heap.size) 0 rfl .u64 (ld0) (A9) (by omega) (sl_all l_ld0) hR) ?_)
      | (with_reducible refine at_n 32 ?_; refine wpList_val' (fun R hR => Does.indexS rfl 40 _ _ rfl Tryd.underlying40 info_point (w1.heap.size) 0 rfl .i64 0 rfl (by decide) (by decide) (o1 := 0) rfl hR) ?_)
      | (with_reducible refine at_op (o := ⟨_, .store 46 (.tmp 32) _, _, _, _, _⟩) ?_; refine wpList_storeI rfl 46 _ _ rfl 20 info_point (w1.heap.size) rfl .u64 _ (ld0) rfl (A13) (rfl) (l_ld0) ?_; intro D8; replace A_p0c0 := A_p0c0.rowOther (B' := w1.heap.size) (by omega) ((ld0).map (Value.int .u64)).toArray; replace A_p0c1 := A_p0c1.rowOther (B' := w1.heap.size) (by omega) ((ld0).map (Value.int .u64)).toArray; replace A_p1 := A_p1.rowOther (B' := w1.heap.size) (by omega) ((ld0).map (Value.int .u64)).toArray; replace A4 := A4.rowOther (B' := w1.heap.size) (by omega) ((ld0).map (Value.int .u64)).toArray; replace A8 := A8.rowOther (B' := w1.heap.size) (by omega) ((ld0).map (Value.int .u64)).toArray; replace A9 := A9.rowOther (B' := w1.heap.size) (by omega) ((ld0).map (Value.int .u64)).toArray; replace BB := Below.setRow BB (g := w1.heap.size) (by omega) ((ld0).map (Value.int .u64)).toArray; clear A13; have A13 := D8)
      | (go_at_call 36; first | ((with_reducible refine (H0 _ (hT.below BB)).mono ?_); rintro e w5 ⟨rfl, b5⟩; replace A_p0c0 := A_p0c0.below b5; replace A_p0c1 := A_p0c1.below b5; replace A_p1 := A_p1.below b5; replace A4 := A4.below b5; replace A13 := A13.below b5; replace A8 := A8.below b5; replace BB := below_then BB b5; have z5 := BB.size)))
  rw [rounds_succ]
  go_wp2_with (first
      | (with_reducible refine at_op (o := ⟨_, .store 22 (.tmp 4) _, _, _, _, _⟩) ?_; refine wpList_storeI rfl 22 _ _ rfl 32 info_a32 (w.heap.size) rfl .u8 _ (cr3) rfl (A4) (rfl) (l_cr3) ?_; intro D12; replace A_p0c0 := A_p0c0.rowOther (B' := w.heap.size) (by omega) ((cr3).map (Value.int .u8)).toArray; replace A_p0c1 := A_p0c1.rowOther (B' := w.heap.size) (by omega) ((cr3).map (Value.int .u8)).toArray; replace A_p1 := A_p1.rowOther (B' := w.heap.size) (by omega) ((cr3).map (Value.int .u8)).toArray; replace A13 := A13.rowOther (B' := w.heap.size) (by omega) ((cr3).map (Value.int .u8)).toArray; replace A8 := A8.rowOther (B' := w.heap.size) (by omega) ((cr3).map (Value.int .u8)).toArray; replace A9 := A9.rowOther (B' := w.heap.size) (by omega) ((cr3).map (Value.int .u8)).toArray; replace BB := Below.setRow BB (g := w.heap.size) (by omega) ((cr3).map (Value.int .u8)).toArray; clear A4; have A4 := D12)
      | (go_at_call 43; first | ((with_reducible refine (H1 _ _ _ _ (hT.below BB) A13 A_p0c0 A_p0c1).mono ?_); rintro e w9 ⟨rfl, b9⟩; replace A_p0c0 := A_p0c0.below b9; replace A_p0c1 := A_p0c1.below b9; replace A_p1 := A_p1.below b9; replace A4 := A4.below b9; replace A13 := A13.below b9; replace A8 := A8.below b9; replace A9 := A9.below b9; replace BB := below_then BB b9; have z9 := BB.size))
      | (go_at_call 40; first | ((with_reducible refine (H2 _).mono ?_); rintro e w10 ⟨rfl, b10⟩; replace A_p0c0 := A_p0c0.below b10; replace A_p0c1 := A_p0c1.below b10; replace A_p1 := A_p1.below b10; replace A4 := A4.below b10; replace A13 := A13.below b10; replace A8 := A8.below b10; replace A9 := A9.below b10; replace BB := below_then BB b10; have z10 := BB.size))
      | (go_at_call 41; first | ((with_reducible refine (H3 _).mono ?_); rintro e w11 ⟨rfl, b11⟩; replace A_p0c0 := A_p0c0.below b11; replace A_p0c1 := A_p0c1.below b11; replace A_p1 := A_p1.below b11; replace A4 := A4.below b11; replace A13 := A13.below b11; replace A8 := A8.below b11; replace A9 := A9.below b11; replace BB := below_then BB b11; have z11 := BB.size)))
  refine bodyPost_ret (results_cell_tmpM rfl _ 32 _ und_a32 rfl info_a32 (w.heap.size) rfl .u8 _ A4 (l_cr3)) rfl ?_
  exact ⟨rfl, BB⟩
set_option maxHeartbeats 2000000 in
theorem times_walk (xk xa rb : List Int) (ec : Int) (w : World) (hT : TabD w)
    (l_xk : xk.length = 32) (l_xa : xa.length = 32) (l_rb : rb.length = 32)
    (H0 : ∀ W B0 B1, TabD W → Arr .u8 W B0 xk → Arr .u8 W B1 xa → Ret 26 #[.func (.func 37) #[] #[.pointer (some ⟨B0, 0, none⟩)], .slice (some ⟨B1, 0, none⟩) 1 1] (.tuple #[aggI .u8 rb, .int .i64 ec]) W) :
    Calls Tryd.prog 17 #[aggI .u8 xk, aggI .u8 xa] w fun e w' => e = .returned (.tuple #[aggI .u8 rb, .int .i64 ec]) ∧ Below w.heap.size w w' := by
  go_enter Tryd.func17, Tryd.ntmps17
  go_wp2_with (first
      | (with_reducible refine at_n 2 ?_; refine wpList_boxI rfl 22 _ rfl .u8 xk rfl ?_; intro w1 A2 s1 b1; have BB := b1; have y1 := BB.size)
      | (with_reducible refine at_n 3 ?_; refine wpList_boxI rfl 22 _ rfl .u8 xa rfl ?_; intro w2 A3 s2 b2; have q2_2 := A2.lt; replace A2 := A2.below b2; replace BB := below_then BB b2; have y2 := BB.size)
      | (with_reducible refine at_n 4 ?_; refine wpList_allocI rfl 22 rfl .u8 32 zero_a32 ?_; intro w3 A4 s3 b3; have q3_2 := A2.lt; have q3_3 := A3.lt; replace A2 := A2.below b3; replace A3 := A3.below b3; replace BB := below_then BB b3; have y3 := BB.size)
      | (with_reducible refine at_n 7 ?_; refine wpList_val' (fun R hR => Does.loadM rfl 22 _ rfl 32 _ und_a32 rfl info_a32 (w1.heap.size) 0 rfl .u8 (xa) (A3) (by omega) (sl_all l_xa) hR) ?_)
      | (with_reducible refine at_n 8 ?_; refine wpList_buildS rfl 61 _ 1 _ rfl Tryd.underlying61 .u8 32 info_a32 zero_a32 (by decide) (by decide) [(0, aggI .u8 xa)] rfl xa (fill_a32_1 l_xa) ?_; intro w4 A8 s4 b4; have q4_2 := A2.lt; have q4_3 := A3.lt; have q4_4 := A4.lt; replace A2 := A2.below b4; replace A3 := A3.below b4; replace A4 := A4.below b4; replace BB := below_then BB b4; have y4 := BB.size)
      | (with_reducible refine at_op (o := ⟨_, .store 22 (.tmp 4) _, _, _, _, _⟩) ?_; refine wpList_storeI rfl 22 _ _ rfl 32 info_a32 (w2.heap.size) rfl .u8 _ (rb) rfl (A4) (rfl) (l_rb) ?_; intro D6; replace A2 := A2.rowOther (B' := w2.heap.size) (by omega) ((rb).map (Value.int .u8)).toArray; replace A3 := A3.rowOther (B' := w2.heap.size) (by omega) ((rb).map (Value.int .u8)).toArray; replace A8 := A8.rowOther (B' := w2.heap.size) (by omega) ((rb).map (Value.int .u8)).toArray; replace BB := Below.setRow BB (g := w2.heap.size) (by omega) ((rb).map (Value.int .u8)).toArray; clear A4; have A4 := D6)
      | (go_at_call 26; first | ((with_reducible refine (H0 _ _ _ (hT.below BB) A2 A8).mono ?_); rintro e w5 ⟨rfl, b5⟩; replace A2 := A2.below b5; replace A3 := A3.below b5; replace A4 := A4.below b5; replace A8 := A8.below b5; replace BB := below_then BB b5; have z5 := BB.size)))
  refine bodyPost_ret (results_cell_tmpM rfl _ 32 _ und_a32 rfl info_a32 (w2.heap.size) rfl .u8 _ A4 (l_rb)) rfl ?_
  exact ⟨rfl, BB⟩
set_option maxHeartbeats 2000000 in
theorem mix_walk (xk xa xl rb : List Int) (ec : Int) (w : World) (hT : TabD w)
    (l_xk : xk.length = 32) (l_xa : xa.length = 32) (l_xl : xl.length = 32) (l_rb : rb.length = 32)
    (H0 : ∀ W B0 B1 B2, TabD W → Arr .u8 W B0 xk → Arr .u8 W B1 xl → Arr .u8 W B2 xa → Ret 26 #[.func (.func 43) #[] #[.pointer (some ⟨B0, 0, none⟩), .pointer (some ⟨B1, 0, none⟩)], .slice (some ⟨B2, 0, none⟩) 1 1] (.tuple #[aggI .u8 rb, .int .i64 ec]) W) :
    Calls Tryd.prog 21 #[aggI .u8 xk, aggI .u8 xa, aggI .u8 xl] w fun e w' => e = .returned (.tuple #[aggI .u8 rb, .int .i64 ec]) ∧ Below w.heap.size w w' := by
  go_enter Tryd.func21, Tryd.ntmps21
  go_wp2_with (first
      | (with_reducible refine at_n 3 ?_; refine wpList_boxI rfl 22 _ rfl .u8 xk rfl ?_; intro w1 A3 s1 b1; have BB := b1; have y1 := BB.size)
      | (with_reducible refine at_n 4 ?_; refine wpList_boxI rfl 22 _ rfl .u8 xa rfl ?_; intro w2 A4 s2 b2; have q2_3 := A3.lt; replace A3 := A3.below b2; replace BB := below_then BB b2; have y2 := BB.size)
      | (with_reducible refine at_n 5 ?_; refine wpList_boxI rfl 22 _ rfl .u8 xl rfl ?_; intro w3 A5 s3 b3; have q3_3 := A3.lt; have q3_4 := A4.lt; replace A3 := A3.below b3; replace A4 := A4.below b3; replace BB := below_then BB b3; have y3 := BB.size)
      | (with_reducible refine at_n 6 ?_; refine wpList_allocI rfl 22 rfl .u8 32 zero_a32 ?_; intro w4 A6 s4 b4; have q4_3 := A3.lt; have q4_4 := A4.lt; have q4_5 := A5.lt; replace A3 := A3.below b4; replace A4 := A4.below b4; replace A5 := A5.below b4; replace BB := below_then BB b4; have y4 := BB.size)
      | (with_reducible refine at_n 9 ?_; refine wpList_val' (fun R hR => Does.loadM rfl 22 _ rfl 32 _ und_a32 rfl info_a32 (w1.heap.size) 0 rfl .u8 (xa) (A4) (by omega) (sl_all l_xa) hR) ?_)
      | (with_reducible refine at_n 10 ?_; refine wpList_buildS rfl 61 _ 1 _ rfl Tryd.underlying61 .u8 32 info_a32 zero_a32 (by decide) (by decide) [(0, aggI .u8 xa)] rfl xa (fill_a32_1 l_xa) ?_; intro w5 A10 s5 b5; have q5_3 := A3.lt; have q5_4 := A4.lt; have q5_5 := A5.lt; have q5_6 := A6.lt; replace A3 := A3.below b5; replace A4 := A4.below b5; replace A5 := A5.below b5; replace A6 := A6.below b5; replace BB := below_then BB b5; have y5 := BB.size)
      | (with_reducible refine at_op (o := ⟨_, .store 22 (.tmp 6) _, _, _, _, _⟩) ?_; refine wpList_storeI rfl 22 _ _ rfl 32 info_a32 (w3.heap.size) rfl .u8 _ (rb) rfl (A6) (rfl) (l_rb) ?_; intro D7; replace A3 := A3.rowOther (B' := w3.heap.size) (by omega) ((rb).map (Value.int .u8)).toArray; replace A4 := A4.rowOther (B' := w3.heap.size) (by omega) ((rb).map (Value.int .u8)).toArray; replace A5 := A5.rowOther (B' := w3.heap.size) (by omega) ((rb).map (Value.int .u8)).toArray; replace A10 := A10.rowOther (B' := w3.heap.size) (by omega) ((rb).map (Value.int .u8)).toArray; replace BB := Below.setRow BB (g := w3.heap.size) (by omega) ((rb).map (Value.int .u8)).toArray; clear A6; have A6 := D7)
      | (go_at_call 26; first | ((with_reducible refine (H0 _ _ _ _ (hT.below BB) A3 A5 A10).mono ?_); rintro e w6 ⟨rfl, b6⟩; replace A3 := A3.below b6; replace A4 := A4.below b6; replace A5 := A5.below b6; replace A6 := A6.below b6; replace A10 := A10.below b6; replace BB := below_then BB b6; have z6 := BB.size)))
  refine bodyPost_ret (results_cell_tmpM rfl _ 32 _ und_a32 rfl info_a32 (w3.heap.size) rfl .u8 _ A6 (l_rb)) rfl ?_
  exact ⟨rfl, BB⟩
end Go.Proofs.YtelppapkffjmpaaDoor
end
section
namespace Go.Proofs.YtelppapkffjmpaaDoor
open Go.RowKit Go.Shelf
set_option linter.unusedVariables false
set_option maxRecDepth 8000

theorem sumP_two (f : Nat → Pt) : sumP 2 f = padd (f 0) (f 1) := by
  simp only [sumP]
  first | rfl | (rw [zero_padd]) | (rw [padd_zero])
theorem times_yes {k a : List Int} (hk : Bytes k) (lk : k.length = 32) (ha : Bytes a) (la : a.length = 32) (h : IsPt a) (w : World) (hT : TabD w) : Calls Tryd.prog 17 #[aggI .u8 k, aggI .u8 a] w fun e w' => e = .returned (.tuple #[aggI .u8 (encB (smul (kB k) (ptB a h))), .int .i64 0]) ∧ Below w.heap.size w w' := by
  obtain ⟨ps, hp, H⟩ := load_yes ha la h
  obtain ⟨ms, hm, M⟩ := many_r (n := 1) (tms := k) (pts := ps) (P := fun _ => ptB a h) (by omega) (by omega) hk (by rw [lk]) (by rw [hp.len]) (fun j hj => by
    obtain rfl : j = 0 := by omega
    rw [Nat.mul_zero, sl_all hp.len]
    exact hp)
  rw [sumP_one, Nat.mul_zero, sl_all lk] at hm
  obtain ⟨fs, hf, F⟩ := flat_r hm
  have C1 := fun W B0 B1 (hW : TabD W) (A : Arr .u64 W B0 ps) (Ak : Arr .u8 W B1 k) => times1_walk (hT := hW) (A_p0 := A) (A_p1 := Ak) (l_pts := hp.len) (l_xk := lk) (l_cr0 := hm.len) (H0 := fun W' Bt Bp hW' A1 A2 => M W' Bt Bp 1 1 hW'.c A1 A2)
  exact times_walk (hT := hT) (l_xk := lk) (l_xa := la) (l_rb := encB_len _) (H0 := fun W B0 B1 hW A0 A1 => made_times (hT := hW) (A_p0c0 := A0) (A_p1 := A1) (l_xk := lk) (l_tms := la) (l_ld0 := hp.len) (l_cr1 := hm.len) (l_cr2 := hf.len) (l_cr3 := encB_len _) (H0 := H) (H1 := C1) (H2 := F) (H3 := pbytes_r hf))
theorem times_not {k a : List Int} (lk : k.length = 32) (ha : Bytes a) (la : a.length = 32) (h : ¬ IsPt a) (w : World) (hT : TabD w) : Calls Tryd.prog 17 #[aggI .u8 k, aggI .u8 a] w fun e w' => e = .returned (.tuple #[aggI .u8 z32, .int .i64 1]) ∧ Below w.heap.size w w' :=
  times_walk (hT := hT) (l_xk := lk) (l_xa := la) (l_rb := z32_len) (H0 := fun W B0 B1 hW A0 A1 => made1_f (fv := _) (hT := hW) (A_p1 := A1) (l_tms := la) (l_ld0 := rfl) (l_bu0 := z32_len) (hbu0 := built_a32z) (H0 := load_not ha la h))
theorem bytes_app {a b : List Int} (ha : Bytes a) (hb : Bytes b) : Bytes (a ++ b) := fun x hx => by
  rcases List.mem_append.1 hx with h | h
  · exact ha x h
  · exact hb x h
theorem mix_yes {k a c : List Int} (hk : Bytes k) (lk : k.length = 32) (ha : Bytes a) (la : a.length = 32) (hc : Bytes c) (lc : c.length = 32) (h : IsPt a) (w : World) (hT : TabD w) : Calls Tryd.prog 21 #[aggI .u8 k, aggI .u8 a, aggI .u8 c] w fun e w' => e = .returned (.tuple #[aggI .u8 (encB (padd (smul (kB k) (ptB a h)) (smul (kB c) bP))), .int .i64 0]) ∧ Below w.heap.size w w' := by
  obtain ⟨ps, hp, H⟩ := load_yes ha la h
  obtain ⟨bs, hb, R⟩ := raised_r (P := bP) bLn_pl
  obtain ⟨c1, c2⟩ := sl_two lk lc
  obtain ⟨d1, d2⟩ := sl_two hp.len hb.len
  obtain ⟨ms, hm, M⟩ := many_r (n := 2) (tms := k ++ c) (pts := ps ++ bs) (P := fun j => if j = 0 then ptB a h else bP) (by omega) (by omega) (bytes_app hk hc) (by simp [lk, lc]) (by simp [hp.len, hb.len]) (fun j hj => by
    rcases (by omega : j = 0 ∨ j = 1) with rfl | rfl
    · rw [Nat.mul_zero, d1]; exact hp
    · rw [Nat.mul_one, d2]; exact hb)
  rw [sumP_two, Nat.mul_zero, Nat.mul_one, c1, c2] at hm
  replace hm : RepP ms (padd (smul (kB k) (ptB a h)) (smul (kB c) bP)) := hm
  obtain ⟨fs, hf, F⟩ := flat_r hm
  have C1 := fun W B0 B1 B2 (hW : TabD W) (A : Arr .u64 W B0 ps) (Ak : Arr .u8 W B1 k) (Al : Arr .u8 W B2 c) => mix1_walk (hT := hW) (A_p0 := A) (A_p1 := Ak) (A_p2 := Al) (l_pts := hp.len) (l_xk := lk) (l_xl := lc) (l_cra := hb.len) (l_cr1 := hm.len) (H0 := R) (H1 := fun W' B2 B8 hW' A1 A2 => M W' B2 B8 2 2 hW'.c A1 A2)
  exact mix_walk (hT := hT) (l_xk := lk) (l_xa := la) (l_xl := lc) (l_rb := encB_len _) (H0 := fun W B0 B1 B2 hW A0 A1 A2 => made_mix (hT := hW) (A_p0c0 := A0) (A_p0c1 := A1) (A_p1 := A2) (l_xk := lk) (l_xl := lc) (l_tms := la) (l_ld0 := hp.len) (l_cr1 := hm.len) (l_cr2 := hf.len) (l_cr3 := encB_len _) (H0 := H) (H1 := C1) (H2 := F) (H3 := pbytes_r hf))
theorem mix_not {k a c : List Int} (lk : k.length = 32) (ha : Bytes a) (la : a.length = 32) (lc : c.length = 32) (h : ¬ IsPt a) (w : World) (hT : TabD w) : Calls Tryd.prog 21 #[aggI .u8 k, aggI .u8 a, aggI .u8 c] w fun e w' => e = .returned (.tuple #[aggI .u8 z32, .int .i64 1]) ∧ Below w.heap.size w w' :=
  mix_walk (hT := hT) (l_xk := lk) (l_xa := la) (l_xl := lc) (l_rb := z32_len) (H0 := fun W B0 B1 B2 hW A0 A1 A2 => made1_f (fv := _) (hT := hW) (A_p1 := A2) (l_tms := la) (l_ld0 := rfl) (l_bu0 := z32_len) (hbu0 := built_a32z) (H0 := load_not ha la h))
end Go.Proofs.YtelppapkffjmpaaDoor
end
section
namespace Go.Proofs.YtelppapkffjmpaaDoor
open Go.RowKit Go.Shelf
set_option linter.unusedVariables false
set_option maxRecDepth 8000

theorem zb32 : Bytes z32 := bytes_dec (by decide)
theorem ptimes_any {k a : List Int} (hk : Bytes k) (lk : k.length = 32) (ha : Bytes a) (la : a.length = 32) : ∃ r : List Int, ∃ c : Int, r.length = 32 ∧ Bytes r ∧ ∀ w, TabD w → Calls Tryd.prog 17 #[aggI .u8 k, aggI .u8 a] w fun e w' => e = .returned (.tuple #[aggI .u8 r, .int .i64 c]) ∧ Below w.heap.size w w' := by
  by_cases h : IsPt a
  · exact ⟨_, _, encB_len _, encB_bytes _, times_yes hk lk ha la h⟩
  · exact ⟨_, _, z32_len, zb32, times_not lk ha la h⟩
theorem pneg_any {a : List Int} (ha : Bytes a) (la : a.length = 32) : ∃ r : List Int, ∃ c : Int, r.length = 32 ∧ ∀ w, TabD w → Calls Tryd.prog 13 #[aggI .u8 a] w fun e w' => e = .returned (.tuple #[aggI .u8 r, .int .i64 c]) ∧ Below w.heap.size w w' := by
  by_cases h : IsPt a
  · exact ⟨_, _, encB_len _, neg_yes ha la h⟩
  · exact ⟨_, _, z32_len, neg_not ha la h⟩
theorem padd_any {a b : List Int} (ha : Bytes a) (la : a.length = 32) (hb : Bytes b) (lb : b.length = 32) : ∃ r : List Int, ∃ c : Int, r.length = 32 ∧ ∀ w, TabD w → Calls Tryd.prog 11 #[aggI .u8 a, aggI .u8 b] w fun e w' => e = .returned (.tuple #[aggI .u8 r, .int .i64 c]) ∧ Below w.heap.size w w' := by
  by_cases h : IsPt a ∧ IsPt b
  · exact ⟨_, _, encB_len _, add_yes ha la hb lb h.1 h.2⟩
  · exact ⟨_, _, z32_len, add_not ha la hb lb h⟩
/-- What is told of points that are fed back in. -/
theorem times_enc {k : List Int} (hk : Bytes k) (lk : k.length = 32) (P : Pt) (w : World) (hT : TabD w) : Calls Tryd.prog 17 #[aggI .u8 k, aggI .u8 (encB P)] w fun e w' => e = .returned (.tuple #[aggI .u8 (encB (smul (kB k) P)), .int .i64 0]) ∧ Below w.heap.size w w' := by
  have h := times_yes hk lk (encB_bytes P) (encB_len P) (encB_is P) w hT
  rw [dec_enc] at h
  exact h
theorem neg_enc (P : Pt) (w : World) (hT : TabD w) : Calls Tryd.prog 13 #[aggI .u8 (encB P)] w fun e w' => e = .returned (.tuple #[aggI .u8 (encB (pneg P)), .int .i64 0]) ∧ Below w.heap.size w w' := by
  have h := neg_yes (encB_bytes P) (encB_len P) (encB_is P) w hT
  rw [dec_enc] at h
  exact h
theorem add_enc_l {b : List Int} (P : Pt) (hb : Bytes b) (lb : b.length = 32) (k : IsPt b) (w : World) (hT : TabD w) : Calls Tryd.prog 11 #[aggI .u8 (encB P), aggI .u8 b] w fun e w' => e = .returned (.tuple #[aggI .u8 (encB (padd P (ptB b k))), .int .i64 0]) ∧ Below w.heap.size w w' := by
  have h := add_yes (encB_bytes P) (encB_len P) hb lb (encB_is P) k w hT
  rw [dec_enc] at h
  exact h
theorem add_enc_r {a : List Int} (ha : Bytes a) (la : a.length = 32) (k : IsPt a) (Q : Pt) (w : World) (hT : TabD w) : Calls Tryd.prog 11 #[aggI .u8 a, aggI .u8 (encB Q)] w fun e w' => e = .returned (.tuple #[aggI .u8 (encB (padd (ptB a k) Q)), .int .i64 0]) ∧ Below w.heap.size w w' := by
  have h := add_yes ha la (encB_bytes Q) (encB_len Q) k (encB_is Q) w hT
  rw [dec_enc] at h
  exact h
end Go.Proofs.YtelppapkffjmpaaDoor
end
