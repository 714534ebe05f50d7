/- Merged: The reference's root, walked. The reference's root. -/
import Derived.Test.YtelppapkffjmpaaDoorMF
import Derived.Test.YtelppapkffjmpaaDoorMA
import Derived.Test.YtelppapkffjmpaaDoorME
import Derived.Test.YtelppapkffjmpaaDoorMG
section
namespace Go.Proofs.YtelppapkffjmpaaDoor
open Go.RowKit Go.Shelf
set_option linter.unusedVariables false
set_option maxRecDepth 8000

set_option maxHeartbeats 2000000 in
theorem square_at (us zz es qs tt c0 p0 k c1 p1 rl : List Int) (w : World)
  (bz : Tryd.prog.built 36 [] = some (zz.map (Value.int .u64)).toArray) (be : Tryd.prog.built 36 [(0, .int .u64 18446744073709551614), (1, .int .u64 18446744073709551615), (2, .int .u64 18446744073709551615), (3, .int .u64 1152921504606846975)] = some (es.map (Value.int .u64)).toArray)
  (bq : Tryd.prog.built 36 [(0, .int .u64 18446744073709551611), (1, .int .u64 18446744073709551615), (2, .int .u64 18446744073709551615), (3, .int .u64 2305843009213693951)] = some (qs.map (Value.int .u64)).toArray)
  (bt : Tryd.prog.built 36 [(0, .int .u64 2)] = some (tt.map (Value.int .u64)).toArray)
  (lus : us.length = 4)
  (lzz : zz.length = 4)
  (les : es.length = 4)
  (lqs : qs.length = 4)
  (ltt : tt.length = 4)
  (lc0 : c0.length = 4)
  (lp0 : p0.length = 4)
  (lk : k.length = 4)
  (lc1 : c1.length = 4)
  (lp1 : p1.length = 4)
  (lrl : rl.length = 4)
  (HT0 : ∀ W, Ret 86 #[aggI .u64 us, aggI .u64 es] (aggI .u64 c0) W) (HP0 : ∀ W, Ret 57 #[aggI .u64 c0, aggI .u64 c0] (aggI .u64 p0) W) (hs0 : decide (p0 = us) = true) (hb : Hid (bits BinOp.and IntKind.u64 (at0 c0 0) 1 = 1)) (HN : ∀ W, Ret 35 #[aggI .u64 zz, aggI .u64 c0] (aggI .u64 rl) W) :
  Calls Tryd.prog 60 #[aggI .u64 us] w fun e w' => e = .returned (.tuple #[aggI .u64 rl, .bool true]) ∧ Below w.heap.size w w' := by
 go_enter Tryd.func60, Tryd.ntmps60
 go_wp2_with (first
  | (with_reducible refine at_n 1 ?_; refine wpList_boxI rfl 36 _ rfl .u64 us rfl ?_; intro w1 A1 s1 b1; have BB := b1; have y1 := BB.size)
  | (with_reducible refine at_n 2 ?_; refine wpList_allocI rfl 36 rfl .u64 4 zero_num ?_; intro w2 A2 s2 b2; have q2A1 := A1.lt; replace A1 := A1.below b2; replace BB := below_then BB b2; have y2 := BB.size)
  | (with_reducible refine at_n 7 ?_; go_loud (refine wpList_val (fun R hR => Does.buildI rfl 36 _ rfl .u64 (es) _ (be) rfl hR) ?_))
  | (with_reducible refine at_n 4 ?_; refine wpList_allocI rfl 36 rfl .u64 4 zero_num ?_; intro w3 A3 s3 b3; have q3A1 := A1.lt; have q3A2 := A2.lt; replace A1 := A1.below b3; replace A2 := A2.below b3; replace BB := below_then BB b3; have y3 := BB.size)
  | (with_reducible refine at_op (o := ⟨_, .store 36 (.tmp 4) _, _, _, _, _⟩) ?_; refine wpList_storeI rfl 36 _ _ rfl 4 info_num (w2.heap.size) rfl .u64 _ (es) rfl (A3) (rfl) (les) ?_; intro D4; replace A1 := A1.rowOther (B' := w2.heap.size) (by omega) ((es).map (Value.int .u64)).toArray; replace A2 := A2.rowOther (B' := w2.heap.size) (by omega) ((es).map (Value.int .u64)).toArray; replace BB := Below.setRow BB (g := w2.heap.size) (by omega) ((es).map (Value.int .u64)).toArray; clear A3; have A3 := D4)
  | (with_reducible refine at_n 8 ?_; refine wpList_val (fun R hR => Does.loadI rfl 36 _ rfl 4 34 und_num info_num (w.heap.size) rfl .u64 (us) (A1) (lus) hR) ?_)
  | (with_reducible refine at_n 9 ?_; refine wpList_val (fun R hR => Does.loadI rfl 36 _ rfl 4 34 und_num info_num (w2.heap.size) rfl .u64 (es) (A3) (les) hR) ?_)
  | (with_reducible refine at_n 5 ?_; refine wpList_allocI rfl 36 rfl .u64 4 zero_num ?_; intro w6 A6 s6 b6; have q6A1 := A1.lt; have q6A2 := A2.lt; have q6A3 := A3.lt; replace A1 := A1.below b6; replace A2 := A2.below b6; replace A3 := A3.below b6; replace BB := below_then BB b6; have y6 := BB.size)
  | (with_reducible refine at_op (o := ⟨_, .store 36 (.tmp 5) _, _, _, _, _⟩) ?_; refine wpList_storeI rfl 36 _ _ rfl 4 info_num (w5.heap.size) rfl .u64 _ (c0) rfl (A6) (rfl) (lc0) ?_; intro D7; replace A1 := A1.rowOther (B' := w5.heap.size) (by omega) ((c0).map (Value.int .u64)).toArray; replace A2 := A2.rowOther (B' := w5.heap.size) (by omega) ((c0).map (Value.int .u64)).toArray; replace A3 := A3.rowOther (B' := w5.heap.size) (by omega) ((c0).map (Value.int .u64)).toArray; replace BB := Below.setRow BB (g := w5.heap.size) (by omega) ((c0).map (Value.int .u64)).toArray; clear A6; have A6 := D7)
  | (go_at_call 86; first | ((with_reducible refine (HT0 _).mono ?_); rintro e w5 ⟨rfl, b5⟩; replace A1 := A1.below b5; replace A2 := A2.below b5; replace A3 := A3.below b5; replace BB := below_then BB b5; have z5 := BB.size)))
 have AU := A1
 have AR := A2
 have AC := A6
 clear A1 A2 A6 A3
 refine wp_region_ord [[], [], [0, 1], [], [2, 3]] [some 11, some 12, some 13, some 14, some 15] 5 (fun b w' => Arr .u64 w' (w.heap.size) us ∧ Arr .u64 w' (w1.heap.size) (List.replicate 4 0) ∧ Arr .u64 w' (w5.heap.size) c0 ∧ Below w.heap.size w w') (fun opn f _ => match opn with | 0 => f 0 = aggI .u64 c0 | 1 => f 1 = aggI .u64 c0 | 2 => f 2 = aggI .u64 p0 | 3 => f 3 = aggI .u64 us | 4 => f 4 = .bool (!true) | _ => True) (fun _ _ _ => True) (by kernel_rfl) (by kernel_rfl) (by kernel_rfl) (by kernel_rfl) (fun b v v' hb h => ⟨h.1.below hb, h.2.1.below hb, h.2.2.1.below hb, below_then h.2.2.2 hb⟩) (fun _ _ _ _ _ h => h) (fun _ _ _ _ _ _ _ h => h) ⟨AU.drew, AR.drew, AC.drew, BB.drew⟩ ?_ ?_
 ·
  refine StepL.other (k := 0) rfl (fun b f W hb hG hH => ?_) ?_
  ·
   clear hH
   generalize hA : putL _ _ _ _ = A
   have q5 : A.eval (.tmp 5) = .pointer (some ⟨w5.heap.size, 0, none⟩) := putLn hA 5 rfl rfl rfl
   have r5 := slot_get q5
   clear hA
   exact Does.loadI rfl 36 _ rfl 4 34 und_num info_num (w5.heap.size) q5 .u64 (c0) (hG.2.2.1) (lc0) ⟨Below.refl _ _, rfl⟩
  refine StepL.other (k := 1) rfl (fun b f W hb hG hH => ?_) ?_
  ·
   clear hH
   generalize hA : putL _ _ _ _ = A
   have q5 : A.eval (.tmp 5) = .pointer (some ⟨w5.heap.size, 0, none⟩) := putLn hA 5 rfl rfl rfl
   have r5 := slot_get q5
   clear hA
   exact Does.loadI rfl 36 _ rfl 4 34 und_num info_num (w5.heap.size) q5 .u64 (c0) (hG.2.2.1) (lc0) ⟨Below.refl _ _, rfl⟩
  refine StepL.other (k := 2) rfl (fun b f W hb hG hH => ?_) ?_
  ·
   obtain ⟨d0, d1, -⟩ := hH
   generalize hA : putL _ _ _ _ = A
   have q11 := putLl hA 11 d0 rfl rfl
   have r11 := slot_get q11
   have q12 := putLl hA 12 d1 rfl rfl
   have r12 := slot_get q12
   clear hA
   refine Does.call rfl _ _ (by go_simp) ((HP0 W).mono ?_)
   rintro e w' ⟨rfl, hb'⟩
   exact ⟨_, rfl, hb', rfl⟩
  refine StepL.other (k := 3) rfl (fun b f W hb hG hH => ?_) ?_
  ·
   clear hH
   generalize hA : putL _ _ _ _ = A
   have q1 : A.eval (.tmp 1) = .pointer (some ⟨w.heap.size, 0, none⟩) := putLn hA 1 rfl rfl rfl
   have r1 := slot_get q1
   clear hA
   exact Does.loadI rfl 36 _ rfl 4 34 und_num info_num (w.heap.size) q1 .u64 (us) (hG.1) (lus) ⟨Below.refl _ _, rfl⟩
  refine StepL.other (k := 4) rfl (fun b f W hb hG hH => ?_) ?_
  ·
   obtain ⟨d2, d3, -⟩ := hH
   generalize hA : putL _ _ _ _ = A
   have q13 := putLl hA 13 d2 rfl rfl
   have r13 := slot_get q13
   have q14 := putLl hA 14 d3 rfl rfl
   have r14 := slot_get q14
   clear hA
   exact Does.neI rfl 36 _ 34 _ _ rfl 4 und_num .u64 .u64 Tryd.underlying34 (by kernel_rfl) (by kernel_rfl) (p0) (us) q13 q14 (lp0) (lus) (!true) (by rw [show decide (p0 = us) = true from hs0]) ⟨Below.refl _ _, rfl⟩
  exact trivial
 ·
  intro f W hG hH
  obtain ⟨d0, d1, d2, d3, d4, -⟩ : (f 0 = aggI .u64 c0) ∧ (f 1 = aggI .u64 c0) ∧ (f 2 = aggI .u64 p0) ∧ (f 3 = aggI .u64 us) ∧ (f 4 = .bool (!true)) ∧ True := hH
  rw [show List.range (List.length [[], [], [0, 1], [], [2, 3]]) = [0, 1, 2, 3, 4] from rfl]
  simp only [putL, List.getElem?_cons_zero, List.getElem?_cons_succ, Option.join, Option.bind_some, id_eq, Act.put, List.setIfInBounds_toArray, List.set_cons_zero, List.set_cons_succ, d0, d1, d2, d3, d4]
  clear d0 d1 d2 d3 d4
  obtain ⟨AU, AR, AC, BB⟩ := hG
  simp only [Bool.not_true]
  go_wp2
  refine wp_region_ord [[], [], [0, 1], [], [2, 3]] [some 22, some 23, some 24, some 25, some 26] 5 (fun b w' => Arr .u64 w' (w.heap.size) us ∧ Arr .u64 w' (w1.heap.size) (List.replicate 4 0) ∧ Arr .u64 w' (w5.heap.size) c0 ∧ Below w.heap.size w w') (fun opn f _ => match opn with | 0 => f 0 = aggI .u64 c0 | 1 => f 1 = aggI .u64 c0 | 2 => f 2 = aggI .u64 p0 | 3 => f 3 = aggI .u64 us | 4 => f 4 = .bool (!true) | _ => True) (fun _ _ _ => True) (by kernel_rfl) (by kernel_rfl) (by kernel_rfl) (by kernel_rfl) (fun b v v' hb h => ⟨h.1.below hb, h.2.1.below hb, h.2.2.1.below hb, below_then h.2.2.2 hb⟩) (fun _ _ _ _ _ h => h) (fun _ _ _ _ _ _ _ h => h) ⟨AU.drew, AR.drew, AC.drew, BB.drew⟩ ?_ ?_
  ·
   refine StepL.other (k := 0) rfl (fun b f W hb hG hH => ?_) ?_
   ·
    clear hH
    generalize hA : putL _ _ _ _ = A
    have q5 : A.eval (.tmp 5) = .pointer (some ⟨w5.heap.size, 0, none⟩) := putLn hA 5 rfl rfl rfl
    have r5 := slot_get q5
    clear hA
    exact Does.loadI rfl 36 _ rfl 4 34 und_num info_num (w5.heap.size) q5 .u64 (c0) (hG.2.2.1) (lc0) ⟨Below.refl _ _, rfl⟩
   refine StepL.other (k := 1) rfl (fun b f W hb hG hH => ?_) ?_
   ·
    clear hH
    generalize hA : putL _ _ _ _ = A
    have q5 : A.eval (.tmp 5) = .pointer (some ⟨w5.heap.size, 0, none⟩) := putLn hA 5 rfl rfl rfl
    have r5 := slot_get q5
    clear hA
    exact Does.loadI rfl 36 _ rfl 4 34 und_num info_num (w5.heap.size) q5 .u64 (c0) (hG.2.2.1) (lc0) ⟨Below.refl _ _, rfl⟩
   refine StepL.other (k := 2) rfl (fun b f W hb hG hH => ?_) ?_
   ·
    obtain ⟨d0, d1, -⟩ := hH
    generalize hA : putL _ _ _ _ = A
    have q22 := putLl hA 22 d0 rfl rfl
    have r22 := slot_get q22
    have q23 := putLl hA 23 d1 rfl rfl
    have r23 := slot_get q23
    clear hA
    refine Does.call rfl _ _ (by go_simp) ((HP0 W).mono ?_)
    rintro e w' ⟨rfl, hb'⟩
    exact ⟨_, rfl, hb', rfl⟩
   refine StepL.other (k := 3) rfl (fun b f W hb hG hH => ?_) ?_
   ·
    clear hH
    generalize hA : putL _ _ _ _ = A
    have q1 : A.eval (.tmp 1) = .pointer (some ⟨w.heap.size, 0, none⟩) := putLn hA 1 rfl rfl rfl
    have r1 := slot_get q1
    clear hA
    exact Does.loadI rfl 36 _ rfl 4 34 und_num info_num (w.heap.size) q1 .u64 (us) (hG.1) (lus) ⟨Below.refl _ _, rfl⟩
   refine StepL.other (k := 4) rfl (fun b f W hb hG hH => ?_) ?_
   ·
    obtain ⟨d2, d3, -⟩ := hH
    generalize hA : putL _ _ _ _ = A
    have q24 := putLl hA 24 d2 rfl rfl
    have r24 := slot_get q24
    have q25 := putLl hA 25 d3 rfl rfl
    have r25 := slot_get q25
    clear hA
    exact Does.neI rfl 36 _ 34 _ _ rfl 4 und_num .u64 .u64 Tryd.underlying34 (by kernel_rfl) (by kernel_rfl) (p0) (us) q24 q25 (lp0) (lus) (!true) (by rw [show decide (p0 = us) = true from hs0]) ⟨Below.refl _ _, rfl⟩
   exact trivial
  ·
   intro f W hG hH
   obtain ⟨d0, d1, d2, d3, d4, -⟩ : (f 0 = aggI .u64 c0) ∧ (f 1 = aggI .u64 c0) ∧ (f 2 = aggI .u64 p0) ∧ (f 3 = aggI .u64 us) ∧ (f 4 = .bool (!true)) ∧ True := hH
   rw [show List.range (List.length [[], [], [0, 1], [], [2, 3]]) = [0, 1, 2, 3, 4] from rfl]
   simp only [putL, List.getElem?_cons_zero, List.getElem?_cons_succ, Option.join, Option.bind_some, id_eq, Act.put, List.setIfInBounds_toArray, List.set_cons_zero, List.set_cons_succ, d0, d1, d2, d3, d4]
   clear d0 d1 d2 d3 d4
   obtain ⟨AU, AR, AC, BB⟩ := hG
   simp only [Bool.not_true]
   have c0' := AC.cell (k := 0) (by omega)
   have hb := hb.out
   go_wp2_with (first
     | (with_reducible refine at_n 32 ?_; go_loud (refine wpList_val (fun R hR => Does.buildI rfl 36 _ rfl .u64 (zz) _ (bz) rfl hR) ?_))
     | (with_reducible refine at_n 33 ?_; refine wpList_val (fun R hR => Does.loadI rfl 36 _ rfl 4 34 und_num info_num (w5.heap.size) rfl .u64 (c0) (AC) (lc0) hR) ?_)
     | (go_at_call 35; refine (HN _).mono ?_; rintro e w20 ⟨rfl, b20⟩; replace AU := AU.below b20; replace AR := AR.below b20; replace AC := AC.below b20; replace BB := below_then BB b20)
     | (with_reducible refine at_op (o := ⟨_, .store 36 (.tmp 5) _, _, _, _, _⟩) ?_; refine wpList_storeI rfl 36 _ _ rfl 4 info_num (w5.heap.size) rfl .u64 _ (rl) rfl (AC) (lc0) (lrl) ?_; intro DD; replace AU := AU.rowOther (B' := w5.heap.size) (by omega) ((rl).map (Value.int .u64)).toArray; replace AR := AR.rowOther (B' := w5.heap.size) (by omega) ((rl).map (Value.int .u64)).toArray; replace BB := Below.setRow BB (g := w5.heap.size) (by omega) ((rl).map (Value.int .u64)).toArray; clear AC; have AC := DD)
     | (with_reducible refine at_n 35 ?_; refine wpList_val (fun R hR => Does.loadI rfl 36 _ rfl 4 34 und_num info_num (w5.heap.size) rfl .u64 (rl) (AC) (lrl) hR) ?_)
     | (with_reducible refine at_op (o := ⟨_, .store 36 (.tmp 2) _, _, _, _, _⟩) ?_; refine wpList_storeI rfl 36 _ _ rfl 4 info_num (w1.heap.size) rfl .u64 _ (rl) rfl (AR) (rfl) (lrl) ?_; intro DD; replace AU := AU.rowOther (B' := w1.heap.size) (by omega) ((rl).map (Value.int .u64)).toArray; replace AC := AC.rowOther (B' := w1.heap.size) (by omega) ((rl).map (Value.int .u64)).toArray; replace BB := Below.setRow BB (g := w1.heap.size) (by omega) ((rl).map (Value.int .u64)).toArray; clear AR; have AR := DD))
   refine bodyPost_ret (results_cell_tmpI rfl _ 4 34 und_num info_num (w1.heap.size) rfl .u64 _ AR (lrl)) rfl ?_
   exact ⟨rfl, BB⟩
set_option maxHeartbeats 2000000 in
theorem square_af (us zz es qs tt c0 p0 k c1 p1 rl : List Int) (w : World)
  (bz : Tryd.prog.built 36 [] = some (zz.map (Value.int .u64)).toArray) (be : Tryd.prog.built 36 [(0, .int .u64 18446744073709551614), (1, .int .u64 18446744073709551615), (2, .int .u64 18446744073709551615), (3, .int .u64 1152921504606846975)] = some (es.map (Value.int .u64)).toArray)
  (bq : Tryd.prog.built 36 [(0, .int .u64 18446744073709551611), (1, .int .u64 18446744073709551615), (2, .int .u64 18446744073709551615), (3, .int .u64 2305843009213693951)] = some (qs.map (Value.int .u64)).toArray)
  (bt : Tryd.prog.built 36 [(0, .int .u64 2)] = some (tt.map (Value.int .u64)).toArray)
  (lus : us.length = 4)
  (lzz : zz.length = 4)
  (les : es.length = 4)
  (lqs : qs.length = 4)
  (ltt : tt.length = 4)
  (lc0 : c0.length = 4)
  (lp0 : p0.length = 4)
  (lk : k.length = 4)
  (lc1 : c1.length = 4)
  (lp1 : p1.length = 4)
  (lrl : rl.length = 4)
  (HT0 : ∀ W, Ret 86 #[aggI .u64 us, aggI .u64 es] (aggI .u64 c0) W) (HP0 : ∀ W, Ret 57 #[aggI .u64 c0, aggI .u64 c0] (aggI .u64 p0) W) (hs0 : decide (p0 = us) = true) (hb : Hid (bits BinOp.and IntKind.u64 (at0 c0 0) 1 = 0))  :
  Calls Tryd.prog 60 #[aggI .u64 us] w fun e w' => e = .returned (.tuple #[aggI .u64 c0, .bool true]) ∧ Below w.heap.size w w' := by
 go_enter Tryd.func60, Tryd.ntmps60
 go_wp2_with (first
  | (with_reducible refine at_n 1 ?_; refine wpList_boxI rfl 36 _ rfl .u64 us rfl ?_; intro w1 A1 s1 b1; have BB := b1; have y1 := BB.size)
  | (with_reducible refine at_n 2 ?_; refine wpList_allocI rfl 36 rfl .u64 4 zero_num ?_; intro w2 A2 s2 b2; have q2A1 := A1.lt; replace A1 := A1.below b2; replace BB := below_then BB b2; have y2 := BB.size)
  | (with_reducible refine at_n 7 ?_; go_loud (refine wpList_val (fun R hR => Does.buildI rfl 36 _ rfl .u64 (es) _ (be) rfl hR) ?_))
  | (with_reducible refine at_n 4 ?_; refine wpList_allocI rfl 36 rfl .u64 4 zero_num ?_; intro w3 A3 s3 b3; have q3A1 := A1.lt; have q3A2 := A2.lt; replace A1 := A1.below b3; replace A2 := A2.below b3; replace BB := below_then BB b3; have y3 := BB.size)
  | (with_reducible refine at_op (o := ⟨_, .store 36 (.tmp 4) _, _, _, _, _⟩) ?_; refine wpList_storeI rfl 36 _ _ rfl 4 info_num (w2.heap.size) rfl .u64 _ (es) rfl (A3) (rfl) (les) ?_; intro D4; replace A1 := A1.rowOther (B' := w2.heap.size) (by omega) ((es).map (Value.int .u64)).toArray; replace A2 := A2.rowOther (B' := w2.heap.size) (by omega) ((es).map (Value.int .u64)).toArray; replace BB := Below.setRow BB (g := w2.heap.size) (by omega) ((es).map (Value.int .u64)).toArray; clear A3; have A3 := D4)
  | (with_reducible refine at_n 8 ?_; refine wpList_val (fun R hR => Does.loadI rfl 36 _ rfl 4 34 und_num info_num (w.heap.size) rfl .u64 (us) (A1) (lus) hR) ?_)
  | (with_reducible refine at_n 9 ?_; refine wpList_val (fun R hR => Does.loadI rfl 36 _ rfl 4 34 und_num info_num (w2.heap.size) rfl .u64 (es) (A3) (les) hR) ?_)
  | (with_reducible refine at_n 5 ?_; refine wpList_allocI rfl 36 rfl .u64 4 zero_num ?_; intro w6 A6 s6 b6; have q6A1 := A1.lt; have q6A2 := A2.lt; have q6A3 := A3.lt; replace A1 := A1.below b6; replace A2 := A2.below b6; replace A3 := A3.below b6; replace BB := below_then BB b6; have y6 := BB.size)
  | (with_reducible refine at_op (o := ⟨_, .store 36 (.tmp 5) _, _, _, _, _⟩) ?_; refine wpList_storeI rfl 36 _ _ rfl 4 info_num (w5.heap.size) rfl .u64 _ (c0) rfl (A6) (rfl) (lc0) ?_; intro D7; replace A1 := A1.rowOther (B' := w5.heap.size) (by omega) ((c0).map (Value.int .u64)).toArray; replace A2 := A2.rowOther (B' := w5.heap.size) (by omega) ((c0).map (Value.int .u64)).toArray; replace A3 := A3.rowOther (B' := w5.heap.size) (by omega) ((c0).map (Value.int .u64)).toArray; replace BB := Below.setRow BB (g := w5.heap.size) (by omega) ((c0).map (Value.int .u64)).toArray; clear A6; have A6 := D7)
  | (go_at_call 86; first | ((with_reducible refine (HT0 _).mono ?_); rintro e w5 ⟨rfl, b5⟩; replace A1 := A1.below b5; replace A2 := A2.below b5; replace A3 := A3.below b5; replace BB := below_then BB b5; have z5 := BB.size)))
 have AU := A1
 have AR := A2
 have AC := A6
 clear A1 A2 A6 A3
 refine wp_region_ord [[], [], [0, 1], [], [2, 3]] [some 11, some 12, some 13, some 14, some 15] 5 (fun b w' => Arr .u64 w' (w.heap.size) us ∧ Arr .u64 w' (w1.heap.size) (List.replicate 4 0) ∧ Arr .u64 w' (w5.heap.size) c0 ∧ Below w.heap.size w w') (fun opn f _ => match opn with | 0 => f 0 = aggI .u64 c0 | 1 => f 1 = aggI .u64 c0 | 2 => f 2 = aggI .u64 p0 | 3 => f 3 = aggI .u64 us | 4 => f 4 = .bool (!true) | _ => True) (fun _ _ _ => True) (by kernel_rfl) (by kernel_rfl) (by kernel_rfl) (by kernel_rfl) (fun b v v' hb h => ⟨h.1.below hb, h.2.1.below hb, h.2.2.1.below hb, below_then h.2.2.2 hb⟩) (fun _ _ _ _ _ h => h) (fun _ _ _ _ _ _ _ h => h) ⟨AU.drew, AR.drew, AC.drew, BB.drew⟩ ?_ ?_
 ·
  refine StepL.other (k := 0) rfl (fun b f W hb hG hH => ?_) ?_
  ·
   clear hH
   generalize hA : putL _ _ _ _ = A
   have q5 : A.eval (.tmp 5) = .pointer (some ⟨w5.heap.size, 0, none⟩) := putLn hA 5 rfl rfl rfl
   have r5 := slot_get q5
   clear hA
   exact Does.loadI rfl 36 _ rfl 4 34 und_num info_num (w5.heap.size) q5 .u64 (c0) (hG.2.2.1) (lc0) ⟨Below.refl _ _, rfl⟩
  refine StepL.other (k := 1) rfl (fun b f W hb hG hH => ?_) ?_
  ·
   clear hH
   generalize hA : putL _ _ _ _ = A
   have q5 : A.eval (.tmp 5) = .pointer (some ⟨w5.heap.size, 0, none⟩) := putLn hA 5 rfl rfl rfl
   have r5 := slot_get q5
   clear hA
   exact Does.loadI rfl 36 _ rfl 4 34 und_num info_num (w5.heap.size) q5 .u64 (c0) (hG.2.2.1) (lc0) ⟨Below.refl _ _, rfl⟩
  refine StepL.other (k := 2) rfl (fun b f W hb hG hH => ?_) ?_
  ·
   obtain ⟨d0, d1, -⟩ := hH
   generalize hA : putL _ _ _ _ = A
   have q11 := putLl hA 11 d0 rfl rfl
   have r11 := slot_get q11
   have q12 := putLl hA 12 d1 rfl rfl
   have r12 := slot_get q12
   clear hA
   refine Does.call rfl _ _ (by go_simp) ((HP0 W).mono ?_)
   rintro e w' ⟨rfl, hb'⟩
   exact ⟨_, rfl, hb', rfl⟩
  refine StepL.other (k := 3) rfl (fun b f W hb hG hH => ?_) ?_
  ·
   clear hH
   generalize hA : putL _ _ _ _ = A
   have q1 : A.eval (.tmp 1) = .pointer (some ⟨w.heap.size, 0, none⟩) := putLn hA 1 rfl rfl rfl
   have r1 := slot_get q1
   clear hA
   exact Does.loadI rfl 36 _ rfl 4 34 und_num info_num (w.heap.size) q1 .u64 (us) (hG.1) (lus) ⟨Below.refl _ _, rfl⟩
  refine StepL.other (k := 4) rfl (fun b f W hb hG hH => ?_) ?_
  ·
   obtain ⟨d2, d3, -⟩ := hH
   generalize hA : putL _ _ _ _ = A
   have q13 := putLl hA 13 d2 rfl rfl
   have r13 := slot_get q13
   have q14 := putLl hA 14 d3 rfl rfl
   have r14 := slot_get q14
   clear hA
   exact Does.neI rfl 36 _ 34 _ _ rfl 4 und_num .u64 .u64 Tryd.underlying34 (by kernel_rfl) (by kernel_rfl) (p0) (us) q13 q14 (lp0) (lus) (!true) (by rw [show decide (p0 = us) = true from hs0]) ⟨Below.refl _ _, rfl⟩
  exact trivial
 ·
  intro f W hG hH
  obtain ⟨d0, d1, d2, d3, d4, -⟩ : (f 0 = aggI .u64 c0) ∧ (f 1 = aggI .u64 c0) ∧ (f 2 = aggI .u64 p0) ∧ (f 3 = aggI .u64 us) ∧ (f 4 = .bool (!true)) ∧ True := hH
  rw [show List.range (List.length [[], [], [0, 1], [], [2, 3]]) = [0, 1, 2, 3, 4] from rfl]
  simp only [putL, List.getElem?_cons_zero, List.getElem?_cons_succ, Option.join, Option.bind_some, id_eq, Act.put, List.setIfInBounds_toArray, List.set_cons_zero, List.set_cons_succ, d0, d1, d2, d3, d4]
  clear d0 d1 d2 d3 d4
  obtain ⟨AU, AR, AC, BB⟩ := hG
  simp only [Bool.not_true]
  go_wp2
  refine wp_region_ord [[], [], [0, 1], [], [2, 3]] [some 22, some 23, some 24, some 25, some 26] 5 (fun b w' => Arr .u64 w' (w.heap.size) us ∧ Arr .u64 w' (w1.heap.size) (List.replicate 4 0) ∧ Arr .u64 w' (w5.heap.size) c0 ∧ Below w.heap.size w w') (fun opn f _ => match opn with | 0 => f 0 = aggI .u64 c0 | 1 => f 1 = aggI .u64 c0 | 2 => f 2 = aggI .u64 p0 | 3 => f 3 = aggI .u64 us | 4 => f 4 = .bool (!true) | _ => True) (fun _ _ _ => True) (by kernel_rfl) (by kernel_rfl) (by kernel_rfl) (by kernel_rfl) (fun b v v' hb h => ⟨h.1.below hb, h.2.1.below hb, h.2.2.1.below hb, below_then h.2.2.2 hb⟩) (fun _ _ _ _ _ h => h) (fun _ _ _ _ _ _ _ h => h) ⟨AU.drew, AR.drew, AC.drew, BB.drew⟩ ?_ ?_
  ·
   refine StepL.other (k := 0) rfl (fun b f W hb hG hH => ?_) ?_
   ·
    clear hH
    generalize hA : putL _ _ _ _ = A
    have q5 : A.eval (.tmp 5) = .pointer (some ⟨w5.heap.size, 0, none⟩) := putLn hA 5 rfl rfl rfl
    have r5 := slot_get q5
    clear hA
    exact Does.loadI rfl 36 _ rfl 4 34 und_num info_num (w5.heap.size) q5 .u64 (c0) (hG.2.2.1) (lc0) ⟨Below.refl _ _, rfl⟩
   refine StepL.other (k := 1) rfl (fun b f W hb hG hH => ?_) ?_
   ·
    clear hH
    generalize hA : putL _ _ _ _ = A
    have q5 : A.eval (.tmp 5) = .pointer (some ⟨w5.heap.size, 0, none⟩) := putLn hA 5 rfl rfl rfl
    have r5 := slot_get q5
    clear hA
    exact Does.loadI rfl 36 _ rfl 4 34 und_num info_num (w5.heap.size) q5 .u64 (c0) (hG.2.2.1) (lc0) ⟨Below.refl _ _, rfl⟩
   refine StepL.other (k := 2) rfl (fun b f W hb hG hH => ?_) ?_
   ·
    obtain ⟨d0, d1, -⟩ := hH
    generalize hA : putL _ _ _ _ = A
    have q22 := putLl hA 22 d0 rfl rfl
    have r22 := slot_get q22
    have q23 := putLl hA 23 d1 rfl rfl
    have r23 := slot_get q23
    clear hA
    refine Does.call rfl _ _ (by go_simp) ((HP0 W).mono ?_)
    rintro e w' ⟨rfl, hb'⟩
    exact ⟨_, rfl, hb', rfl⟩
   refine StepL.other (k := 3) rfl (fun b f W hb hG hH => ?_) ?_
   ·
    clear hH
    generalize hA : putL _ _ _ _ = A
    have q1 : A.eval (.tmp 1) = .pointer (some ⟨w.heap.size, 0, none⟩) := putLn hA 1 rfl rfl rfl
    have r1 := slot_get q1
    clear hA
    exact Does.loadI rfl 36 _ rfl 4 34 und_num info_num (w.heap.size) q1 .u64 (us) (hG.1) (lus) ⟨Below.refl _ _, rfl⟩
   refine StepL.other (k := 4) rfl (fun b f W hb hG hH => ?_) ?_
   ·
    obtain ⟨d2, d3, -⟩ := hH
    generalize hA : putL _ _ _ _ = A
    have q24 := putLl hA 24 d2 rfl rfl
    have r24 := slot_get q24
    have q25 := putLl hA 25 d3 rfl rfl
    have r25 := slot_get q25
    clear hA
    exact Does.neI rfl 36 _ 34 _ _ rfl 4 und_num .u64 .u64 Tryd.underlying34 (by kernel_rfl) (by kernel_rfl) (p0) (us) q24 q25 (lp0) (lus) (!true) (by rw [show decide (p0 = us) = true from hs0]) ⟨Below.refl _ _, rfl⟩
   exact trivial
  ·
   intro f W hG hH
   obtain ⟨d0, d1, d2, d3, d4, -⟩ : (f 0 = aggI .u64 c0) ∧ (f 1 = aggI .u64 c0) ∧ (f 2 = aggI .u64 p0) ∧ (f 3 = aggI .u64 us) ∧ (f 4 = .bool (!true)) ∧ True := hH
   rw [show List.range (List.length [[], [], [0, 1], [], [2, 3]]) = [0, 1, 2, 3, 4] from rfl]
   simp only [putL, List.getElem?_cons_zero, List.getElem?_cons_succ, Option.join, Option.bind_some, id_eq, Act.put, List.setIfInBounds_toArray, List.set_cons_zero, List.set_cons_succ, d0, d1, d2, d3, d4]
   clear d0 d1 d2 d3 d4
   obtain ⟨AU, AR, AC, BB⟩ := hG
   simp only [Bool.not_true]
   have c0' := AC.cell (k := 0) (by omega)
   have hb := hb.out
   go_wp2_with (first
     | (with_reducible refine at_n 35 ?_; refine wpList_val (fun R hR => Does.loadI rfl 36 _ rfl 4 34 und_num info_num (w5.heap.size) rfl .u64 (c0) (AC) (lc0) hR) ?_)
     | (with_reducible refine at_op (o := ⟨_, .store 36 (.tmp 2) _, _, _, _, _⟩) ?_; refine wpList_storeI rfl 36 _ _ rfl 4 info_num (w1.heap.size) rfl .u64 _ (c0) rfl (AR) (rfl) (lc0) ?_; intro DD; replace AU := AU.rowOther (B' := w1.heap.size) (by omega) ((c0).map (Value.int .u64)).toArray; replace AC := AC.rowOther (B' := w1.heap.size) (by omega) ((c0).map (Value.int .u64)).toArray; replace BB := Below.setRow BB (g := w1.heap.size) (by omega) ((c0).map (Value.int .u64)).toArray; clear AR; have AR := DD))
   refine bodyPost_ret (results_cell_tmpI rfl _ 4 34 und_num info_num (w1.heap.size) rfl .u64 _ AR (lc0)) rfl ?_
   exact ⟨rfl, BB⟩
set_option maxHeartbeats 4000000 in
theorem square_bt (us zz es qs tt c0 p0 k c1 p1 rl : List Int) (w : World)
  (bz : Tryd.prog.built 36 [] = some (zz.map (Value.int .u64)).toArray) (be : Tryd.prog.built 36 [(0, .int .u64 18446744073709551614), (1, .int .u64 18446744073709551615), (2, .int .u64 18446744073709551615), (3, .int .u64 1152921504606846975)] = some (es.map (Value.int .u64)).toArray)
  (bq : Tryd.prog.built 36 [(0, .int .u64 18446744073709551611), (1, .int .u64 18446744073709551615), (2, .int .u64 18446744073709551615), (3, .int .u64 2305843009213693951)] = some (qs.map (Value.int .u64)).toArray)
  (bt : Tryd.prog.built 36 [(0, .int .u64 2)] = some (tt.map (Value.int .u64)).toArray)
  (lus : us.length = 4)
  (lzz : zz.length = 4)
  (les : es.length = 4)
  (lqs : qs.length = 4)
  (ltt : tt.length = 4)
  (lc0 : c0.length = 4)
  (lp0 : p0.length = 4)
  (lk : k.length = 4)
  (lc1 : c1.length = 4)
  (lp1 : p1.length = 4)
  (lrl : rl.length = 4)
  (HT0 : ∀ W, Ret 86 #[aggI .u64 us, aggI .u64 es] (aggI .u64 c0) W) (HP0 : ∀ W, Ret 57 #[aggI .u64 c0, aggI .u64 c0] (aggI .u64 p0) W)
  (HT1 : ∀ W, Ret 86 #[aggI .u64 tt, aggI .u64 qs] (aggI .u64 k) W) (HP1 : ∀ W, Ret 57 #[aggI .u64 c0, aggI .u64 k] (aggI .u64 c1) W) (HP2 : ∀ W, Ret 57 #[aggI .u64 c1, aggI .u64 c1] (aggI .u64 p1) W) (hs0 : decide (p0 = us) = false) (hs1 : decide (p1 = us) = true) (hb : Hid (bits BinOp.and IntKind.u64 (at0 c1 0) 1 = 1)) (HN : ∀ W, Ret 35 #[aggI .u64 zz, aggI .u64 c1] (aggI .u64 rl) W) :
  Calls Tryd.prog 60 #[aggI .u64 us] w fun e w' => e = .returned (.tuple #[aggI .u64 rl, .bool true]) ∧ Below w.heap.size w w' := by
 go_enter Tryd.func60, Tryd.ntmps60
 go_wp2_with (first
  | (with_reducible refine at_n 1 ?_; refine wpList_boxI rfl 36 _ rfl .u64 us rfl ?_; intro w1 A1 s1 b1; have BB := b1; have y1 := BB.size)
  | (with_reducible refine at_n 2 ?_; refine wpList_allocI rfl 36 rfl .u64 4 zero_num ?_; intro w2 A2 s2 b2; have q2A1 := A1.lt; replace A1 := A1.below b2; replace BB := below_then BB b2; have y2 := BB.size)
  | (with_reducible refine at_n 7 ?_; go_loud (refine wpList_val (fun R hR => Does.buildI rfl 36 _ rfl .u64 (es) _ (be) rfl hR) ?_))
  | (with_reducible refine at_n 4 ?_; refine wpList_allocI rfl 36 rfl .u64 4 zero_num ?_; intro w3 A3 s3 b3; have q3A1 := A1.lt; have q3A2 := A2.lt; replace A1 := A1.below b3; replace A2 := A2.below b3; replace BB := below_then BB b3; have y3 := BB.size)
  | (with_reducible refine at_op (o := ⟨_, .store 36 (.tmp 4) _, _, _, _, _⟩) ?_; refine wpList_storeI rfl 36 _ _ rfl 4 info_num (w2.heap.size) rfl .u64 _ (es) rfl (A3) (rfl) (les) ?_; intro D4; replace A1 := A1.rowOther (B' := w2.heap.size) (by omega) ((es).map (Value.int .u64)).toArray; replace A2 := A2.rowOther (B' := w2.heap.size) (by omega) ((es).map (Value.int .u64)).toArray; replace BB := Below.setRow BB (g := w2.heap.size) (by omega) ((es).map (Value.int .u64)).toArray; clear A3; have A3 := D4)
  | (with_reducible refine at_n 8 ?_; refine wpList_val (fun R hR => Does.loadI rfl 36 _ rfl 4 34 und_num info_num (w.heap.size) rfl .u64 (us) (A1) (lus) hR) ?_)
  | (with_reducible refine at_n 9 ?_; refine wpList_val (fun R hR => Does.loadI rfl 36 _ rfl 4 34 und_num info_num (w2.heap.size) rfl .u64 (es) (A3) (les) hR) ?_)
  | (with_reducible refine at_n 5 ?_; refine wpList_allocI rfl 36 rfl .u64 4 zero_num ?_; intro w6 A6 s6 b6; have q6A1 := A1.lt; have q6A2 := A2.lt; have q6A3 := A3.lt; replace A1 := A1.below b6; replace A2 := A2.below b6; replace A3 := A3.below b6; replace BB := below_then BB b6; have y6 := BB.size)
  | (with_reducible refine at_op (o := ⟨_, .store 36 (.tmp 5) _, _, _, _, _⟩) ?_; refine wpList_storeI rfl 36 _ _ rfl 4 info_num (w5.heap.size) rfl .u64 _ (c0) rfl (A6) (rfl) (lc0) ?_; intro D7; replace A1 := A1.rowOther (B' := w5.heap.size) (by omega) ((c0).map (Value.int .u64)).toArray; replace A2 := A2.rowOther (B' := w5.heap.size) (by omega) ((c0).map (Value.int .u64)).toArray; replace A3 := A3.rowOther (B' := w5.heap.size) (by omega) ((c0).map (Value.int .u64)).toArray; replace BB := Below.setRow BB (g := w5.heap.size) (by omega) ((c0).map (Value.int .u64)).toArray; clear A6; have A6 := D7)
  | (go_at_call 86; first | ((with_reducible refine (HT0 _).mono ?_); rintro e w5 ⟨rfl, b5⟩; replace A1 := A1.below b5; replace A2 := A2.below b5; replace A3 := A3.below b5; replace BB := below_then BB b5; have z5 := BB.size)))
 have AU := A1
 have AR := A2
 have AC := A6
 clear A1 A2 A6 A3
 refine wp_region_ord [[], [], [0, 1], [], [2, 3]] [some 11, some 12, some 13, some 14, some 15] 5 (fun b w' => Arr .u64 w' (w.heap.size) us ∧ Arr .u64 w' (w1.heap.size) (List.replicate 4 0) ∧ Arr .u64 w' (w5.heap.size) c0 ∧ Below w.heap.size w w') (fun opn f _ => match opn with | 0 => f 0 = aggI .u64 c0 | 1 => f 1 = aggI .u64 c0 | 2 => f 2 = aggI .u64 p0 | 3 => f 3 = aggI .u64 us | 4 => f 4 = .bool (!false) | _ => True) (fun _ _ _ => True) (by kernel_rfl) (by kernel_rfl) (by kernel_rfl) (by kernel_rfl) (fun b v v' hb h => ⟨h.1.below hb, h.2.1.below hb, h.2.2.1.below hb, below_then h.2.2.2 hb⟩) (fun _ _ _ _ _ h => h) (fun _ _ _ _ _ _ _ h => h) ⟨AU.drew, AR.drew, AC.drew, BB.drew⟩ ?_ ?_
 ·
  refine StepL.other (k := 0) rfl (fun b f W hb hG hH => ?_) ?_
  ·
   clear hH
   generalize hA : putL _ _ _ _ = A
   have q5 : A.eval (.tmp 5) = .pointer (some ⟨w5.heap.size, 0, none⟩) := putLn hA 5 rfl rfl rfl
   have r5 := slot_get q5
   clear hA
   exact Does.loadI rfl 36 _ rfl 4 34 und_num info_num (w5.heap.size) q5 .u64 (c0) (hG.2.2.1) (lc0) ⟨Below.refl _ _, rfl⟩
  refine StepL.other (k := 1) rfl (fun b f W hb hG hH => ?_) ?_
  ·
   clear hH
   generalize hA : putL _ _ _ _ = A
   have q5 : A.eval (.tmp 5) = .pointer (some ⟨w5.heap.size, 0, none⟩) := putLn hA 5 rfl rfl rfl
   have r5 := slot_get q5
   clear hA
   exact Does.loadI rfl 36 _ rfl 4 34 und_num info_num (w5.heap.size) q5 .u64 (c0) (hG.2.2.1) (lc0) ⟨Below.refl _ _, rfl⟩
  refine StepL.other (k := 2) rfl (fun b f W hb hG hH => ?_) ?_
  ·
   obtain ⟨d0, d1, -⟩ := hH
   generalize hA : putL _ _ _ _ = A
   have q11 := putLl hA 11 d0 rfl rfl
   have r11 := slot_get q11
   have q12 := putLl hA 12 d1 rfl rfl
   have r12 := slot_get q12
   clear hA
   refine Does.call rfl _ _ (by go_simp) ((HP0 W).mono ?_)
   rintro e w' ⟨rfl, hb'⟩
   exact ⟨_, rfl, hb', rfl⟩
  refine StepL.other (k := 3) rfl (fun b f W hb hG hH => ?_) ?_
  ·
   clear hH
   generalize hA : putL _ _ _ _ = A
   have q1 : A.eval (.tmp 1) = .pointer (some ⟨w.heap.size, 0, none⟩) := putLn hA 1 rfl rfl rfl
   have r1 := slot_get q1
   clear hA
   exact Does.loadI rfl 36 _ rfl 4 34 und_num info_num (w.heap.size) q1 .u64 (us) (hG.1) (lus) ⟨Below.refl _ _, rfl⟩
  refine StepL.other (k := 4) rfl (fun b f W hb hG hH => ?_) ?_
  ·
   obtain ⟨d2, d3, -⟩ := hH
   generalize hA : putL _ _ _ _ = A
   have q13 := putLl hA 13 d2 rfl rfl
   have r13 := slot_get q13
   have q14 := putLl hA 14 d3 rfl rfl
   have r14 := slot_get q14
   clear hA
   exact Does.neI rfl 36 _ 34 _ _ rfl 4 und_num .u64 .u64 Tryd.underlying34 (by kernel_rfl) (by kernel_rfl) (p0) (us) q13 q14 (lp0) (lus) (!false) (by rw [show decide (p0 = us) = false from hs0]) ⟨Below.refl _ _, rfl⟩
  exact trivial
 ·
  intro f W hG hH
  obtain ⟨d0, d1, d2, d3, d4, -⟩ : (f 0 = aggI .u64 c0) ∧ (f 1 = aggI .u64 c0) ∧ (f 2 = aggI .u64 p0) ∧ (f 3 = aggI .u64 us) ∧ (f 4 = .bool (!false)) ∧ True := hH
  rw [show List.range (List.length [[], [], [0, 1], [], [2, 3]]) = [0, 1, 2, 3, 4] from rfl]
  simp only [putL, List.getElem?_cons_zero, List.getElem?_cons_succ, Option.join, Option.bind_some, id_eq, Act.put, List.setIfInBounds_toArray, List.set_cons_zero, List.set_cons_succ, d0, d1, d2, d3, d4]
  clear d0 d1 d2 d3 d4
  obtain ⟨AU, AR, AC, BB⟩ := hG
  simp only [Bool.not_false]
  have k1 := AU.lt; have k2 := AR.lt; have k3 := AC.lt; have k4 := BB.size
  go_wp2_with (first
    | (with_reducible refine at_n 16 ?_; go_loud (refine wpList_val (fun R hR => Does.buildI rfl 36 _ rfl .u64 (qs) _ (bq) rfl hR) ?_))
    | (with_reducible refine at_n 6 ?_; refine wpList_allocI rfl 36 rfl .u64 4 zero_num ?_; intro w30 AQ s30 b30; replace AU := AU.below b30; replace AR := AR.below b30; replace AC := AC.below b30; replace BB := below_then BB b30; have k5 := AQ.lt)
    | (with_reducible refine at_op (o := ⟨_, .store 36 (.tmp 6) _, _, _, _, _⟩) ?_; refine wpList_storeI rfl 36 _ _ rfl 4 info_num (W.heap.size) rfl .u64 _ (qs) rfl (AQ) (rfl) (lqs) ?_; intro DD; replace AU := AU.rowOther (B' := W.heap.size) (by omega) ((qs).map (Value.int .u64)).toArray; replace AR := AR.rowOther (B' := W.heap.size) (by omega) ((qs).map (Value.int .u64)).toArray; replace AC := AC.rowOther (B' := W.heap.size) (by omega) ((qs).map (Value.int .u64)).toArray; replace BB := Below.setRow BB (g := W.heap.size) (by omega) ((qs).map (Value.int .u64)).toArray; clear AQ; have AQ := DD))
  generalize W.heap.size = BQ at *
  refine wp_region_ord [[], [], [], [1, 2], [0, 3, 3], [4, 4, 0, 1, 2, 3, 4]] [some 17, some 18, some 19, some 20, some 21, none] 5 (fun b w' => Arr .u64 w' (w.heap.size) us ∧ Arr .u64 w' (w1.heap.size) (List.replicate 4 0) ∧ Arr .u64 w' (w5.heap.size) (if b then c1 else c0) ∧ Arr .u64 w' BQ qs ∧ Below w.heap.size w w') (fun opn f _ => match opn with | 0 => f 0 = aggI .u64 c0 | 1 => f 1 = aggI .u64 tt | 2 => f 2 = aggI .u64 qs | 3 => f 3 = aggI .u64 k | 4 => f 4 = aggI .u64 c1 | 5 => f 5 = undef | _ => True) (fun _ v v' => ∃ cs, v' = v.setRow (w5.heap.size) cs) (by kernel_rfl) (by kernel_rfl) (by kernel_rfl) (by kernel_rfl) (fun b v v' hb h => ⟨h.1.below hb, h.2.1.below hb, h.2.2.1.below hb, h.2.2.2.1.below hb, below_then h.2.2.2.2 hb⟩) (fun _ _ _ _ _ h => h) (fun _ _ _ _ _ _ _ h => h) ⟨AU.drew, AR.drew, AC.drew, AQ.drew, BB.drew⟩ ?_ ?_
  ·
   refine StepL.other (k := 0) rfl (fun b f W hb hG hH => ?_) ?_
   ·
    obtain rfl := hb rfl
    clear hH
    generalize hA : putL _ _ _ _ = A
    have q5 : A.eval (.tmp 5) = .pointer (some ⟨w5.heap.size, 0, none⟩) := putLn hA 5 rfl rfl rfl
    have r5 := slot_get q5
    clear hA
    exact Does.loadI rfl 36 _ rfl 4 34 und_num info_num (w5.heap.size) q5 .u64 (c0) (hG.2.2.1) (lc0) ⟨Below.refl _ _, rfl⟩
   refine StepL.other (k := 1) rfl (fun b f W hb hG hH => ?_) ?_
   ·
    obtain rfl := hb rfl
    clear hH
    generalize hA : putL _ _ _ _ = A
    clear hA
    exact Does.buildI rfl 36 _ rfl .u64 (tt) _ bt rfl ⟨Below.refl _ _, rfl⟩
   refine StepL.other (k := 2) rfl (fun b f W hb hG hH => ?_) ?_
   ·
    obtain rfl := hb rfl
    clear hH
    generalize hA : putL _ _ _ _ = A
    have q6 : A.eval (.tmp 6) = .pointer (some ⟨BQ, 0, none⟩) := putLn hA 6 rfl rfl rfl
    have r6 := slot_get q6
    clear hA
    exact Does.loadI rfl 36 _ rfl 4 34 und_num info_num (BQ) q6 .u64 (qs) (hG.2.2.2.1) (lqs) ⟨Below.refl _ _, rfl⟩
   refine StepL.other (k := 3) rfl (fun b f W hb hG hH => ?_) ?_
   ·
    obtain rfl := hb rfl
    obtain ⟨d1, d2, -⟩ := hH
    generalize hA : putL _ _ _ _ = A
    have q18 := putLl hA 18 d1 rfl rfl
    have r18 := slot_get q18
    have q19 := putLl hA 19 d2 rfl rfl
    have r19 := slot_get q19
    clear hA
    refine Does.call rfl _ _ (by go_simp) ((HT1 W).mono ?_)
    rintro e w' ⟨rfl, hb'⟩
    exact ⟨_, rfl, hb', rfl⟩
   refine StepL.other (k := 4) rfl (fun b f W hb hG hH => ?_) ?_
   ·
    obtain rfl := hb rfl
    obtain ⟨d0, d3, -, -⟩ := hH
    generalize hA : putL _ _ _ _ = A
    have q17 := putLl hA 17 d0 rfl rfl
    have r17 := slot_get q17
    have q20 := putLl hA 20 d3 rfl rfl
    have r20 := slot_get q20
    clear hA
    refine Does.call rfl _ _ (by go_simp) ((HP1 W).mono ?_)
    rintro e w' ⟨rfl, hb'⟩
    exact ⟨_, rfl, hb', rfl⟩
   refine StepL.self (k := 5) rfl (fun f W hG hH => ?_) ?_
   ·
    obtain ⟨d4, -, d0, d1, d2, d3, -, -⟩ := hH
    generalize hA : putL _ _ _ _ = A
    have q5 : A.eval (.tmp 5) = .pointer (some ⟨w5.heap.size, 0, none⟩) := putLn hA 5 rfl rfl rfl
    have r5 := slot_get q5
    have q21 := putLl hA 21 d4 rfl rfl
    have r21 := slot_get q21
    clear hA
    refine Does.storeI rfl 36 _ _ rfl 4 info_num (w5.heap.size) q5 .u64 _ _ q21 hG.2.2.1 lc0 lc1 ?_
    intro A9
    exact ⟨⟨_, rfl⟩, ⟨hG.1.rowOther (by omega) _, hG.2.1.rowOther (by omega) _, A9, hG.2.2.2.1.rowOther (by omega) _, Below.setRow hG.2.2.2.2 (by omega) _⟩, rfl⟩
   exact trivial
  ·
   intro f W hG hH
   obtain ⟨d0, d1, d2, d3, d4, d5, -⟩ : (f 0 = aggI .u64 c0) ∧ (f 1 = aggI .u64 tt) ∧ (f 2 = aggI .u64 qs) ∧ (f 3 = aggI .u64 k) ∧ (f 4 = aggI .u64 c1) ∧ (f 5 = undef) ∧ True := hH
   rw [show List.range (List.length [[], [], [], [1, 2], [0, 3, 3], [4, 4, 0, 1, 2, 3, 4]]) = [0, 1, 2, 3, 4, 5] from rfl]
   simp only [putL, List.getElem?_cons_zero, List.getElem?_cons_succ, Option.join, Option.bind_some, id_eq, Act.put, List.setIfInBounds_toArray, List.set_cons_zero, List.set_cons_succ, d0, d1, d2, d3, d4]
   clear d0 d1 d2 d3 d4 d5
   obtain ⟨AU, AR, AC, -, BB⟩ := hG
   have AC : Arr .u64 W (w5.heap.size) c1 := AC
   go_wp2
   refine wp_region_ord [[], [], [0, 1], [], [2, 3]] [some 22, some 23, some 24, some 25, some 26] 5 (fun b w' => Arr .u64 w' (w.heap.size) us ∧ Arr .u64 w' (w1.heap.size) (List.replicate 4 0) ∧ Arr .u64 w' (w5.heap.size) c1 ∧ Below w.heap.size w w') (fun opn f _ => match opn with | 0 => f 0 = aggI .u64 c1 | 1 => f 1 = aggI .u64 c1 | 2 => f 2 = aggI .u64 p1 | 3 => f 3 = aggI .u64 us | 4 => f 4 = .bool (!true) | _ => True) (fun _ _ _ => True) (by kernel_rfl) (by kernel_rfl) (by kernel_rfl) (by kernel_rfl) (fun b v v' hb h => ⟨h.1.below hb, h.2.1.below hb, h.2.2.1.below hb, below_then h.2.2.2 hb⟩) (fun _ _ _ _ _ h => h) (fun _ _ _ _ _ _ _ h => h) ⟨AU.drew, AR.drew, AC.drew, BB.drew⟩ ?_ ?_
   ·
    refine StepL.other (k := 0) rfl (fun b f W hb hG hH => ?_) ?_
    ·
     clear hH
     generalize hA : putL _ _ _ _ = A
     have q5 : A.eval (.tmp 5) = .pointer (some ⟨w5.heap.size, 0, none⟩) := putLn hA 5 rfl rfl rfl
     have r5 := slot_get q5
     clear hA
     exact Does.loadI rfl 36 _ rfl 4 34 und_num info_num (w5.heap.size) q5 .u64 (c1) (hG.2.2.1) (lc1) ⟨Below.refl _ _, rfl⟩
    refine StepL.other (k := 1) rfl (fun b f W hb hG hH => ?_) ?_
    ·
     clear hH
     generalize hA : putL _ _ _ _ = A
     have q5 : A.eval (.tmp 5) = .pointer (some ⟨w5.heap.size, 0, none⟩) := putLn hA 5 rfl rfl rfl
     have r5 := slot_get q5
     clear hA
     exact Does.loadI rfl 36 _ rfl 4 34 und_num info_num (w5.heap.size) q5 .u64 (c1) (hG.2.2.1) (lc1) ⟨Below.refl _ _, rfl⟩
    refine StepL.other (k := 2) rfl (fun b f W hb hG hH => ?_) ?_
    ·
     obtain ⟨d0, d1, -⟩ := hH
     generalize hA : putL _ _ _ _ = A
     have q22 := putLl hA 22 d0 rfl rfl
     have r22 := slot_get q22
     have q23 := putLl hA 23 d1 rfl rfl
     have r23 := slot_get q23
     clear hA
     refine Does.call rfl _ _ (by go_simp) ((HP2 W).mono ?_)
     rintro e w' ⟨rfl, hb'⟩
     exact ⟨_, rfl, hb', rfl⟩
    refine StepL.other (k := 3) rfl (fun b f W hb hG hH => ?_) ?_
    ·
     clear hH
     generalize hA : putL _ _ _ _ = A
     have q1 : A.eval (.tmp 1) = .pointer (some ⟨w.heap.size, 0, none⟩) := putLn hA 1 rfl rfl rfl
     have r1 := slot_get q1
     clear hA
     exact Does.loadI rfl 36 _ rfl 4 34 und_num info_num (w.heap.size) q1 .u64 (us) (hG.1) (lus) ⟨Below.refl _ _, rfl⟩
    refine StepL.other (k := 4) rfl (fun b f W hb hG hH => ?_) ?_
    ·
     obtain ⟨d2, d3, -⟩ := hH
     generalize hA : putL _ _ _ _ = A
     have q24 := putLl hA 24 d2 rfl rfl
     have r24 := slot_get q24
     have q25 := putLl hA 25 d3 rfl rfl
     have r25 := slot_get q25
     clear hA
     exact Does.neI rfl 36 _ 34 _ _ rfl 4 und_num .u64 .u64 Tryd.underlying34 (by kernel_rfl) (by kernel_rfl) (p1) (us) q24 q25 (lp1) (lus) (!true) (by rw [show decide (p1 = us) = true from hs1]) ⟨Below.refl _ _, rfl⟩
    exact trivial
   ·
    intro f W hG hH
    obtain ⟨d0, d1, d2, d3, d4, -⟩ : (f 0 = aggI .u64 c1) ∧ (f 1 = aggI .u64 c1) ∧ (f 2 = aggI .u64 p1) ∧ (f 3 = aggI .u64 us) ∧ (f 4 = .bool (!true)) ∧ True := hH
    rw [show List.range (List.length [[], [], [0, 1], [], [2, 3]]) = [0, 1, 2, 3, 4] from rfl]
    simp only [putL, List.getElem?_cons_zero, List.getElem?_cons_succ, Option.join, Option.bind_some, id_eq, Act.put, List.setIfInBounds_toArray, List.set_cons_zero, List.set_cons_succ, d0, d1, d2, d3, d4]
    clear d0 d1 d2 d3 d4
    obtain ⟨AU, AR, AC, BB⟩ := hG
    simp only [Bool.not_true]
    have c0' := AC.cell (k := 0) (by omega)
    have hb := hb.out
    go_wp2_with (first
      | (with_reducible refine at_n 32 ?_; go_loud (refine wpList_val (fun R hR => Does.buildI rfl 36 _ rfl .u64 (zz) _ (bz) rfl hR) ?_))
      | (with_reducible refine at_n 33 ?_; refine wpList_val (fun R hR => Does.loadI rfl 36 _ rfl 4 34 und_num info_num (w5.heap.size) rfl .u64 (c1) (AC) (lc1) hR) ?_)
      | (go_at_call 35; refine (HN _).mono ?_; rintro e w20 ⟨rfl, b20⟩; replace AU := AU.below b20; replace AR := AR.below b20; replace AC := AC.below b20; replace BB := below_then BB b20)
      | (with_reducible refine at_op (o := ⟨_, .store 36 (.tmp 5) _, _, _, _, _⟩) ?_; refine wpList_storeI rfl 36 _ _ rfl 4 info_num (w5.heap.size) rfl .u64 _ (rl) rfl (AC) (lc1) (lrl) ?_; intro DD; replace AU := AU.rowOther (B' := w5.heap.size) (by omega) ((rl).map (Value.int .u64)).toArray; replace AR := AR.rowOther (B' := w5.heap.size) (by omega) ((rl).map (Value.int .u64)).toArray; replace BB := Below.setRow BB (g := w5.heap.size) (by omega) ((rl).map (Value.int .u64)).toArray; clear AC; have AC := DD)
      | (with_reducible refine at_n 35 ?_; refine wpList_val (fun R hR => Does.loadI rfl 36 _ rfl 4 34 und_num info_num (w5.heap.size) rfl .u64 (rl) (AC) (lrl) hR) ?_)
      | (with_reducible refine at_op (o := ⟨_, .store 36 (.tmp 2) _, _, _, _, _⟩) ?_; refine wpList_storeI rfl 36 _ _ rfl 4 info_num (w1.heap.size) rfl .u64 _ (rl) rfl (AR) (rfl) (lrl) ?_; intro DD; replace AU := AU.rowOther (B' := w1.heap.size) (by omega) ((rl).map (Value.int .u64)).toArray; replace AC := AC.rowOther (B' := w1.heap.size) (by omega) ((rl).map (Value.int .u64)).toArray; replace BB := Below.setRow BB (g := w1.heap.size) (by omega) ((rl).map (Value.int .u64)).toArray; clear AR; have AR := DD))
    refine bodyPost_ret (results_cell_tmpI rfl _ 4 34 und_num info_num (w1.heap.size) rfl .u64 _ AR (lrl)) rfl ?_
    exact ⟨rfl, BB⟩
set_option maxHeartbeats 4000000 in
theorem square_bf (us zz es qs tt c0 p0 k c1 p1 rl : List Int) (w : World)
  (bz : Tryd.prog.built 36 [] = some (zz.map (Value.int .u64)).toArray) (be : Tryd.prog.built 36 [(0, .int .u64 18446744073709551614), (1, .int .u64 18446744073709551615), (2, .int .u64 18446744073709551615), (3, .int .u64 1152921504606846975)] = some (es.map (Value.int .u64)).toArray)
  (bq : Tryd.prog.built 36 [(0, .int .u64 18446744073709551611), (1, .int .u64 18446744073709551615), (2, .int .u64 18446744073709551615), (3, .int .u64 2305843009213693951)] = some (qs.map (Value.int .u64)).toArray)
  (bt : Tryd.prog.built 36 [(0, .int .u64 2)] = some (tt.map (Value.int .u64)).toArray)
  (lus : us.length = 4)
  (lzz : zz.length = 4)
  (les : es.length = 4)
  (lqs : qs.length = 4)
  (ltt : tt.length = 4)
  (lc0 : c0.length = 4)
  (lp0 : p0.length = 4)
  (lk : k.length = 4)
  (lc1 : c1.length = 4)
  (lp1 : p1.length = 4)
  (lrl : rl.length = 4)
  (HT0 : ∀ W, Ret 86 #[aggI .u64 us, aggI .u64 es] (aggI .u64 c0) W) (HP0 : ∀ W, Ret 57 #[aggI .u64 c0, aggI .u64 c0] (aggI .u64 p0) W)
  (HT1 : ∀ W, Ret 86 #[aggI .u64 tt, aggI .u64 qs] (aggI .u64 k) W) (HP1 : ∀ W, Ret 57 #[aggI .u64 c0, aggI .u64 k] (aggI .u64 c1) W) (HP2 : ∀ W, Ret 57 #[aggI .u64 c1, aggI .u64 c1] (aggI .u64 p1) W) (hs0 : decide (p0 = us) = false) (hs1 : decide (p1 = us) = true) (hb : Hid (bits BinOp.and IntKind.u64 (at0 c1 0) 1 = 0))  :
  Calls Tryd.prog 60 #[aggI .u64 us] w fun e w' => e = .returned (.tuple #[aggI .u64 c1, .bool true]) ∧ Below w.heap.size w w' := by
 go_enter Tryd.func60, Tryd.ntmps60
 go_wp2_with (first
  | (with_reducible refine at_n 1 ?_; refine wpList_boxI rfl 36 _ rfl .u64 us rfl ?_; intro w1 A1 s1 b1; have BB := b1; have y1 := BB.size)
  | (with_reducible refine at_n 2 ?_; refine wpList_allocI rfl 36 rfl .u64 4 zero_num ?_; intro w2 A2 s2 b2; have q2A1 := A1.lt; replace A1 := A1.below b2; replace BB := below_then BB b2; have y2 := BB.size)
  | (with_reducible refine at_n 7 ?_; go_loud (refine wpList_val (fun R hR => Does.buildI rfl 36 _ rfl .u64 (es) _ (be) rfl hR) ?_))
  | (with_reducible refine at_n 4 ?_; refine wpList_allocI rfl 36 rfl .u64 4 zero_num ?_; intro w3 A3 s3 b3; have q3A1 := A1.lt; have q3A2 := A2.lt; replace A1 := A1.below b3; replace A2 := A2.below b3; replace BB := below_then BB b3; have y3 := BB.size)
  | (with_reducible refine at_op (o := ⟨_, .store 36 (.tmp 4) _, _, _, _, _⟩) ?_; refine wpList_storeI rfl 36 _ _ rfl 4 info_num (w2.heap.size) rfl .u64 _ (es) rfl (A3) (rfl) (les) ?_; intro D4; replace A1 := A1.rowOther (B' := w2.heap.size) (by omega) ((es).map (Value.int .u64)).toArray; replace A2 := A2.rowOther (B' := w2.heap.size) (by omega) ((es).map (Value.int .u64)).toArray; replace BB := Below.setRow BB (g := w2.heap.size) (by omega) ((es).map (Value.int .u64)).toArray; clear A3; have A3 := D4)
  | (with_reducible refine at_n 8 ?_; refine wpList_val (fun R hR => Does.loadI rfl 36 _ rfl 4 34 und_num info_num (w.heap.size) rfl .u64 (us) (A1) (lus) hR) ?_)
  | (with_reducible refine at_n 9 ?_; refine wpList_val (fun R hR => Does.loadI rfl 36 _ rfl 4 34 und_num info_num (w2.heap.size) rfl .u64 (es) (A3) (les) hR) ?_)
  | (with_reducible refine at_n 5 ?_; refine wpList_allocI rfl 36 rfl .u64 4 zero_num ?_; intro w6 A6 s6 b6; have q6A1 := A1.lt; have q6A2 := A2.lt; have q6A3 := A3.lt; replace A1 := A1.below b6; replace A2 := A2.below b6; replace A3 := A3.below b6; replace BB := below_then BB b6; have y6 := BB.size)
  | (with_reducible refine at_op (o := ⟨_, .store 36 (.tmp 5) _, _, _, _, _⟩) ?_; refine wpList_storeI rfl 36 _ _ rfl 4 info_num (w5.heap.size) rfl .u64 _ (c0) rfl (A6) (rfl) (lc0) ?_; intro D7; replace A1 := A1.rowOther (B' := w5.heap.size) (by omega) ((c0).map (Value.int .u64)).toArray; replace A2 := A2.rowOther (B' := w5.heap.size) (by omega) ((c0).map (Value.int .u64)).toArray; replace A3 := A3.rowOther (B' := w5.heap.size) (by omega) ((c0).map (Value.int .u64)).toArray; replace BB := Below.setRow BB (g := w5.heap.size) (by omega) ((c0).map (Value.int .u64)).toArray; clear A6; have A6 := D7)
  | (go_at_call 86; first | ((with_reducible refine (HT0 _).mono ?_); rintro e w5 ⟨rfl, b5⟩; replace A1 := A1.below b5; replace A2 := A2.below b5; replace A3 := A3.below b5; replace BB := below_then BB b5; have z5 := BB.size)))
 have AU := A1
 have AR := A2
 have AC := A6
 clear A1 A2 A6 A3
 refine wp_region_ord [[], [], [0, 1], [], [2, 3]] [some 11, some 12, some 13, some 14, some 15] 5 (fun b w' => Arr .u64 w' (w.heap.size) us ∧ Arr .u64 w' (w1.heap.size) (List.replicate 4 0) ∧ Arr .u64 w' (w5.heap.size) c0 ∧ Below w.heap.size w w') (fun opn f _ => match opn with | 0 => f 0 = aggI .u64 c0 | 1 => f 1 = aggI .u64 c0 | 2 => f 2 = aggI .u64 p0 | 3 => f 3 = aggI .u64 us | 4 => f 4 = .bool (!false) | _ => True) (fun _ _ _ => True) (by kernel_rfl) (by kernel_rfl) (by kernel_rfl) (by kernel_rfl) (fun b v v' hb h => ⟨h.1.below hb, h.2.1.below hb, h.2.2.1.below hb, below_then h.2.2.2 hb⟩) (fun _ _ _ _ _ h => h) (fun _ _ _ _ _ _ _ h => h) ⟨AU.drew, AR.drew, AC.drew, BB.drew⟩ ?_ ?_
 ·
  refine StepL.other (k := 0) rfl (fun b f W hb hG hH => ?_) ?_
  ·
   clear hH
   generalize hA : putL _ _ _ _ = A
   have q5 : A.eval (.tmp 5) = .pointer (some ⟨w5.heap.size, 0, none⟩) := putLn hA 5 rfl rfl rfl
   have r5 := slot_get q5
   clear hA
   exact Does.loadI rfl 36 _ rfl 4 34 und_num info_num (w5.heap.size) q5 .u64 (c0) (hG.2.2.1) (lc0) ⟨Below.refl _ _, rfl⟩
  refine StepL.other (k := 1) rfl (fun b f W hb hG hH => ?_) ?_
  ·
   clear hH
   generalize hA : putL _ _ _ _ = A
   have q5 : A.eval (.tmp 5) = .pointer (some ⟨w5.heap.size, 0, none⟩) := putLn hA 5 rfl rfl rfl
   have r5 := slot_get q5
   clear hA
   exact Does.loadI rfl 36 _ rfl 4 34 und_num info_num (w5.heap.size) q5 .u64 (c0) (hG.2.2.1) (lc0) ⟨Below.refl _ _, rfl⟩
  refine StepL.other (k := 2) rfl (fun b f W hb hG hH => ?_) ?_
  ·
   obtain ⟨d0, d1, -⟩ := hH
   generalize hA : putL _ _ _ _ = A
   have q11 := putLl hA 11 d0 rfl rfl
   have r11 := slot_get q11
   have q12 := putLl hA 12 d1 rfl rfl
   have r12 := slot_get q12
   clear hA
   refine Does.call rfl _ _ (by go_simp) ((HP0 W).mono ?_)
   rintro e w' ⟨rfl, hb'⟩
   exact ⟨_, rfl, hb', rfl⟩
  refine StepL.other (k := 3) rfl (fun b f W hb hG hH => ?_) ?_
  ·
   clear hH
   generalize hA : putL _ _ _ _ = A
   have q1 : A.eval (.tmp 1) = .pointer (some ⟨w.heap.size, 0, none⟩) := putLn hA 1 rfl rfl rfl
   have r1 := slot_get q1
   clear hA
   exact Does.loadI rfl 36 _ rfl 4 34 und_num info_num (w.heap.size) q1 .u64 (us) (hG.1) (lus) ⟨Below.refl _ _, rfl⟩
  refine StepL.other (k := 4) rfl (fun b f W hb hG hH => ?_) ?_
  ·
   obtain ⟨d2, d3, -⟩ := hH
   generalize hA : putL _ _ _ _ = A
   have q13 := putLl hA 13 d2 rfl rfl
   have r13 := slot_get q13
   have q14 := putLl hA 14 d3 rfl rfl
   have r14 := slot_get q14
   clear hA
   exact Does.neI rfl 36 _ 34 _ _ rfl 4 und_num .u64 .u64 Tryd.underlying34 (by kernel_rfl) (by kernel_rfl) (p0) (us) q13 q14 (lp0) (lus) (!false) (by rw [show decide (p0 = us) = false from hs0]) ⟨Below.refl _ _, rfl⟩
  exact trivial
 ·
  intro f W hG hH
  obtain ⟨d0, d1, d2, d3, d4, -⟩ : (f 0 = aggI .u64 c0) ∧ (f 1 = aggI .u64 c0) ∧ (f 2 = aggI .u64 p0) ∧ (f 3 = aggI .u64 us) ∧ (f 4 = .bool (!false)) ∧ True := hH
  rw [show List.range (List.length [[], [], [0, 1], [], [2, 3]]) = [0, 1, 2, 3, 4] from rfl]
  simp only [putL, List.getElem?_cons_zero, List.getElem?_cons_succ, Option.join, Option.bind_some, id_eq, Act.put, List.setIfInBounds_toArray, List.set_cons_zero, List.set_cons_succ, d0, d1, d2, d3, d4]
  clear d0 d1 d2 d3 d4
  obtain ⟨AU, AR, AC, BB⟩ := hG
  simp only [Bool.not_false]
  have k1 := AU.lt; have k2 := AR.lt; have k3 := AC.lt; have k4 := BB.size
  go_wp2_with (first
    | (with_reducible refine at_n 16 ?_; go_loud (refine wpList_val (fun R hR => Does.buildI rfl 36 _ rfl .u64 (qs) _ (bq) rfl hR) ?_))
    | (with_reducible refine at_n 6 ?_; refine wpList_allocI rfl 36 rfl .u64 4 zero_num ?_; intro w30 AQ s30 b30; replace AU := AU.below b30; replace AR := AR.below b30; replace AC := AC.below b30; replace BB := below_then BB b30; have k5 := AQ.lt)
    | (with_reducible refine at_op (o := ⟨_, .store 36 (.tmp 6) _, _, _, _, _⟩) ?_; refine wpList_storeI rfl 36 _ _ rfl 4 info_num (W.heap.size) rfl .u64 _ (qs) rfl (AQ) (rfl) (lqs) ?_; intro DD; replace AU := AU.rowOther (B' := W.heap.size) (by omega) ((qs).map (Value.int .u64)).toArray; replace AR := AR.rowOther (B' := W.heap.size) (by omega) ((qs).map (Value.int .u64)).toArray; replace AC := AC.rowOther (B' := W.heap.size) (by omega) ((qs).map (Value.int .u64)).toArray; replace BB := Below.setRow BB (g := W.heap.size) (by omega) ((qs).map (Value.int .u64)).toArray; clear AQ; have AQ := DD))
  generalize W.heap.size = BQ at *
  refine wp_region_ord [[], [], [], [1, 2], [0, 3, 3], [4, 4, 0, 1, 2, 3, 4]] [some 17, some 18, some 19, some 20, some 21, none] 5 (fun b w' => Arr .u64 w' (w.heap.size) us ∧ Arr .u64 w' (w1.heap.size) (List.replicate 4 0) ∧ Arr .u64 w' (w5.heap.size) (if b then c1 else c0) ∧ Arr .u64 w' BQ qs ∧ Below w.heap.size w w') (fun opn f _ => match opn with | 0 => f 0 = aggI .u64 c0 | 1 => f 1 = aggI .u64 tt | 2 => f 2 = aggI .u64 qs | 3 => f 3 = aggI .u64 k | 4 => f 4 = aggI .u64 c1 | 5 => f 5 = undef | _ => True) (fun _ v v' => ∃ cs, v' = v.setRow (w5.heap.size) cs) (by kernel_rfl) (by kernel_rfl) (by kernel_rfl) (by kernel_rfl) (fun b v v' hb h => ⟨h.1.below hb, h.2.1.below hb, h.2.2.1.below hb, h.2.2.2.1.below hb, below_then h.2.2.2.2 hb⟩) (fun _ _ _ _ _ h => h) (fun _ _ _ _ _ _ _ h => h) ⟨AU.drew, AR.drew, AC.drew, AQ.drew, BB.drew⟩ ?_ ?_
  ·
   refine StepL.other (k := 0) rfl (fun b f W hb hG hH => ?_) ?_
   ·
    obtain rfl := hb rfl
    clear hH
    generalize hA : putL _ _ _ _ = A
    have q5 : A.eval (.tmp 5) = .pointer (some ⟨w5.heap.size, 0, none⟩) := putLn hA 5 rfl rfl rfl
    have r5 := slot_get q5
    clear hA
    exact Does.loadI rfl 36 _ rfl 4 34 und_num info_num (w5.heap.size) q5 .u64 (c0) (hG.2.2.1) (lc0) ⟨Below.refl _ _, rfl⟩
   refine StepL.other (k := 1) rfl (fun b f W hb hG hH => ?_) ?_
   ·
    obtain rfl := hb rfl
    clear hH
    generalize hA : putL _ _ _ _ = A
    clear hA
    exact Does.buildI rfl 36 _ rfl .u64 (tt) _ bt rfl ⟨Below.refl _ _, rfl⟩
   refine StepL.other (k := 2) rfl (fun b f W hb hG hH => ?_) ?_
   ·
    obtain rfl := hb rfl
    clear hH
    generalize hA : putL _ _ _ _ = A
    have q6 : A.eval (.tmp 6) = .pointer (some ⟨BQ, 0, none⟩) := putLn hA 6 rfl rfl rfl
    have r6 := slot_get q6
    clear hA
    exact Does.loadI rfl 36 _ rfl 4 34 und_num info_num (BQ) q6 .u64 (qs) (hG.2.2.2.1) (lqs) ⟨Below.refl _ _, rfl⟩
   refine StepL.other (k := 3) rfl (fun b f W hb hG hH => ?_) ?_
   ·
    obtain rfl := hb rfl
    obtain ⟨d1, d2, -⟩ := hH
    generalize hA : putL _ _ _ _ = A
    have q18 := putLl hA 18 d1 rfl rfl
    have r18 := slot_get q18
    have q19 := putLl hA 19 d2 rfl rfl
    have r19 := slot_get q19
    clear hA
    refine Does.call rfl _ _ (by go_simp) ((HT1 W).mono ?_)
    rintro e w' ⟨rfl, hb'⟩
    exact ⟨_, rfl, hb', rfl⟩
   refine StepL.other (k := 4) rfl (fun b f W hb hG hH => ?_) ?_
   ·
    obtain rfl := hb rfl
    obtain ⟨d0, d3, -, -⟩ := hH
    generalize hA : putL _ _ _ _ = A
    have q17 := putLl hA 17 d0 rfl rfl
    have r17 := slot_get q17
    have q20 := putLl hA 20 d3 rfl rfl
    have r20 := slot_get q20
    clear hA
    refine Does.call rfl _ _ (by go_simp) ((HP1 W).mono ?_)
    rintro e w' ⟨rfl, hb'⟩
    exact ⟨_, rfl, hb', rfl⟩
   refine StepL.self (k := 5) rfl (fun f W hG hH => ?_) ?_
   ·
    obtain ⟨d4, -, d0, d1, d2, d3, -, -⟩ := hH
    generalize hA : putL _ _ _ _ = A
    have q5 : A.eval (.tmp 5) = .pointer (some ⟨w5.heap.size, 0, none⟩) := putLn hA 5 rfl rfl rfl
    have r5 := slot_get q5
    have q21 := putLl hA 21 d4 rfl rfl
    have r21 := slot_get q21
    clear hA
    refine Does.storeI rfl 36 _ _ rfl 4 info_num (w5.heap.size) q5 .u64 _ _ q21 hG.2.2.1 lc0 lc1 ?_
    intro A9
    exact ⟨⟨_, rfl⟩, ⟨hG.1.rowOther (by omega) _, hG.2.1.rowOther (by omega) _, A9, hG.2.2.2.1.rowOther (by omega) _, Below.setRow hG.2.2.2.2 (by omega) _⟩, rfl⟩
   exact trivial
  ·
   intro f W hG hH
   obtain ⟨d0, d1, d2, d3, d4, d5, -⟩ : (f 0 = aggI .u64 c0) ∧ (f 1 = aggI .u64 tt) ∧ (f 2 = aggI .u64 qs) ∧ (f 3 = aggI .u64 k) ∧ (f 4 = aggI .u64 c1) ∧ (f 5 = undef) ∧ True := hH
   rw [show List.range (List.length [[], [], [], [1, 2], [0, 3, 3], [4, 4, 0, 1, 2, 3, 4]]) = [0, 1, 2, 3, 4, 5] from rfl]
   simp only [putL, List.getElem?_cons_zero, List.getElem?_cons_succ, Option.join, Option.bind_some, id_eq, Act.put, List.setIfInBounds_toArray, List.set_cons_zero, List.set_cons_succ, d0, d1, d2, d3, d4]
   clear d0 d1 d2 d3 d4 d5
   obtain ⟨AU, AR, AC, -, BB⟩ := hG
   have AC : Arr .u64 W (w5.heap.size) c1 := AC
   go_wp2
   refine wp_region_ord [[], [], [0, 1], [], [2, 3]] [some 22, some 23, some 24, some 25, some 26] 5 (fun b w' => Arr .u64 w' (w.heap.size) us ∧ Arr .u64 w' (w1.heap.size) (List.replicate 4 0) ∧ Arr .u64 w' (w5.heap.size) c1 ∧ Below w.heap.size w w') (fun opn f _ => match opn with | 0 => f 0 = aggI .u64 c1 | 1 => f 1 = aggI .u64 c1 | 2 => f 2 = aggI .u64 p1 | 3 => f 3 = aggI .u64 us | 4 => f 4 = .bool (!true) | _ => True) (fun _ _ _ => True) (by kernel_rfl) (by kernel_rfl) (by kernel_rfl) (by kernel_rfl) (fun b v v' hb h => ⟨h.1.below hb, h.2.1.below hb, h.2.2.1.below hb, below_then h.2.2.2 hb⟩) (fun _ _ _ _ _ h => h) (fun _ _ _ _ _ _ _ h => h) ⟨AU.drew, AR.drew, AC.drew, BB.drew⟩ ?_ ?_
   ·
    refine StepL.other (k := 0) rfl (fun b f W hb hG hH => ?_) ?_
    ·
     clear hH
     generalize hA : putL _ _ _ _ = A
     have q5 : A.eval (.tmp 5) = .pointer (some ⟨w5.heap.size, 0, none⟩) := putLn hA 5 rfl rfl rfl
     have r5 := slot_get q5
     clear hA
     exact Does.loadI rfl 36 _ rfl 4 34 und_num info_num (w5.heap.size) q5 .u64 (c1) (hG.2.2.1) (lc1) ⟨Below.refl _ _, rfl⟩
    refine StepL.other (k := 1) rfl (fun b f W hb hG hH => ?_) ?_
    ·
     clear hH
     generalize hA : putL _ _ _ _ = A
     have q5 : A.eval (.tmp 5) = .pointer (some ⟨w5.heap.size, 0, none⟩) := putLn hA 5 rfl rfl rfl
     have r5 := slot_get q5
     clear hA
     exact Does.loadI rfl 36 _ rfl 4 34 und_num info_num (w5.heap.size) q5 .u64 (c1) (hG.2.2.1) (lc1) ⟨Below.refl _ _, rfl⟩
    refine StepL.other (k := 2) rfl (fun b f W hb hG hH => ?_) ?_
    ·
     obtain ⟨d0, d1, -⟩ := hH
     generalize hA : putL _ _ _ _ = A
     have q22 := putLl hA 22 d0 rfl rfl
     have r22 := slot_get q22
     have q23 := putLl hA 23 d1 rfl rfl
     have r23 := slot_get q23
     clear hA
     refine Does.call rfl _ _ (by go_simp) ((HP2 W).mono ?_)
     rintro e w' ⟨rfl, hb'⟩
     exact ⟨_, rfl, hb', rfl⟩
    refine StepL.other (k := 3) rfl (fun b f W hb hG hH => ?_) ?_
    ·
     clear hH
     generalize hA : putL _ _ _ _ = A
     have q1 : A.eval (.tmp 1) = .pointer (some ⟨w.heap.size, 0, none⟩) := putLn hA 1 rfl rfl rfl
     have r1 := slot_get q1
     clear hA
     exact Does.loadI rfl 36 _ rfl 4 34 und_num info_num (w.heap.size) q1 .u64 (us) (hG.1) (lus) ⟨Below.refl _ _, rfl⟩
    refine StepL.other (k := 4) rfl (fun b f W hb hG hH => ?_) ?_
    ·
     obtain ⟨d2, d3, -⟩ := hH
     generalize hA : putL _ _ _ _ = A
     have q24 := putLl hA 24 d2 rfl rfl
     have r24 := slot_get q24
     have q25 := putLl hA 25 d3 rfl rfl
     have r25 := slot_get q25
     clear hA
     exact Does.neI rfl 36 _ 34 _ _ rfl 4 und_num .u64 .u64 Tryd.underlying34 (by kernel_rfl) (by kernel_rfl) (p1) (us) q24 q25 (lp1) (lus) (!true) (by rw [show decide (p1 = us) = true from hs1]) ⟨Below.refl _ _, rfl⟩
    exact trivial
   ·
    intro f W hG hH
    obtain ⟨d0, d1, d2, d3, d4, -⟩ : (f 0 = aggI .u64 c1) ∧ (f 1 = aggI .u64 c1) ∧ (f 2 = aggI .u64 p1) ∧ (f 3 = aggI .u64 us) ∧ (f 4 = .bool (!true)) ∧ True := hH
    rw [show List.range (List.length [[], [], [0, 1], [], [2, 3]]) = [0, 1, 2, 3, 4] from rfl]
    simp only [putL, List.getElem?_cons_zero, List.getElem?_cons_succ, Option.join, Option.bind_some, id_eq, Act.put, List.setIfInBounds_toArray, List.set_cons_zero, List.set_cons_succ, d0, d1, d2, d3, d4]
    clear d0 d1 d2 d3 d4
    obtain ⟨AU, AR, AC, BB⟩ := hG
    simp only [Bool.not_true]
    have c0' := AC.cell (k := 0) (by omega)
    have hb := hb.out
    go_wp2_with (first
      | (with_reducible refine at_n 35 ?_; refine wpList_val (fun R hR => Does.loadI rfl 36 _ rfl 4 34 und_num info_num (w5.heap.size) rfl .u64 (c1) (AC) (lc1) hR) ?_)
      | (with_reducible refine at_op (o := ⟨_, .store 36 (.tmp 2) _, _, _, _, _⟩) ?_; refine wpList_storeI rfl 36 _ _ rfl 4 info_num (w1.heap.size) rfl .u64 _ (c1) rfl (AR) (rfl) (lc1) ?_; intro DD; replace AU := AU.rowOther (B' := w1.heap.size) (by omega) ((c1).map (Value.int .u64)).toArray; replace AC := AC.rowOther (B' := w1.heap.size) (by omega) ((c1).map (Value.int .u64)).toArray; replace BB := Below.setRow BB (g := w1.heap.size) (by omega) ((c1).map (Value.int .u64)).toArray; clear AR; have AR := DD))
    refine bodyPost_ret (results_cell_tmpI rfl _ 4 34 und_num info_num (w1.heap.size) rfl .u64 _ AR (lc1)) rfl ?_
    exact ⟨rfl, BB⟩
set_option maxHeartbeats 4000000 in
theorem square_n (us zz es qs tt c0 p0 k c1 p1 rl : List Int) (w : World)
  (bz : Tryd.prog.built 36 [] = some (zz.map (Value.int .u64)).toArray) (be : Tryd.prog.built 36 [(0, .int .u64 18446744073709551614), (1, .int .u64 18446744073709551615), (2, .int .u64 18446744073709551615), (3, .int .u64 1152921504606846975)] = some (es.map (Value.int .u64)).toArray)
  (bq : Tryd.prog.built 36 [(0, .int .u64 18446744073709551611), (1, .int .u64 18446744073709551615), (2, .int .u64 18446744073709551615), (3, .int .u64 2305843009213693951)] = some (qs.map (Value.int .u64)).toArray)
  (bt : Tryd.prog.built 36 [(0, .int .u64 2)] = some (tt.map (Value.int .u64)).toArray)
  (lus : us.length = 4)
  (lzz : zz.length = 4)
  (les : es.length = 4)
  (lqs : qs.length = 4)
  (ltt : tt.length = 4)
  (lc0 : c0.length = 4)
  (lp0 : p0.length = 4)
  (lk : k.length = 4)
  (lc1 : c1.length = 4)
  (lp1 : p1.length = 4)
  (lrl : rl.length = 4)
  (HT0 : ∀ W, Ret 86 #[aggI .u64 us, aggI .u64 es] (aggI .u64 c0) W) (HP0 : ∀ W, Ret 57 #[aggI .u64 c0, aggI .u64 c0] (aggI .u64 p0) W)
  (HT1 : ∀ W, Ret 86 #[aggI .u64 tt, aggI .u64 qs] (aggI .u64 k) W) (HP1 : ∀ W, Ret 57 #[aggI .u64 c0, aggI .u64 k] (aggI .u64 c1) W) (HP2 : ∀ W, Ret 57 #[aggI .u64 c1, aggI .u64 c1] (aggI .u64 p1) W) (hs0 : decide (p0 = us) = false) (hs1 : decide (p1 = us) = false) :
  Calls Tryd.prog 60 #[aggI .u64 us] w fun e w' => e = .returned (.tuple #[aggI .u64 zz, .bool false]) ∧ Below w.heap.size w w' := by
 go_enter Tryd.func60, Tryd.ntmps60
 go_wp2_with (first
  | (with_reducible refine at_n 1 ?_; refine wpList_boxI rfl 36 _ rfl .u64 us rfl ?_; intro w1 A1 s1 b1; have BB := b1; have y1 := BB.size)
  | (with_reducible refine at_n 2 ?_; refine wpList_allocI rfl 36 rfl .u64 4 zero_num ?_; intro w2 A2 s2 b2; have q2A1 := A1.lt; replace A1 := A1.below b2; replace BB := below_then BB b2; have y2 := BB.size)
  | (with_reducible refine at_n 7 ?_; go_loud (refine wpList_val (fun R hR => Does.buildI rfl 36 _ rfl .u64 (es) _ (be) rfl hR) ?_))
  | (with_reducible refine at_n 4 ?_; refine wpList_allocI rfl 36 rfl .u64 4 zero_num ?_; intro w3 A3 s3 b3; have q3A1 := A1.lt; have q3A2 := A2.lt; replace A1 := A1.below b3; replace A2 := A2.below b3; replace BB := below_then BB b3; have y3 := BB.size)
  | (with_reducible refine at_op (o := ⟨_, .store 36 (.tmp 4) _, _, _, _, _⟩) ?_; refine wpList_storeI rfl 36 _ _ rfl 4 info_num (w2.heap.size) rfl .u64 _ (es) rfl (A3) (rfl) (les) ?_; intro D4; replace A1 := A1.rowOther (B' := w2.heap.size) (by omega) ((es).map (Value.int .u64)).toArray; replace A2 := A2.rowOther (B' := w2.heap.size) (by omega) ((es).map (Value.int .u64)).toArray; replace BB := Below.setRow BB (g := w2.heap.size) (by omega) ((es).map (Value.int .u64)).toArray; clear A3; have A3 := D4)
  | (with_reducible refine at_n 8 ?_; refine wpList_val (fun R hR => Does.loadI rfl 36 _ rfl 4 34 und_num info_num (w.heap.size) rfl .u64 (us) (A1) (lus) hR) ?_)
  | (with_reducible refine at_n 9 ?_; refine wpList_val (fun R hR => Does.loadI rfl 36 _ rfl 4 34 und_num info_num (w2.heap.size) rfl .u64 (es) (A3) (les) hR) ?_)
  | (with_reducible refine at_n 5 ?_; refine wpList_allocI rfl 36 rfl .u64 4 zero_num ?_; intro w6 A6 s6 b6; have q6A1 := A1.lt; have q6A2 := A2.lt; have q6A3 := A3.lt; replace A1 := A1.below b6; replace A2 := A2.below b6; replace A3 := A3.below b6; replace BB := below_then BB b6; have y6 := BB.size)
  | (with_reducible refine at_op (o := ⟨_, .store 36 (.tmp 5) _, _, _, _, _⟩) ?_; refine wpList_storeI rfl 36 _ _ rfl 4 info_num (w5.heap.size) rfl .u64 _ (c0) rfl (A6) (rfl) (lc0) ?_; intro D7; replace A1 := A1.rowOther (B' := w5.heap.size) (by omega) ((c0).map (Value.int .u64)).toArray; replace A2 := A2.rowOther (B' := w5.heap.size) (by omega) ((c0).map (Value.int .u64)).toArray; replace A3 := A3.rowOther (B' := w5.heap.size) (by omega) ((c0).map (Value.int .u64)).toArray; replace BB := Below.setRow BB (g := w5.heap.size) (by omega) ((c0).map (Value.int .u64)).toArray; clear A6; have A6 := D7)
  | (go_at_call 86; first | ((with_reducible refine (HT0 _).mono ?_); rintro e w5 ⟨rfl, b5⟩; replace A1 := A1.below b5; replace A2 := A2.below b5; replace A3 := A3.below b5; replace BB := below_then BB b5; have z5 := BB.size)))
 have AU := A1
 have AR := A2
 have AC := A6
 clear A1 A2 A6 A3
 refine wp_region_ord [[], [], [0, 1], [], [2, 3]] [some 11, some 12, some 13, some 14, some 15] 5 (fun b w' => Arr .u64 w' (w.heap.size) us ∧ Arr .u64 w' (w1.heap.size) (List.replicate 4 0) ∧ Arr .u64 w' (w5.heap.size) c0 ∧ Below w.heap.size w w') (fun opn f _ => match opn with | 0 => f 0 = aggI .u64 c0 | 1 => f 1 = aggI .u64 c0 | 2 => f 2 = aggI .u64 p0 | 3 => f 3 = aggI .u64 us | 4 => f 4 = .bool (!false) | _ => True) (fun _ _ _ => True) (by kernel_rfl) (by kernel_rfl) (by kernel_rfl) (by kernel_rfl) (fun b v v' hb h => ⟨h.1.below hb, h.2.1.below hb, h.2.2.1.below hb, below_then h.2.2.2 hb⟩) (fun _ _ _ _ _ h => h) (fun _ _ _ _ _ _ _ h => h) ⟨AU.drew, AR.drew, AC.drew, BB.drew⟩ ?_ ?_
 ·
  refine StepL.other (k := 0) rfl (fun b f W hb hG hH => ?_) ?_
  ·
   clear hH
   generalize hA : putL _ _ _ _ = A
   have q5 : A.eval (.tmp 5) = .pointer (some ⟨w5.heap.size, 0, none⟩) := putLn hA 5 rfl rfl rfl
   have r5 := slot_get q5
   clear hA
   exact Does.loadI rfl 36 _ rfl 4 34 und_num info_num (w5.heap.size) q5 .u64 (c0) (hG.2.2.1) (lc0) ⟨Below.refl _ _, rfl⟩
  refine StepL.other (k := 1) rfl (fun b f W hb hG hH => ?_) ?_
  ·
   clear hH
   generalize hA : putL _ _ _ _ = A
   have q5 : A.eval (.tmp 5) = .pointer (some ⟨w5.heap.size, 0, none⟩) := putLn hA 5 rfl rfl rfl
   have r5 := slot_get q5
   clear hA
   exact Does.loadI rfl 36 _ rfl 4 34 und_num info_num (w5.heap.size) q5 .u64 (c0) (hG.2.2.1) (lc0) ⟨Below.refl _ _, rfl⟩
  refine StepL.other (k := 2) rfl (fun b f W hb hG hH => ?_) ?_
  ·
   obtain ⟨d0, d1, -⟩ := hH
   generalize hA : putL _ _ _ _ = A
   have q11 := putLl hA 11 d0 rfl rfl
   have r11 := slot_get q11
   have q12 := putLl hA 12 d1 rfl rfl
   have r12 := slot_get q12
   clear hA
   refine Does.call rfl _ _ (by go_simp) ((HP0 W).mono ?_)
   rintro e w' ⟨rfl, hb'⟩
   exact ⟨_, rfl, hb', rfl⟩
  refine StepL.other (k := 3) rfl (fun b f W hb hG hH => ?_) ?_
  ·
   clear hH
   generalize hA : putL _ _ _ _ = A
   have q1 : A.eval (.tmp 1) = .pointer (some ⟨w.heap.size, 0, none⟩) := putLn hA 1 rfl rfl rfl
   have r1 := slot_get q1
   clear hA
   exact Does.loadI rfl 36 _ rfl 4 34 und_num info_num (w.heap.size) q1 .u64 (us) (hG.1) (lus) ⟨Below.refl _ _, rfl⟩
  refine StepL.other (k := 4) rfl (fun b f W hb hG hH => ?_) ?_
  ·
   obtain ⟨d2, d3, -⟩ := hH
   generalize hA : putL _ _ _ _ = A
   have q13 := putLl hA 13 d2 rfl rfl
   have r13 := slot_get q13
   have q14 := putLl hA 14 d3 rfl rfl
   have r14 := slot_get q14
   clear hA
   exact Does.neI rfl 36 _ 34 _ _ rfl 4 und_num .u64 .u64 Tryd.underlying34 (by kernel_rfl) (by kernel_rfl) (p0) (us) q13 q14 (lp0) (lus) (!false) (by rw [show decide (p0 = us) = false from hs0]) ⟨Below.refl _ _, rfl⟩
  exact trivial
 ·
  intro f W hG hH
  obtain ⟨d0, d1, d2, d3, d4, -⟩ : (f 0 = aggI .u64 c0) ∧ (f 1 = aggI .u64 c0) ∧ (f 2 = aggI .u64 p0) ∧ (f 3 = aggI .u64 us) ∧ (f 4 = .bool (!false)) ∧ True := hH
  rw [show List.range (List.length [[], [], [0, 1], [], [2, 3]]) = [0, 1, 2, 3, 4] from rfl]
  simp only [putL, List.getElem?_cons_zero, List.getElem?_cons_succ, Option.join, Option.bind_some, id_eq, Act.put, List.setIfInBounds_toArray, List.set_cons_zero, List.set_cons_succ, d0, d1, d2, d3, d4]
  clear d0 d1 d2 d3 d4
  obtain ⟨AU, AR, AC, BB⟩ := hG
  simp only [Bool.not_false]
  have k1 := AU.lt; have k2 := AR.lt; have k3 := AC.lt; have k4 := BB.size
  go_wp2_with (first
    | (with_reducible refine at_n 16 ?_; go_loud (refine wpList_val (fun R hR => Does.buildI rfl 36 _ rfl .u64 (qs) _ (bq) rfl hR) ?_))
    | (with_reducible refine at_n 6 ?_; refine wpList_allocI rfl 36 rfl .u64 4 zero_num ?_; intro w30 AQ s30 b30; replace AU := AU.below b30; replace AR := AR.below b30; replace AC := AC.below b30; replace BB := below_then BB b30; have k5 := AQ.lt)
    | (with_reducible refine at_op (o := ⟨_, .store 36 (.tmp 6) _, _, _, _, _⟩) ?_; refine wpList_storeI rfl 36 _ _ rfl 4 info_num (W.heap.size) rfl .u64 _ (qs) rfl (AQ) (rfl) (lqs) ?_; intro DD; replace AU := AU.rowOther (B' := W.heap.size) (by omega) ((qs).map (Value.int .u64)).toArray; replace AR := AR.rowOther (B' := W.heap.size) (by omega) ((qs).map (Value.int .u64)).toArray; replace AC := AC.rowOther (B' := W.heap.size) (by omega) ((qs).map (Value.int .u64)).toArray; replace BB := Below.setRow BB (g := W.heap.size) (by omega) ((qs).map (Value.int .u64)).toArray; clear AQ; have AQ := DD))
  generalize W.heap.size = BQ at *
  refine wp_region_ord [[], [], [], [1, 2], [0, 3, 3], [4, 4, 0, 1, 2, 3, 4]] [some 17, some 18, some 19, some 20, some 21, none] 5 (fun b w' => Arr .u64 w' (w.heap.size) us ∧ Arr .u64 w' (w1.heap.size) (List.replicate 4 0) ∧ Arr .u64 w' (w5.heap.size) (if b then c1 else c0) ∧ Arr .u64 w' BQ qs ∧ Below w.heap.size w w') (fun opn f _ => match opn with | 0 => f 0 = aggI .u64 c0 | 1 => f 1 = aggI .u64 tt | 2 => f 2 = aggI .u64 qs | 3 => f 3 = aggI .u64 k | 4 => f 4 = aggI .u64 c1 | 5 => f 5 = undef | _ => True) (fun _ v v' => ∃ cs, v' = v.setRow (w5.heap.size) cs) (by kernel_rfl) (by kernel_rfl) (by kernel_rfl) (by kernel_rfl) (fun b v v' hb h => ⟨h.1.below hb, h.2.1.below hb, h.2.2.1.below hb, h.2.2.2.1.below hb, below_then h.2.2.2.2 hb⟩) (fun _ _ _ _ _ h => h) (fun _ _ _ _ _ _ _ h => h) ⟨AU.drew, AR.drew, AC.drew, AQ.drew, BB.drew⟩ ?_ ?_
  ·
   refine StepL.other (k := 0) rfl (fun b f W hb hG hH => ?_) ?_
   ·
    obtain rfl := hb rfl
    clear hH
    generalize hA : putL _ _ _ _ = A
    have q5 : A.eval (.tmp 5) = .pointer (some ⟨w5.heap.size, 0, none⟩) := putLn hA 5 rfl rfl rfl
    have r5 := slot_get q5
    clear hA
    exact Does.loadI rfl 36 _ rfl 4 34 und_num info_num (w5.heap.size) q5 .u64 (c0) (hG.2.2.1) (lc0) ⟨Below.refl _ _, rfl⟩
   refine StepL.other (k := 1) rfl (fun b f W hb hG hH => ?_) ?_
   ·
    obtain rfl := hb rfl
    clear hH
    generalize hA : putL _ _ _ _ = A
    clear hA
    exact Does.buildI rfl 36 _ rfl .u64 (tt) _ bt rfl ⟨Below.refl _ _, rfl⟩
   refine StepL.other (k := 2) rfl (fun b f W hb hG hH => ?_) ?_
   ·
    obtain rfl := hb rfl
    clear hH
    generalize hA : putL _ _ _ _ = A
    have q6 : A.eval (.tmp 6) = .pointer (some ⟨BQ, 0, none⟩) := putLn hA 6 rfl rfl rfl
    have r6 := slot_get q6
    clear hA
    exact Does.loadI rfl 36 _ rfl 4 34 und_num info_num (BQ) q6 .u64 (qs) (hG.2.2.2.1) (lqs) ⟨Below.refl _ _, rfl⟩
   refine StepL.other (k := 3) rfl (fun b f W hb hG hH => ?_) ?_
   ·
    obtain rfl := hb rfl
    obtain ⟨d1, d2, -⟩ := hH
    generalize hA : putL _ _ _ _ = A
    have q18 := putLl hA 18 d1 rfl rfl
    have r18 := slot_get q18
    have q19 := putLl hA 19 d2 rfl rfl
    have r19 := slot_get q19
    clear hA
    refine Does.call rfl _ _ (by go_simp) ((HT1 W).mono ?_)
    rintro e w' ⟨rfl, hb'⟩
    exact ⟨_, rfl, hb', rfl⟩
   refine StepL.other (k := 4) rfl (fun b f W hb hG hH => ?_) ?_
   ·
    obtain rfl := hb rfl
    obtain ⟨d0, d3, -, -⟩ := hH
    generalize hA : putL _ _ _ _ = A
    have q17 := putLl hA 17 d0 rfl rfl
    have r17 := slot_get q17
    have q20 := putLl hA 20 d3 rfl rfl
    have r20 := slot_get q20
    clear hA
    refine Does.call rfl _ _ (by go_simp) ((HP1 W).mono ?_)
    rintro e w' ⟨rfl, hb'⟩
    exact ⟨_, rfl, hb', rfl⟩
   refine StepL.self (k := 5) rfl (fun f W hG hH => ?_) ?_
   ·
    obtain ⟨d4, -, d0, d1, d2, d3, -, -⟩ := hH
    generalize hA : putL _ _ _ _ = A
    have q5 : A.eval (.tmp 5) = .pointer (some ⟨w5.heap.size, 0, none⟩) := putLn hA 5 rfl rfl rfl
    have r5 := slot_get q5
    have q21 := putLl hA 21 d4 rfl rfl
    have r21 := slot_get q21
    clear hA
    refine Does.storeI rfl 36 _ _ rfl 4 info_num (w5.heap.size) q5 .u64 _ _ q21 hG.2.2.1 lc0 lc1 ?_
    intro A9
    exact ⟨⟨_, rfl⟩, ⟨hG.1.rowOther (by omega) _, hG.2.1.rowOther (by omega) _, A9, hG.2.2.2.1.rowOther (by omega) _, Below.setRow hG.2.2.2.2 (by omega) _⟩, rfl⟩
   exact trivial
  ·
   intro f W hG hH
   obtain ⟨d0, d1, d2, d3, d4, d5, -⟩ : (f 0 = aggI .u64 c0) ∧ (f 1 = aggI .u64 tt) ∧ (f 2 = aggI .u64 qs) ∧ (f 3 = aggI .u64 k) ∧ (f 4 = aggI .u64 c1) ∧ (f 5 = undef) ∧ True := hH
   rw [show List.range (List.length [[], [], [], [1, 2], [0, 3, 3], [4, 4, 0, 1, 2, 3, 4]]) = [0, 1, 2, 3, 4, 5] from rfl]
   simp only [putL, List.getElem?_cons_zero, List.getElem?_cons_succ, Option.join, Option.bind_some, id_eq, Act.put, List.setIfInBounds_toArray, List.set_cons_zero, List.set_cons_succ, d0, d1, d2, d3, d4]
   clear d0 d1 d2 d3 d4 d5
   obtain ⟨AU, AR, AC, -, BB⟩ := hG
   have AC : Arr .u64 W (w5.heap.size) c1 := AC
   go_wp2
   refine wp_region_ord [[], [], [0, 1], [], [2, 3]] [some 22, some 23, some 24, some 25, some 26] 5 (fun b w' => Arr .u64 w' (w.heap.size) us ∧ Arr .u64 w' (w1.heap.size) (List.replicate 4 0) ∧ Arr .u64 w' (w5.heap.size) c1 ∧ Below w.heap.size w w') (fun opn f _ => match opn with | 0 => f 0 = aggI .u64 c1 | 1 => f 1 = aggI .u64 c1 | 2 => f 2 = aggI .u64 p1 | 3 => f 3 = aggI .u64 us | 4 => f 4 = .bool (!false) | _ => True) (fun _ _ _ => True) (by kernel_rfl) (by kernel_rfl) (by kernel_rfl) (by kernel_rfl) (fun b v v' hb h => ⟨h.1.below hb, h.2.1.below hb, h.2.2.1.below hb, below_then h.2.2.2 hb⟩) (fun _ _ _ _ _ h => h) (fun _ _ _ _ _ _ _ h => h) ⟨AU.drew, AR.drew, AC.drew, BB.drew⟩ ?_ ?_
   ·
    refine StepL.other (k := 0) rfl (fun b f W hb hG hH => ?_) ?_
    ·
     clear hH
     generalize hA : putL _ _ _ _ = A
     have q5 : A.eval (.tmp 5) = .pointer (some ⟨w5.heap.size, 0, none⟩) := putLn hA 5 rfl rfl rfl
     have r5 := slot_get q5
     clear hA
     exact Does.loadI rfl 36 _ rfl 4 34 und_num info_num (w5.heap.size) q5 .u64 (c1) (hG.2.2.1) (lc1) ⟨Below.refl _ _, rfl⟩
    refine StepL.other (k := 1) rfl (fun b f W hb hG hH => ?_) ?_
    ·
     clear hH
     generalize hA : putL _ _ _ _ = A
     have q5 : A.eval (.tmp 5) = .pointer (some ⟨w5.heap.size, 0, none⟩) := putLn hA 5 rfl rfl rfl
     have r5 := slot_get q5
     clear hA
     exact Does.loadI rfl 36 _ rfl 4 34 und_num info_num (w5.heap.size) q5 .u64 (c1) (hG.2.2.1) (lc1) ⟨Below.refl _ _, rfl⟩
    refine StepL.other (k := 2) rfl (fun b f W hb hG hH => ?_) ?_
    ·
     obtain ⟨d0, d1, -⟩ := hH
     generalize hA : putL _ _ _ _ = A
     have q22 := putLl hA 22 d0 rfl rfl
     have r22 := slot_get q22
     have q23 := putLl hA 23 d1 rfl rfl
     have r23 := slot_get q23
     clear hA
     refine Does.call rfl _ _ (by go_simp) ((HP2 W).mono ?_)
     rintro e w' ⟨rfl, hb'⟩
     exact ⟨_, rfl, hb', rfl⟩
    refine StepL.other (k := 3) rfl (fun b f W hb hG hH => ?_) ?_
    ·
     clear hH
     generalize hA : putL _ _ _ _ = A
     have q1 : A.eval (.tmp 1) = .pointer (some ⟨w.heap.size, 0, none⟩) := putLn hA 1 rfl rfl rfl
     have r1 := slot_get q1
     clear hA
     exact Does.loadI rfl 36 _ rfl 4 34 und_num info_num (w.heap.size) q1 .u64 (us) (hG.1) (lus) ⟨Below.refl _ _, rfl⟩
    refine StepL.other (k := 4) rfl (fun b f W hb hG hH => ?_) ?_
    ·
     obtain ⟨d2, d3, -⟩ := hH
     generalize hA : putL _ _ _ _ = A
     have q24 := putLl hA 24 d2 rfl rfl
     have r24 := slot_get q24
     have q25 := putLl hA 25 d3 rfl rfl
     have r25 := slot_get q25
     clear hA
     exact Does.neI rfl 36 _ 34 _ _ rfl 4 und_num .u64 .u64 Tryd.underlying34 (by kernel_rfl) (by kernel_rfl) (p1) (us) q24 q25 (lp1) (lus) (!false) (by rw [show decide (p1 = us) = false from hs1]) ⟨Below.refl _ _, rfl⟩
    exact trivial
   ·
    intro f W hG hH
    obtain ⟨d0, d1, d2, d3, d4, -⟩ : (f 0 = aggI .u64 c1) ∧ (f 1 = aggI .u64 c1) ∧ (f 2 = aggI .u64 p1) ∧ (f 3 = aggI .u64 us) ∧ (f 4 = .bool (!false)) ∧ True := hH
    rw [show List.range (List.length [[], [], [0, 1], [], [2, 3]]) = [0, 1, 2, 3, 4] from rfl]
    simp only [putL, List.getElem?_cons_zero, List.getElem?_cons_succ, Option.join, Option.bind_some, id_eq, Act.put, List.setIfInBounds_toArray, List.set_cons_zero, List.set_cons_succ, d0, d1, d2, d3, d4]
    clear d0 d1 d2 d3 d4
    obtain ⟨AU, AR, AC, BB⟩ := hG
    simp only [Bool.not_false]
    go_wp2_with (first
      | (with_reducible refine at_n 27 ?_; go_loud (refine wpList_val (fun R hR => Does.buildI rfl 36 _ rfl .u64 (zz) _ (bz) rfl hR) ?_))
      | (with_reducible refine at_op (o := ⟨_, .store 36 (.tmp 2) _, _, _, _, _⟩) ?_; refine wpList_storeI rfl 36 _ _ rfl 4 info_num (w1.heap.size) rfl .u64 _ (zz) rfl (AR) (rfl) (lzz) ?_; intro DD; replace AU := AU.rowOther (B' := w1.heap.size) (by omega) ((zz).map (Value.int .u64)).toArray; replace AC := AC.rowOther (B' := w1.heap.size) (by omega) ((zz).map (Value.int .u64)).toArray; replace BB := Below.setRow BB (g := w1.heap.size) (by omega) ((zz).map (Value.int .u64)).toArray; clear AR; have AR := DD))
    refine bodyPost_ret (results_cell_tmpI rfl _ 4 34 und_num info_num (w1.heap.size) rfl .u64 _ AR (lzz)) rfl ?_
    exact ⟨rfl, BB⟩
end Go.Proofs.YtelppapkffjmpaaDoor
end
section
--@optional
namespace Go.Proofs.YtelppapkffjmpaaDoor
open Go.RowKit Go.Shelf
set_option linter.unusedVariables false
set_option maxRecDepth 8000

def esL : List Int := [18446744073709551614, 18446744073709551615, 18446744073709551615, 1152921504606846975]
def qsL : List Int := [18446744073709551611, 18446744073709551615, 18446744073709551615, 2305843009213693951]
def ttL : List Int := [2, 0, 0, 0]
def zzL : List Int := [0, 0, 0, 0]
theorem built_es : Tryd.prog.built 36 [(0, .int .u64 18446744073709551614), (1, .int .u64 18446744073709551615), (2, .int .u64 18446744073709551615), (3, .int .u64 1152921504606846975)] = some (esL.map (Value.int .u64)).toArray := by kernel_rfl
theorem built_qs : Tryd.prog.built 36 [(0, .int .u64 18446744073709551611), (1, .int .u64 18446744073709551615), (2, .int .u64 18446744073709551615), (3, .int .u64 2305843009213693951)] = some (qsL.map (Value.int .u64)).toArray := by kernel_rfl
theorem built_tt : Tryd.prog.built 36 [(0, .int .u64 2)] = some (ttL.map (Value.int .u64)).toArray := by kernel_rfl
theorem built_zz : Tryd.prog.built 36 [] = some (zzL.map (Value.int .u64)).toArray := by kernel_rfl
theorem esL_num : esL = numW 4 (valB (powN 254 15) 32) := by decide +kernel
theorem qsL_num : qsL = numW 4 ((kN : Nat) : Int) := by decide +kernel
theorem ttL_num : ttL = numW 4 2 := by decide +kernel
theorem zzL_num : zzL = numW 4 0 := by decide +kernel
theorem es_lt : 0 ≤ valB (powN 254 15) 32 ∧ valB (powN 254 15) 32 < 2 ^ 256 := by decide +kernel
theorem qs_lt : 0 ≤ ((kN : Nat) : Int) ∧ ((kN : Nat) : Int) < 2 ^ 256 := by decide +kernel
theorem two_kN : (2 : Int) ^ kN % pV = iV := by
  have h : pmo pN 2 256 kN = 2 ^ kN % pN := pmo_eq _ _ _ _ (by decide +kernel)
  have h2 : ((2 ^ kN % pN : Nat) : Int) = iV := by rw [← h]; decide +kernel
  rw [← h2, Int.natCast_emod, Int.natCast_pow, pV_nat]
  rfl
theorem odd_numW {c : Int} (h : 0 ≤ c) : bits BinOp.and IntKind.u64 (at0 (numW 4 c) 0) 1 = c % 2 := by
  have h0 := (numW_words 4 c).at 0
  rw [u64_and_one h0.1 h0.2]
  have e : at0 (numW 4 c) 0 = c / 2 ^ (64 * 0) % 18446744073709551616 := rfl
  rw [e, Nat.mul_zero, Int.pow_zero, Int.ediv_one]
  omega
theorem numW_inj {u v : Int} (hu : 0 ≤ u ∧ u < 2 ^ 256) (hv : 0 ≤ v ∧ v < 2 ^ 256) : decide (numW 4 u = numW 4 v) = decide (u = v) := by
  refine decide_eq_decide.2 ⟨fun h => ?_, fun h => by rw [h]⟩
  rw [← numW_val hu.1 hu.2, h, numW_val hv.1 hv.2]
theorem ref_square_v (u : Int) (w : World) (hu : 0 ≤ u ∧ u < pV) :
    Calls Tryd.prog 60 #[aggI .u64 (numW 4 u)] w fun e w' => e = .returned (.tuple #[aggI .u64 (numW 4 (rV u)), .bool (okV u)]) ∧ Below w.heap.size w w' := by
  have hp := pV_lt
  have nl := numW_length
  have l0 := rt0_lt u
  have l1 := rt1_lt u
  have HT0 := fun W => ref_take_v u (valB (powN 254 15) 32) W (by omega) es_lt
  rw [show u ^ (valB (powN 254 15) 32).toNat % pV = rt0 u from rfl, ← esL_num] at HT0
  have HP0 := fun W => ref_prod_v (rt0 u) (rt0 u) W (by omega) (by omega)
  have HT1 := fun W => ref_take_v 2 ((kN : Nat) : Int) W (by omega) qs_lt
  rw [Int.toNat_natCast, two_kN, ← qsL_num, ← ttL_num] at HT1
  have hi : 0 ≤ iV ∧ iV < 2 ^ 256 := by decide +kernel
  have HP1 := fun W => ref_prod_v (rt0 u) iV W (by omega) hi
  rw [show rt0 u * iV % pV = rt1 u from rfl] at HP1
  have HP2 := fun W => ref_prod_v (rt1 u) (rt1 u) W (by omega) (by omega)
  have s0 := pV_mod (rt0 u * rt0 u)
  have s1 := pV_mod (rt1 u * rt1 u)
  have hs0 : decide (numW 4 (rt0 u * rt0 u % pV) = numW 4 u) = sq0 u := numW_inj (by omega) (by omega)
  have hs1 : decide (numW 4 (rt1 u * rt1 u % pV) = numW 4 u) = sq1 u := numW_inj (by omega) (by omega)
  have HN0 := fun W => ref_diff_v 0 (rt0 u) W (by decide +kernel) l0
  have HN1 := fun W => ref_diff_v 0 (rt1 u) W (by decide +kernel) l1
  rw [← zzL_num] at HN0 HN1
  have o0 := odd_numW l0.1
  have o1 := odd_numW l1.1
  have hok : okV u = (sq0 u || sq1 u) := rfl
  cases h0 : sq0 u
  · rw [h0] at hs0 hok
    cases h1 : sq1 u
    · rw [h1] at hs1 hok
      rw [hok, show rV u = 0 by simp [rV, h0, h1], ← zzL_num]
      exact square_n (numW 4 u) zzL esL qsL ttL _ _ _ _ _ zzL w built_zz built_es built_qs built_tt (nl _ _) rfl rfl rfl rfl (nl _ _) (nl _ _) (nl _ _) (nl _ _) (nl _ _) rfl HT0 HP0 HT1 HP1 HP2 hs0 hs1
    · rw [h1] at hs1 hok
      rw [hok]
      by_cases h2 : rt1 u % 2 = 1
      · rw [show rV u = (0 - rt1 u) % pV by simp [rV, h0, h1, evenV, h2]]
        exact square_bt (numW 4 u) zzL esL qsL ttL _ _ _ _ _ _ w built_zz built_es built_qs built_tt (nl _ _) rfl rfl rfl rfl (nl _ _) (nl _ _) (nl _ _) (nl _ _) (nl _ _) (nl _ _) HT0 HP0 HT1 HP1 HP2 hs0 hs1 (Lib.hid (by rw [o1, h2])) HN1
      · rw [show rV u = rt1 u by simp [rV, h0, h1, evenV, h2]]
        exact square_bf (numW 4 u) zzL esL qsL ttL _ _ _ _ _ zzL w built_zz built_es built_qs built_tt (nl _ _) rfl rfl rfl rfl (nl _ _) (nl _ _) (nl _ _) (nl _ _) (nl _ _) rfl HT0 HP0 HT1 HP1 HP2 hs0 hs1 (Lib.hid (by rw [o1]; omega))
  · rw [h0] at hs0 hok
    rw [hok]
    by_cases h2 : rt0 u % 2 = 1
    · rw [show rV u = (0 - rt0 u) % pV by simp [rV, h0, evenV, h2]]
      exact square_at (numW 4 u) zzL esL qsL ttL _ _ zzL zzL zzL _ w built_zz built_es built_qs built_tt (nl _ _) rfl rfl rfl rfl (nl _ _) (nl _ _) rfl rfl rfl (nl _ _) HT0 HP0 hs0 (Lib.hid (by rw [o0, h2])) HN0
    · rw [show rV u = rt0 u by simp [rV, h0, evenV, h2]]
      exact square_af (numW 4 u) zzL esL qsL ttL _ _ zzL zzL zzL zzL w built_zz built_es built_qs built_tt (nl _ _) rfl rfl rfl rfl (nl _ _) (nl _ _) rfl rfl rfl rfl HT0 HP0 hs0 (Lib.hid (by rw [o0]; omega))
end Go.Proofs.YtelppapkffjmpaaDoor
end
