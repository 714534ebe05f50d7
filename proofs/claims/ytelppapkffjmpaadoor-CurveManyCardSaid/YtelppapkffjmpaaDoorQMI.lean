/- Merged: The curve's types; sums of points, walked. What the curve's functions do to points, by numbers of the field. What the curve's functions do to points. -/
import Derived.Test.YtelppapkffjmpaaDoorQMC
import Derived.Test.YtelppapkffjmpaaDoorQMA
import Derived.Test.YtelppapkffjmpaaDoorQMG
import Derived.Test.YtelppapkffjmpaaDoorQMD
import Derived.Test.YtelppapkffjmpaaDoorQME
section
namespace Go.Proofs.YtelppapkffjmpaaDoor
open Go.RowKit Go.Shelf
set_option linter.unusedVariables false
set_option maxRecDepth 8000

theorem info_plane : (Tryd.prog.info? 44).map (·.size) = some 10 := by kernel_rfl
theorem zero_plane : (Tryd.prog.info? 44).bind (·.zero) = some (.agg (Array.replicate 10 (Value.int .u64 0))) := by kernel_rfl
theorem info_point : (Tryd.prog.info? 46).map (·.size) = some 20 := by kernel_rfl
theorem zero_point : (Tryd.prog.info? 46).bind (·.zero) = some (.agg (Array.replicate 20 (Value.int .u64 0))) := by kernel_rfl
theorem info_table : (Tryd.prog.info? 89).map (·.size) = some 320 := by kernel_rfl
theorem zero_table : (Tryd.prog.info? 89).bind (·.zero) = some (.agg (Array.replicate 320 (Value.int .u64 0))) := by kernel_rfl

/-- What the curve's variables hold. -/
def bLn : List Int := [1738742601995546, 1146398526822698, 2070867633025821, 562264141797630, 587772402128613, 1801439850948184, 1351079888211148, 450359962737049, 900719925474099, 1801439850948198]
def dLn : List Int := [929955233495203, 466365720129213, 1662059464998953, 2033849074728123, 1442794654840575]
theorem l_bLn : bLn.length = 10 := rfl
theorem l_dLn : dLn.length = 5 := rfl
structure TabC (w : World) : Prop where
  g0 : Rd .u64 w 0 bLn
  g1 : Rd .u64 w 1 dLn
theorem TabC.below {w w' : World} (h : TabC w) (hb : Below w.heap.size w w') : TabC w' := ⟨h.g0.below hb, h.g1.below hb⟩
set_option maxHeartbeats 2000000 in
theorem psum_walk (ps ps_5_5 ps_0_5 cr0 : List Int) (w : World) (l_ps : ps.length = 10) (l_ps_5_5 : ps_5_5.length = 5) (l_ps_0_5 : ps_0_5.length = 5) (l_cr0 : cr0.length = 5)
    (h_ps_5_5 : sl ps 5 5 = ps_5_5)
    (h_ps_0_5 : sl ps 0 5 = ps_0_5)
    (H0 : ∀ W, Ret 51 #[aggI .u64 ps_5_5, aggI .u64 ps_0_5] (aggI .u64 cr0) W) :
    Calls Tryd.prog 50 #[aggI .u64 ps] w fun e w' => e = .returned (aggI .u64 cr0) ∧ Below w.heap.size w w' := by
  go_enter Tryd.func50, Tryd.ntmps50
  go_wp2_with (first
      | (with_reducible refine at_n 1 ?_; refine wpList_boxI rfl 44 _ rfl .u64 ps rfl ?_; intro w1 A1 s1 b1; have BB := b1; have y1 := BB.size)
      | (with_reducible refine at_n 2 ?_; refine wpList_allocI rfl 42 rfl .u64 5 zero_limbs ?_; intro w2 A2 s2 b2; have q2_1 := A1.lt; replace A1 := A1.below b2; replace BB := below_then BB b2; have y2 := BB.size)
      | (with_reducible refine at_n 3 ?_; refine wpList_val' (fun R hR => Does.fieldA rfl 44 _ 1 rfl (off := 5) (by kernel_rfl) (w.heap.size) 0 rfl (o1 := 5) rfl hR) ?_)
      | (with_reducible refine at_n 4 ?_; refine wpList_val' (fun R hR => Does.loadM rfl 42 _ rfl 5 _ und_limbs rfl info_limbs (w.heap.size) 5 rfl .u64 (ps) (A1) (by omega) (h_ps_5_5) hR) ?_)
      | (with_reducible refine at_n 5 ?_; refine wpList_val' (fun R hR => Does.fieldA rfl 44 _ 0 rfl (off := 0) (by kernel_rfl) (w.heap.size) 0 rfl (o1 := 0) rfl hR) ?_)
      | (with_reducible refine at_n 6 ?_; refine wpList_val' (fun R hR => Does.loadM rfl 42 _ rfl 5 _ und_limbs rfl info_limbs (w.heap.size) 0 rfl .u64 (ps) (A1) (by omega) (h_ps_0_5) hR) ?_)
      | (with_reducible refine at_op (o := ⟨_, .store 42 (.tmp 2) _, _, _, _, _⟩) ?_; refine wpList_storeI rfl 42 _ _ rfl 5 info_limbs (w1.heap.size) rfl .u64 _ (cr0) rfl (A2) (rfl) (l_cr0) ?_; intro D4; replace A1 := A1.rowOther (B' := w1.heap.size) (by omega) ((cr0).map (Value.int .u64)).toArray; replace BB := Below.setRow BB (g := w1.heap.size) (by omega) ((cr0).map (Value.int .u64)).toArray; clear A2; have A2 := D4)
      | (go_at_call 51; first | ((with_reducible refine (H0 _).mono ?_); rintro e w3 ⟨rfl, b3⟩; replace A1 := A1.below b3; replace A2 := A2.below b3; replace BB := below_then BB b3; have z3 := BB.size)))
  refine bodyPost_ret (results_cellM rfl _ 5 _ und_limbs rfl info_limbs (w1.heap.size) rfl .u64 _ A2 (l_cr0)) rfl ?_
  exact ⟨rfl, BB⟩

set_option maxHeartbeats 2000000 in
theorem pdiff_walk (ps ps_5_5 ps_0_5 cr0 : List Int) (w : World) (l_ps : ps.length = 10) (l_ps_5_5 : ps_5_5.length = 5) (l_ps_0_5 : ps_0_5.length = 5) (l_cr0 : cr0.length = 5)
    (h_ps_5_5 : sl ps 5 5 = ps_5_5)
    (h_ps_0_5 : sl ps 0 5 = ps_0_5)
    (H0 : ∀ W, Ret 53 #[aggI .u64 ps_5_5, aggI .u64 ps_0_5] (aggI .u64 cr0) W) :
    Calls Tryd.prog 48 #[aggI .u64 ps] w fun e w' => e = .returned (aggI .u64 cr0) ∧ Below w.heap.size w w' := by
  go_enter Tryd.func48, Tryd.ntmps48
  go_wp2_with (first
      | (with_reducible refine at_n 1 ?_; refine wpList_boxI rfl 44 _ rfl .u64 ps rfl ?_; intro w1 A1 s1 b1; have BB := b1; have y1 := BB.size)
      | (with_reducible refine at_n 2 ?_; refine wpList_allocI rfl 42 rfl .u64 5 zero_limbs ?_; intro w2 A2 s2 b2; have q2_1 := A1.lt; replace A1 := A1.below b2; replace BB := below_then BB b2; have y2 := BB.size)
      | (with_reducible refine at_n 3 ?_; refine wpList_val' (fun R hR => Does.fieldA rfl 44 _ 1 rfl (off := 5) (by kernel_rfl) (w.heap.size) 0 rfl (o1 := 5) rfl hR) ?_)
      | (with_reducible refine at_n 4 ?_; refine wpList_val' (fun R hR => Does.loadM rfl 42 _ rfl 5 _ und_limbs rfl info_limbs (w.heap.size) 5 rfl .u64 (ps) (A1) (by omega) (h_ps_5_5) hR) ?_)
      | (with_reducible refine at_n 5 ?_; refine wpList_val' (fun R hR => Does.fieldA rfl 44 _ 0 rfl (off := 0) (by kernel_rfl) (w.heap.size) 0 rfl (o1 := 0) rfl hR) ?_)
      | (with_reducible refine at_n 6 ?_; refine wpList_val' (fun R hR => Does.loadM rfl 42 _ rfl 5 _ und_limbs rfl info_limbs (w.heap.size) 0 rfl .u64 (ps) (A1) (by omega) (h_ps_0_5) hR) ?_)
      | (with_reducible refine at_op (o := ⟨_, .store 42 (.tmp 2) _, _, _, _, _⟩) ?_; refine wpList_storeI rfl 42 _ _ rfl 5 info_limbs (w1.heap.size) rfl .u64 _ (cr0) rfl (A2) (rfl) (l_cr0) ?_; intro D4; replace A1 := A1.rowOther (B' := w1.heap.size) (by omega) ((cr0).map (Value.int .u64)).toArray; replace BB := Below.setRow BB (g := w1.heap.size) (by omega) ((cr0).map (Value.int .u64)).toArray; clear A2; have A2 := D4)
      | (go_at_call 53; first | ((with_reducible refine (H0 _).mono ?_); rintro e w3 ⟨rfl, b3⟩; replace A1 := A1.below b3; replace A2 := A2.below b3; replace BB := below_then BB b3; have z3 := BB.size)))
  refine bodyPost_ret (results_cellM rfl _ 5 _ und_limbs rfl info_limbs (w1.heap.size) rfl .u64 _ A2 (l_cr0)) rfl ?_
  exact ⟨rfl, BB⟩

set_option maxHeartbeats 2000000 in
theorem pneg_walk (ps ps_0_5 cr0 ps_5_5 bu0 : List Int) (w : World) (l_ps : ps.length = 10) (l_ps_0_5 : ps_0_5.length = 5) (l_cr0 : cr0.length = 5) (l_ps_5_5 : ps_5_5.length = 5) (l_bu0 : bu0.length = 10)
  (h_ps_0_5 : sl ps 0 5 = ps_0_5)
  (h_ps_5_5 : sl ps 5 5 = ps_5_5)
  (hbu0 : Tryd.prog.built 44 [(0, aggI .u64 cr0), (1, aggI .u64 ps_5_5)] = some (bu0.map (Value.int .u64)).toArray)
  (H0 : ∀ W, Ret 62 #[aggI .u64 ps_0_5] (aggI .u64 cr0) W) :
  Calls Tryd.prog 33 #[aggI .u64 ps] w fun e w' => e = .returned (aggI .u64 bu0) ∧ Below w.heap.size w w' := by
 go_enter Tryd.func33, Tryd.ntmps33
 go_wp2_with (first
   | (with_reducible refine at_n 1 ?_; refine wpList_boxI rfl 44 _ rfl .u64 ps rfl ?_; intro w1 A1 s1 b1; have BB := b1; have y1 := BB.size)
   | (with_reducible refine at_n 2 ?_; refine wpList_allocI rfl 44 rfl .u64 10 zero_plane ?_; intro w2 A2 s2 b2; have q2_1 := A1.lt; replace A1 := A1.below b2; replace BB := below_then BB b2; have y2 := BB.size))
 have k3_0 := A1.lt
 have k3_1 := A2.lt
 refine wp_region_ord [[], [0], [1], [], [3], [2, 4], [5, 2, 0, 1, 2, 3, 4, 5]] [some 3, some 4, some 5, some 6, some 7, some 8, none] 6 (fun b w' => Arr .u64 w' (w.heap.size) ps ∧ Arr .u64 w' (w1.heap.size) (if b then bu0 else List.replicate 10 0) ∧ Below w.heap.size w w') (fun opn f _ => match opn with | 0 => f 0 = .pointer (some ⟨w.heap.size, 0, none⟩) | 1 => f 1 = aggI .u64 ps_0_5 | 2 => f 2 = aggI .u64 cr0 | 3 => f 3 = .pointer (some ⟨w.heap.size, 5, none⟩) | 4 => f 4 = aggI .u64 ps_5_5 | 5 => f 5 = aggI .u64 bu0 | 6 => f 6 = undef | _ => True) (fun _ v v' => ∃ cs, v' = v.setRow (w1.heap.size) cs) (by kernel_rfl) (by kernel_rfl) (by kernel_rfl) (by kernel_rfl) (fun b v v' hb h => ⟨h.1.below hb, h.2.1.below hb, below_then h.2.2 hb⟩) (fun _ _ _ _ _ h => h) (fun _ _ _ _ _ _ _ h => h) ⟨A1.drew, A2.drew, BB.drew⟩ ?_ ?_
 ·
  refine StepL.other (k := 0) rfl (fun b f W hb hG hH => ?_) ?_
  ·
   obtain rfl := hb rfl
   clear hH
   generalize hA : putL _ _ _ _ = A
   have q1 : A.eval (.tmp 1) = .pointer (some ⟨w.heap.size, 0, none⟩) := putLn hA 1 rfl rfl rfl
   clear hA
   exact Does.fieldA rfl 44 _ 0 rfl (off := 0) (by kernel_rfl) (w.heap.size) 0 q1 (o1 := 0) rfl ⟨Below.refl _ _, rfl⟩
  refine StepL.other (k := 1) rfl (fun b f W hb hG hH => ?_) ?_
  ·
   obtain rfl := hb rfl
   obtain ⟨d0, -⟩ := hH
   generalize hA : putL _ _ _ _ = A
   have q3 := putLl hA 3 d0 rfl rfl
   clear hA
   exact Does.loadM rfl 42 _ rfl 5 _ und_limbs rfl info_limbs (w.heap.size) 0 q3 .u64 (ps) (hG.1) (by omega) (h_ps_0_5) ⟨Below.refl _ _, rfl⟩
  refine StepL.other (k := 2) rfl (fun b f W hb hG hH => ?_) ?_
  ·
   obtain rfl := hb rfl
   obtain ⟨d1, -⟩ := hH
   generalize hA : putL _ _ _ _ = A
   have q4 := putLl hA 4 d1 rfl rfl
   have r4 := slot_get q4
   clear hA
   refine Does.call rfl _ _ (by go_simp) ((H0 W).mono ?_)
   rintro e w' ⟨rfl, hb'⟩
   exact ⟨_, rfl, hb', rfl⟩
  refine StepL.other (k := 3) rfl (fun b f W hb hG hH => ?_) ?_
  ·
   obtain rfl := hb rfl
   clear hH
   generalize hA : putL _ _ _ _ = A
   have q1 : A.eval (.tmp 1) = .pointer (some ⟨w.heap.size, 0, none⟩) := putLn hA 1 rfl rfl rfl
   clear hA
   exact Does.fieldA rfl 44 _ 1 rfl (off := 5) (by kernel_rfl) (w.heap.size) 0 q1 (o1 := 5) rfl ⟨Below.refl _ _, rfl⟩
  refine StepL.other (k := 4) rfl (fun b f W hb hG hH => ?_) ?_
  ·
   obtain rfl := hb rfl
   obtain ⟨d3, -⟩ := hH
   generalize hA : putL _ _ _ _ = A
   have q6 := putLl hA 6 d3 rfl rfl
   clear hA
   exact Does.loadM rfl 42 _ rfl 5 _ und_limbs rfl info_limbs (w.heap.size) 5 q6 .u64 (ps) (hG.1) (by omega) (h_ps_5_5) ⟨Below.refl _ _, rfl⟩
  refine StepL.other (k := 5) rfl (fun b f W hb hG hH => ?_) ?_
  ·
   obtain rfl := hb rfl
   obtain ⟨d2, d4, -⟩ := hH
   generalize hA : putL _ _ _ _ = A
   have q5 := putLl hA 5 d2 rfl rfl
   have r5 := slot_get q5
   have q7 := putLl hA 7 d4 rfl rfl
   have r7 := slot_get q7
   clear hA
   exact Does.buildI rfl 44 _ rfl .u64 (bu0) _ (hbu0) (by simp [q5, q7]) ⟨Below.refl _ _, rfl⟩
  refine StepL.self (k := 6) rfl (fun f W hG hH => ?_) ?_
  ·
   obtain ⟨d5, d2, d0, d1, -, d3, d4, -, -⟩ := hH
   generalize hA : putL _ _ _ _ = A
   have q2 : A.eval (.tmp 2) = .pointer (some ⟨w1.heap.size, 0, none⟩) := putLn hA 2 rfl rfl rfl
   have r2 := slot_get q2
   have q8 := putLl hA 8 d5 rfl rfl
   have r8 := slot_get q8
   clear hA
   have hZ : Arr .u64 W (w1.heap.size) (List.replicate 10 0) := hG.2.1
   refine Does.storeI rfl 44 _ _ rfl 10 info_plane (w1.heap.size) q2 .u64 _ (bu0) q8 hZ (rfl) (l_bu0) ?_
   intro A9
   exact ⟨⟨_, rfl⟩, ⟨hG.1.rowOther (by omega) _, A9, Below.setRow hG.2.2 (by omega) _⟩, rfl⟩
  exact trivial
 ·
  intro f V3 hG hH
  obtain ⟨d0, d1, d2, d3, d4, d5, d6, -⟩ : (f 0 = .pointer (some ⟨w.heap.size, 0, none⟩)) ∧ (f 1 = aggI .u64 ps_0_5) ∧ (f 2 = aggI .u64 cr0) ∧ (f 3 = .pointer (some ⟨w.heap.size, 5, none⟩)) ∧ (f 4 = aggI .u64 ps_5_5) ∧ (f 5 = aggI .u64 bu0) ∧ (f 6 = undef) ∧ True := hH
  rw [show List.range (List.length [[], [0], [1], [], [3], [2, 4], [5, 2, 0, 1, 2, 3, 4, 5]]) = [0, 1, 2, 3, 4, 5, 6] from rfl]
  simp only [putL, List.getElem?_cons_zero, List.getElem?_cons_succ, Option.join, Option.bind_some, id_eq, Act.put, List.setIfInBounds_toArray, List.set_cons_zero, List.set_cons_succ, d0, d1, d2, d3, d4, d5]
  clear d0 d1 d2 d3 d4 d5 d6
  clear A1 A2
  obtain ⟨A1, A2, BV⟩ := hG
  have A2 : Arr .u64 V3 (w1.heap.size) bu0 := A2
  clear BB
  have BB := BV
  clear BV
  have zz3 := BB.size
  go_wp2
  refine bodyPost_ret (results_cellM rfl _ 10 _ Tryd.underlying44 rfl info_plane (w1.heap.size) rfl .u64 _ A2 (l_bu0)) rfl ?_
  exact ⟨rfl, BB⟩

set_option maxHeartbeats 2000000 in
theorem raised_walk (ps cr0 ps_0_5 ps_5_5 cr1 bu0 : List Int) (w : World) (l_ps : ps.length = 10) (l_cr0 : cr0.length = 5) (l_ps_0_5 : ps_0_5.length = 5) (l_ps_5_5 : ps_5_5.length = 5) (l_cr1 : cr1.length = 5) (l_bu0 : bu0.length = 20)
  (h_ps_0_5 : sl ps 0 5 = ps_0_5)
  (h_ps_5_5 : sl ps 5 5 = ps_5_5)
  (hbu0 : Tryd.prog.built 46 [(0, aggI .u64 ps), (1, aggI .u64 cr0), (2, aggI .u64 cr1)] = some (bu0.map (Value.int .u64)).toArray)
  (H0 : ∀ W, Ret 63 #[.int .u32 1] (aggI .u64 cr0) W)
  (H1 : ∀ W, Ret 49 #[aggI .u64 ps_0_5, aggI .u64 ps_5_5] (aggI .u64 cr1) W) :
  Calls Tryd.prog 34 #[aggI .u64 ps] w fun e w' => e = .returned (aggI .u64 bu0) ∧ Below w.heap.size w w' := by
 go_enter Tryd.func34, Tryd.ntmps34
 go_wp2_with (first
   | (with_reducible refine at_n 1 ?_; refine wpList_boxI rfl 44 _ rfl .u64 ps rfl ?_; intro w1 A1 s1 b1; have BB := b1; have y1 := BB.size)
   | (with_reducible refine at_n 2 ?_; refine wpList_allocI rfl 46 rfl .u64 20 zero_point ?_; intro w2 A2 s2 b2; have q2_1 := A1.lt; replace A1 := A1.below b2; replace BB := below_then BB b2; have y2 := BB.size))
 have k3_0 := A1.lt
 have k3_1 := A2.lt
 refine wp_region_ord [[], [], [], [2], [], [4], [3, 5, 1], [0, 1, 6], [7, 6, 0, 1, 2, 3, 4, 5, 6, 7]] [some 3, some 4, some 5, some 6, some 7, some 8, some 9, some 10, none] 8 (fun b w' => Arr .u64 w' (w.heap.size) ps ∧ Arr .u64 w' (w1.heap.size) (if b then bu0 else List.replicate 20 0) ∧ Below w.heap.size w w') (fun opn f _ => match opn with | 0 => f 0 = aggI .u64 ps | 1 => f 1 = aggI .u64 cr0 | 2 => f 2 = .pointer (some ⟨w.heap.size, 0, none⟩) | 3 => f 3 = aggI .u64 ps_0_5 | 4 => f 4 = .pointer (some ⟨w.heap.size, 5, none⟩) | 5 => f 5 = aggI .u64 ps_5_5 | 6 => f 6 = aggI .u64 cr1 | 7 => f 7 = aggI .u64 bu0 | 8 => f 8 = undef | _ => True) (fun _ v v' => ∃ cs, v' = v.setRow (w1.heap.size) cs) (by kernel_rfl) (by kernel_rfl) (by kernel_rfl) (by kernel_rfl) (fun b v v' hb h => ⟨h.1.below hb, h.2.1.below hb, below_then h.2.2 hb⟩) (fun _ _ _ _ _ h => h) (fun _ _ _ _ _ _ _ h => h) ⟨A1.drew, A2.drew, BB.drew⟩ ?_ ?_
 ·
  refine StepL.other (k := 0) rfl (fun b f W hb hG hH => ?_) ?_
  ·
   obtain rfl := hb rfl
   clear hH
   generalize hA : putL _ _ _ _ = A
   have q1 : A.eval (.tmp 1) = .pointer (some ⟨w.heap.size, 0, none⟩) := putLn hA 1 rfl rfl rfl
   clear hA
   exact Does.loadM rfl 44 _ rfl 10 _ Tryd.underlying44 rfl info_plane (w.heap.size) 0 q1 .u64 (ps) (hG.1) (by omega) (sl_all l_ps) ⟨Below.refl _ _, rfl⟩
  refine StepL.other (k := 1) rfl (fun b f W hb hG hH => ?_) ?_
  ·
   obtain rfl := hb rfl
   clear hH
   generalize hA : putL _ _ _ _ = A
   clear hA
   refine Does.call rfl _ _ (by go_simp) ((H0 W).mono ?_)
   rintro e w' ⟨rfl, hb'⟩
   exact ⟨_, rfl, hb', rfl⟩
  refine StepL.other (k := 2) rfl (fun b f W hb hG hH => ?_) ?_
  ·
   obtain rfl := hb rfl
   clear hH
   generalize hA : putL _ _ _ _ = A
   have q1 : A.eval (.tmp 1) = .pointer (some ⟨w.heap.size, 0, none⟩) := putLn hA 1 rfl rfl rfl
   clear hA
   exact Does.fieldA rfl 44 _ 0 rfl (off := 0) (by kernel_rfl) (w.heap.size) 0 q1 (o1 := 0) rfl ⟨Below.refl _ _, rfl⟩
  refine StepL.other (k := 3) rfl (fun b f W hb hG hH => ?_) ?_
  ·
   obtain rfl := hb rfl
   obtain ⟨d2, -⟩ := hH
   generalize hA : putL _ _ _ _ = A
   have q5 := putLl hA 5 d2 rfl rfl
   clear hA
   exact Does.loadM rfl 42 _ rfl 5 _ und_limbs rfl info_limbs (w.heap.size) 0 q5 .u64 (ps) (hG.1) (by omega) (h_ps_0_5) ⟨Below.refl _ _, rfl⟩
  refine StepL.other (k := 4) rfl (fun b f W hb hG hH => ?_) ?_
  ·
   obtain rfl := hb rfl
   clear hH
   generalize hA : putL _ _ _ _ = A
   have q1 : A.eval (.tmp 1) = .pointer (some ⟨w.heap.size, 0, none⟩) := putLn hA 1 rfl rfl rfl
   clear hA
   exact Does.fieldA rfl 44 _ 1 rfl (off := 5) (by kernel_rfl) (w.heap.size) 0 q1 (o1 := 5) rfl ⟨Below.refl _ _, rfl⟩
  refine StepL.other (k := 5) rfl (fun b f W hb hG hH => ?_) ?_
  ·
   obtain rfl := hb rfl
   obtain ⟨d4, -⟩ := hH
   generalize hA : putL _ _ _ _ = A
   have q7 := putLl hA 7 d4 rfl rfl
   clear hA
   exact Does.loadM rfl 42 _ rfl 5 _ und_limbs rfl info_limbs (w.heap.size) 5 q7 .u64 (ps) (hG.1) (by omega) (h_ps_5_5) ⟨Below.refl _ _, rfl⟩
  refine StepL.other (k := 6) rfl (fun b f W hb hG hH => ?_) ?_
  ·
   obtain rfl := hb rfl
   obtain ⟨d3, d5, d1, -⟩ := hH
   generalize hA : putL _ _ _ _ = A
   have q6 := putLl hA 6 d3 rfl rfl
   have r6 := slot_get q6
   have q8 := putLl hA 8 d5 rfl rfl
   have r8 := slot_get q8
   clear hA
   refine Does.call rfl _ _ (by go_simp) ((H1 W).mono ?_)
   rintro e w' ⟨rfl, hb'⟩
   exact ⟨_, rfl, hb', rfl⟩
  refine StepL.other (k := 7) rfl (fun b f W hb hG hH => ?_) ?_
  ·
   obtain rfl := hb rfl
   obtain ⟨d0, d1, d6, -⟩ := hH
   generalize hA : putL _ _ _ _ = A
   have q3 := putLl hA 3 d0 rfl rfl
   have r3 := slot_get q3
   have q4 := putLl hA 4 d1 rfl rfl
   have r4 := slot_get q4
   have q9 := putLl hA 9 d6 rfl rfl
   have r9 := slot_get q9
   clear hA
   exact Does.buildI rfl 46 _ rfl .u64 (bu0) _ (hbu0) (by simp [q3, q4, q9]) ⟨Below.refl _ _, rfl⟩
  refine StepL.self (k := 8) rfl (fun f W hG hH => ?_) ?_
  ·
   obtain ⟨d7, d6, d0, d1, d2, d3, d4, d5, -, -, -⟩ := hH
   generalize hA : putL _ _ _ _ = A
   have q2 : A.eval (.tmp 2) = .pointer (some ⟨w1.heap.size, 0, none⟩) := putLn hA 2 rfl rfl rfl
   have r2 := slot_get q2
   have q10 := putLl hA 10 d7 rfl rfl
   have r10 := slot_get q10
   clear hA
   have hZ : Arr .u64 W (w1.heap.size) (List.replicate 20 0) := hG.2.1
   refine Does.storeI rfl 46 _ _ rfl 20 info_point (w1.heap.size) q2 .u64 _ (bu0) q10 hZ (rfl) (l_bu0) ?_
   intro A9
   exact ⟨⟨_, rfl⟩, ⟨hG.1.rowOther (by omega) _, A9, Below.setRow hG.2.2 (by omega) _⟩, rfl⟩
  exact trivial
 ·
  intro f V3 hG hH
  obtain ⟨d0, d1, d2, d3, d4, d5, d6, d7, d8, -⟩ : (f 0 = aggI .u64 ps) ∧ (f 1 = aggI .u64 cr0) ∧ (f 2 = .pointer (some ⟨w.heap.size, 0, none⟩)) ∧ (f 3 = aggI .u64 ps_0_5) ∧ (f 4 = .pointer (some ⟨w.heap.size, 5, none⟩)) ∧ (f 5 = aggI .u64 ps_5_5) ∧ (f 6 = aggI .u64 cr1) ∧ (f 7 = aggI .u64 bu0) ∧ (f 8 = undef) ∧ True := hH
  rw [show List.range (List.length [[], [], [], [2], [], [4], [3, 5, 1], [0, 1, 6], [7, 6, 0, 1, 2, 3, 4, 5, 6, 7]]) = [0, 1, 2, 3, 4, 5, 6, 7, 8] from rfl]
  simp only [putL, List.getElem?_cons_zero, List.getElem?_cons_succ, Option.join, Option.bind_some, id_eq, Act.put, List.setIfInBounds_toArray, List.set_cons_zero, List.set_cons_succ, d0, d1, d2, d3, d4, d5, d6, d7]
  clear d0 d1 d2 d3 d4 d5 d6 d7 d8
  clear A1 A2
  obtain ⟨A1, A2, BV⟩ := hG
  have A2 : Arr .u64 V3 (w1.heap.size) bu0 := A2
  clear BB
  have BB := BV
  clear BV
  have zz3 := BB.size
  go_wp2
  refine bodyPost_ret (results_cellM rfl _ 20 _ Tryd.underlying46 rfl info_point (w1.heap.size) rfl .u64 _ A2 (l_bu0)) rfl ?_
  exact ⟨rfl, BB⟩

set_option maxHeartbeats 2000000 in
theorem crossed_walk (es fs gs hs cr0 cr1 bu0 cr2 cr3 bu1 : List Int) (w : World) (l_es : es.length = 5) (l_fs : fs.length = 5) (l_gs : gs.length = 5) (l_hs : hs.length = 5) (l_cr0 : cr0.length = 5) (l_cr1 : cr1.length = 5) (l_bu0 : bu0.length = 10) (l_cr2 : cr2.length = 5) (l_cr3 : cr3.length = 5) (l_bu1 : bu1.length = 20)
  (hbu0 : Tryd.prog.built 44 [(0, aggI .u64 cr0), (1, aggI .u64 cr1)] = some (bu0.map (Value.int .u64)).toArray)
  (hbu1 : Tryd.prog.built 46 [(0, aggI .u64 bu0), (1, aggI .u64 cr2), (2, aggI .u64 cr3)] = some (bu1.map (Value.int .u64)).toArray)
  (H0 : ∀ W, Ret 49 #[aggI .u64 es, aggI .u64 fs] (aggI .u64 cr0) W)
  (H1 : ∀ W, Ret 49 #[aggI .u64 gs, aggI .u64 hs] (aggI .u64 cr1) W)
  (H2 : ∀ W, Ret 49 #[aggI .u64 fs, aggI .u64 gs] (aggI .u64 cr2) W)
  (H3 : ∀ W, Ret 49 #[aggI .u64 es, aggI .u64 hs] (aggI .u64 cr3) W) :
  Calls Tryd.prog 52 #[aggI .u64 es, aggI .u64 fs, aggI .u64 gs, aggI .u64 hs] w fun e w' => e = .returned (aggI .u64 bu1) ∧ Below w.heap.size w w' := by
 go_enter Tryd.func52, Tryd.ntmps52
 go_wp2_with (first
   | (with_reducible refine at_n 4 ?_; refine wpList_boxI rfl 42 _ rfl .u64 es rfl ?_; intro w1 A4 s1 b1; have BB := b1; have y1 := BB.size)
   | (with_reducible refine at_n 5 ?_; refine wpList_boxI rfl 42 _ rfl .u64 fs rfl ?_; intro w2 A5 s2 b2; have q2_4 := A4.lt; replace A4 := A4.below b2; replace BB := below_then BB b2; have y2 := BB.size)
   | (with_reducible refine at_n 6 ?_; refine wpList_boxI rfl 42 _ rfl .u64 gs rfl ?_; intro w3 A6 s3 b3; have q3_4 := A4.lt; have q3_5 := A5.lt; replace A4 := A4.below b3; replace A5 := A5.below b3; replace BB := below_then BB b3; have y3 := BB.size)
   | (with_reducible refine at_n 7 ?_; refine wpList_boxI rfl 42 _ rfl .u64 hs rfl ?_; intro w4 A7 s4 b4; have q4_4 := A4.lt; have q4_5 := A5.lt; have q4_6 := A6.lt; replace A4 := A4.below b4; replace A5 := A5.below b4; replace A6 := A6.below b4; replace BB := below_then BB b4; have y4 := BB.size)
   | (with_reducible refine at_n 8 ?_; refine wpList_allocI rfl 46 rfl .u64 20 zero_point ?_; intro w5 A8 s5 b5; have q5_4 := A4.lt; have q5_5 := A5.lt; have q5_6 := A6.lt; have q5_7 := A7.lt; replace A4 := A4.below b5; replace A5 := A5.below b5; replace A6 := A6.below b5; replace A7 := A7.below b5; replace BB := below_then BB b5; have y5 := BB.size))
 have k6_0 := A4.lt
 have k6_1 := A5.lt
 have k6_2 := A6.lt
 have k6_3 := A7.lt
 have k6_4 := A8.lt
 refine wp_region_ord [[], [], [0, 1], [], [], [3, 4, 2], [2, 5], [], [], [7, 8, 5], [], [], [10, 11, 9], [6, 9, 12], [13, 12, 0, 1, 2, 3, 4, 5, 6, 7, 8, 9, 10, 11, 12, 13]] [some 9, some 10, some 11, some 12, some 13, some 14, some 15, some 16, some 17, some 18, some 19, some 20, some 21, some 22, none] 14 (fun b w' => Arr .u64 w' (w.heap.size) es ∧ Arr .u64 w' (w1.heap.size) fs ∧ Arr .u64 w' (w2.heap.size) gs ∧ Arr .u64 w' (w3.heap.size) hs ∧ Arr .u64 w' (w4.heap.size) (if b then bu1 else List.replicate 20 0) ∧ Below w.heap.size w w') (fun opn f _ => match opn with | 0 => f 0 = aggI .u64 es | 1 => f 1 = aggI .u64 fs | 2 => f 2 = aggI .u64 cr0 | 3 => f 3 = aggI .u64 gs | 4 => f 4 = aggI .u64 hs | 5 => f 5 = aggI .u64 cr1 | 6 => f 6 = aggI .u64 bu0 | 7 => f 7 = aggI .u64 fs | 8 => f 8 = aggI .u64 gs | 9 => f 9 = aggI .u64 cr2 | 10 => f 10 = aggI .u64 es | 11 => f 11 = aggI .u64 hs | 12 => f 12 = aggI .u64 cr3 | 13 => f 13 = aggI .u64 bu1 | 14 => f 14 = undef | _ => True) (fun _ v v' => ∃ cs, v' = v.setRow (w4.heap.size) cs) (by kernel_rfl) (by kernel_rfl) (by kernel_rfl) (by kernel_rfl) (fun b v v' hb h => ⟨h.1.below hb, h.2.1.below hb, h.2.2.1.below hb, h.2.2.2.1.below hb, h.2.2.2.2.1.below hb, below_then h.2.2.2.2.2 hb⟩) (fun _ _ _ _ _ h => h) (fun _ _ _ _ _ _ _ h => h) ⟨A4.drew, A5.drew, A6.drew, A7.drew, A8.drew, BB.drew⟩ ?_ ?_
 ·
  refine StepL.other (k := 0) rfl (fun b f W hb hG hH => ?_) ?_
  ·
   obtain rfl := hb rfl
   clear hH
   generalize hA : putL _ _ _ _ = A
   have q4 : A.eval (.tmp 4) = .pointer (some ⟨w.heap.size, 0, none⟩) := putLn hA 4 rfl rfl rfl
   clear hA
   exact Does.loadM rfl 42 _ rfl 5 _ und_limbs rfl info_limbs (w.heap.size) 0 q4 .u64 (es) (hG.1) (by omega) (sl_all l_es) ⟨Below.refl _ _, rfl⟩
  refine StepL.other (k := 1) rfl (fun b f W hb hG hH => ?_) ?_
  ·
   obtain rfl := hb rfl
   clear hH
   generalize hA : putL _ _ _ _ = A
   have q5 : A.eval (.tmp 5) = .pointer (some ⟨w1.heap.size, 0, none⟩) := putLn hA 5 rfl rfl rfl
   clear hA
   exact Does.loadM rfl 42 _ rfl 5 _ und_limbs rfl info_limbs (w1.heap.size) 0 q5 .u64 (fs) (hG.2.1) (by omega) (sl_all l_fs) ⟨Below.refl _ _, rfl⟩
  refine StepL.other (k := 2) rfl (fun b f W hb hG hH => ?_) ?_
  ·
   obtain rfl := hb rfl
   obtain ⟨d0, d1, -⟩ := hH
   generalize hA : putL _ _ _ _ = A
   have q9 := putLl hA 9 d0 rfl rfl
   have r9 := slot_get q9
   have q10 := putLl hA 10 d1 rfl rfl
   have r10 := slot_get q10
   clear hA
   refine Does.call rfl _ _ (by go_simp) ((H0 W).mono ?_)
   rintro e w' ⟨rfl, hb'⟩
   exact ⟨_, rfl, hb', rfl⟩
  refine StepL.other (k := 3) rfl (fun b f W hb hG hH => ?_) ?_
  ·
   obtain rfl := hb rfl
   clear hH
   generalize hA : putL _ _ _ _ = A
   have q6 : A.eval (.tmp 6) = .pointer (some ⟨w2.heap.size, 0, none⟩) := putLn hA 6 rfl rfl rfl
   clear hA
   exact Does.loadM rfl 42 _ rfl 5 _ und_limbs rfl info_limbs (w2.heap.size) 0 q6 .u64 (gs) (hG.2.2.1) (by omega) (sl_all l_gs) ⟨Below.refl _ _, rfl⟩
  refine StepL.other (k := 4) rfl (fun b f W hb hG hH => ?_) ?_
  ·
   obtain rfl := hb rfl
   clear hH
   generalize hA : putL _ _ _ _ = A
   have q7 : A.eval (.tmp 7) = .pointer (some ⟨w3.heap.size, 0, none⟩) := putLn hA 7 rfl rfl rfl
   clear hA
   exact Does.loadM rfl 42 _ rfl 5 _ und_limbs rfl info_limbs (w3.heap.size) 0 q7 .u64 (hs) (hG.2.2.2.1) (by omega) (sl_all l_hs) ⟨Below.refl _ _, rfl⟩
  refine StepL.other (k := 5) rfl (fun b f W hb hG hH => ?_) ?_
  ·
   obtain rfl := hb rfl
   obtain ⟨d3, d4, d2, -⟩ := hH
   generalize hA : putL _ _ _ _ = A
   have q12 := putLl hA 12 d3 rfl rfl
   have r12 := slot_get q12
   have q13 := putLl hA 13 d4 rfl rfl
   have r13 := slot_get q13
   clear hA
   refine Does.call rfl _ _ (by go_simp) ((H1 W).mono ?_)
   rintro e w' ⟨rfl, hb'⟩
   exact ⟨_, rfl, hb', rfl⟩
  refine StepL.other (k := 6) rfl (fun b f W hb hG hH => ?_) ?_
  ·
   obtain rfl := hb rfl
   obtain ⟨d2, d5, -⟩ := hH
   generalize hA : putL _ _ _ _ = A
   have q11 := putLl hA 11 d2 rfl rfl
   have r11 := slot_get q11
   have q14 := putLl hA 14 d5 rfl rfl
   have r14 := slot_get q14
   clear hA
   exact Does.buildI rfl 44 _ rfl .u64 (bu0) _ (hbu0) (by simp [q11, q14]) ⟨Below.refl _ _, rfl⟩
  refine StepL.other (k := 7) rfl (fun b f W hb hG hH => ?_) ?_
  ·
   obtain rfl := hb rfl
   clear hH
   generalize hA : putL _ _ _ _ = A
   have q5 : A.eval (.tmp 5) = .pointer (some ⟨w1.heap.size, 0, none⟩) := putLn hA 5 rfl rfl rfl
   clear hA
   exact Does.loadM rfl 42 _ rfl 5 _ und_limbs rfl info_limbs (w1.heap.size) 0 q5 .u64 (fs) (hG.2.1) (by omega) (sl_all l_fs) ⟨Below.refl _ _, rfl⟩
  refine StepL.other (k := 8) rfl (fun b f W hb hG hH => ?_) ?_
  ·
   obtain rfl := hb rfl
   clear hH
   generalize hA : putL _ _ _ _ = A
   have q6 : A.eval (.tmp 6) = .pointer (some ⟨w2.heap.size, 0, none⟩) := putLn hA 6 rfl rfl rfl
   clear hA
   exact Does.loadM rfl 42 _ rfl 5 _ und_limbs rfl info_limbs (w2.heap.size) 0 q6 .u64 (gs) (hG.2.2.1) (by omega) (sl_all l_gs) ⟨Below.refl _ _, rfl⟩
  refine StepL.other (k := 9) rfl (fun b f W hb hG hH => ?_) ?_
  ·
   obtain rfl := hb rfl
   obtain ⟨d7, d8, d5, -⟩ := hH
   generalize hA : putL _ _ _ _ = A
   have q16 := putLl hA 16 d7 rfl rfl
   have r16 := slot_get q16
   have q17 := putLl hA 17 d8 rfl rfl
   have r17 := slot_get q17
   clear hA
   refine Does.call rfl _ _ (by go_simp) ((H2 W).mono ?_)
   rintro e w' ⟨rfl, hb'⟩
   exact ⟨_, rfl, hb', rfl⟩
  refine StepL.other (k := 10) rfl (fun b f W hb hG hH => ?_) ?_
  ·
   obtain rfl := hb rfl
   clear hH
   generalize hA : putL _ _ _ _ = A
   have q4 : A.eval (.tmp 4) = .pointer (some ⟨w.heap.size, 0, none⟩) := putLn hA 4 rfl rfl rfl
   clear hA
   exact Does.loadM rfl 42 _ rfl 5 _ und_limbs rfl info_limbs (w.heap.size) 0 q4 .u64 (es) (hG.1) (by omega) (sl_all l_es) ⟨Below.refl _ _, rfl⟩
  refine StepL.other (k := 11) rfl (fun b f W hb hG hH => ?_) ?_
  ·
   obtain rfl := hb rfl
   clear hH
   generalize hA : putL _ _ _ _ = A
   have q7 : A.eval (.tmp 7) = .pointer (some ⟨w3.heap.size, 0, none⟩) := putLn hA 7 rfl rfl rfl
   clear hA
   exact Does.loadM rfl 42 _ rfl 5 _ und_limbs rfl info_limbs (w3.heap.size) 0 q7 .u64 (hs) (hG.2.2.2.1) (by omega) (sl_all l_hs) ⟨Below.refl _ _, rfl⟩
  refine StepL.other (k := 12) rfl (fun b f W hb hG hH => ?_) ?_
  ·
   obtain rfl := hb rfl
   obtain ⟨d10, d11, d9, -⟩ := hH
   generalize hA : putL _ _ _ _ = A
   have q19 := putLl hA 19 d10 rfl rfl
   have r19 := slot_get q19
   have q20 := putLl hA 20 d11 rfl rfl
   have r20 := slot_get q20
   clear hA
   refine Does.call rfl _ _ (by go_simp) ((H3 W).mono ?_)
   rintro e w' ⟨rfl, hb'⟩
   exact ⟨_, rfl, hb', rfl⟩
  refine StepL.other (k := 13) rfl (fun b f W hb hG hH => ?_) ?_
  ·
   obtain rfl := hb rfl
   obtain ⟨d6, d9, d12, -⟩ := hH
   generalize hA : putL _ _ _ _ = A
   have q15 := putLl hA 15 d6 rfl rfl
   have r15 := slot_get q15
   have q18 := putLl hA 18 d9 rfl rfl
   have r18 := slot_get q18
   have q21 := putLl hA 21 d12 rfl rfl
   have r21 := slot_get q21
   clear hA
   exact Does.buildI rfl 46 _ rfl .u64 (bu1) _ (hbu1) (by simp [q15, q18, q21]) ⟨Below.refl _ _, rfl⟩
  refine StepL.self (k := 14) rfl (fun f W hG hH => ?_) ?_
  ·
   obtain ⟨d13, d12, d0, d1, d2, d3, d4, d5, d6, d7, d8, d9, d10, d11, -, -, -⟩ := hH
   generalize hA : putL _ _ _ _ = A
   have q8 : A.eval (.tmp 8) = .pointer (some ⟨w4.heap.size, 0, none⟩) := putLn hA 8 rfl rfl rfl
   have r8 := slot_get q8
   have q22 := putLl hA 22 d13 rfl rfl
   have r22 := slot_get q22
   clear hA
   have hZ : Arr .u64 W (w4.heap.size) (List.replicate 20 0) := hG.2.2.2.2.1
   refine Does.storeI rfl 46 _ _ rfl 20 info_point (w4.heap.size) q8 .u64 _ (bu1) q22 hZ (rfl) (l_bu1) ?_
   intro A9
   exact ⟨⟨_, rfl⟩, ⟨hG.1.rowOther (by omega) _, hG.2.1.rowOther (by omega) _, hG.2.2.1.rowOther (by omega) _, hG.2.2.2.1.rowOther (by omega) _, A9, Below.setRow hG.2.2.2.2.2 (by omega) _⟩, rfl⟩
  exact trivial
 ·
  intro f V6 hG hH
  obtain ⟨d0, d1, d2, d3, d4, d5, d6, d7, d8, d9, d10, d11, d12, d13, d14, -⟩ : (f 0 = aggI .u64 es) ∧ (f 1 = aggI .u64 fs) ∧ (f 2 = aggI .u64 cr0) ∧ (f 3 = aggI .u64 gs) ∧ (f 4 = aggI .u64 hs) ∧ (f 5 = aggI .u64 cr1) ∧ (f 6 = aggI .u64 bu0) ∧ (f 7 = aggI .u64 fs) ∧ (f 8 = aggI .u64 gs) ∧ (f 9 = aggI .u64 cr2) ∧ (f 10 = aggI .u64 es) ∧ (f 11 = aggI .u64 hs) ∧ (f 12 = aggI .u64 cr3) ∧ (f 13 = aggI .u64 bu1) ∧ (f 14 = undef) ∧ True := hH
  rw [show List.range (List.length [[], [], [0, 1], [], [], [3, 4, 2], [2, 5], [], [], [7, 8, 5], [], [], [10, 11, 9], [6, 9, 12], [13, 12, 0, 1, 2, 3, 4, 5, 6, 7, 8, 9, 10, 11, 12, 13]]) = [0, 1, 2, 3, 4, 5, 6, 7, 8, 9, 10, 11, 12, 13, 14] from rfl]
  simp only [putL, List.getElem?_cons_zero, List.getElem?_cons_succ, Option.join, Option.bind_some, id_eq, Act.put, List.setIfInBounds_toArray, List.set_cons_zero, List.set_cons_succ, d0, d1, d2, d3, d4, d5, d6, d7, d8, d9, d10, d11, d12, d13]
  clear d0 d1 d2 d3 d4 d5 d6 d7 d8 d9 d10 d11 d12 d13 d14
  clear A4 A5 A6 A7 A8
  obtain ⟨A4, A5, A6, A7, A8, BV⟩ := hG
  have A8 : Arr .u64 V6 (w4.heap.size) bu1 := A8
  clear BB
  have BB := BV
  clear BV
  have zz6 := BB.size
  go_wp2
  refine bodyPost_ret (results_cellM rfl _ 20 _ Tryd.underlying46 rfl info_point (w4.heap.size) rfl .u64 _ A8 (l_bu1)) rfl ?_
  exact ⟨rfl, BB⟩

set_option maxHeartbeats 4000000 in
theorem with_walk (ps qs ps_0_10 cr0 qs_0_10 cr1 cr2 cr3 cr4 cr5 ps_15_5 qs_15_5 cr6 cr7 cr8 ps_10_5 qs_10_5 cr9 cr10 cr11 cr12 cr13 cr14 cr15 : List Int) (w : World) (hT : TabC w)
  (l_ps : ps.length = 20) (l_qs : qs.length = 20) (l_ps_0_10 : ps_0_10.length = 10) (l_cr0 : cr0.length = 5) (l_qs_0_10 : qs_0_10.length = 10) (l_cr1 : cr1.length = 5) (l_cr2 : cr2.length = 5) (l_cr3 : cr3.length = 5) (l_cr4 : cr4.length = 5) (l_cr5 : cr5.length = 5) (l_ps_15_5 : ps_15_5.length = 5) (l_qs_15_5 : qs_15_5.length = 5) (l_cr6 : cr6.length = 5) (l_cr7 : cr7.length = 5) (l_cr8 : cr8.length = 5) (l_ps_10_5 : ps_10_5.length = 5) (l_qs_10_5 : qs_10_5.length = 5) (l_cr9 : cr9.length = 5) (l_cr10 : cr10.length = 5) (l_cr11 : cr11.length = 5) (l_cr12 : cr12.length = 5) (l_cr13 : cr13.length = 5) (l_cr14 : cr14.length = 5) (l_cr15 : cr15.length = 20)
  (h_ps_0_10 : sl ps 0 10 = ps_0_10)
  (h_qs_0_10 : sl qs 0 10 = qs_0_10)
  (h_ps_15_5 : sl ps 15 5 = ps_15_5)
  (h_qs_15_5 : sl qs 15 5 = qs_15_5)
  (h_ps_10_5 : sl ps 10 5 = ps_10_5)
  (h_qs_10_5 : sl qs 10 5 = qs_10_5)
  (H0 : ∀ W, Ret 48 #[aggI .u64 ps_0_10] (aggI .u64 cr0) W)
  (H1 : ∀ W, Ret 48 #[aggI .u64 qs_0_10] (aggI .u64 cr1) W)
  (H2 : ∀ W, Ret 49 #[aggI .u64 cr0, aggI .u64 cr1] (aggI .u64 cr2) W)
  (H3 : ∀ W, Ret 50 #[aggI .u64 ps_0_10] (aggI .u64 cr3) W)
  (H4 : ∀ W, Ret 50 #[aggI .u64 qs_0_10] (aggI .u64 cr4) W)
  (H5 : ∀ W, Ret 49 #[aggI .u64 cr3, aggI .u64 cr4] (aggI .u64 cr5) W)
  (H6 : ∀ W, Ret 49 #[aggI .u64 ps_15_5, aggI .u64 qs_15_5] (aggI .u64 cr6) W)
  (H7 : ∀ W, Ret 49 #[aggI .u64 cr6, aggI .u64 dLn] (aggI .u64 cr7) W)
  (H8 : ∀ W, Ret 51 #[aggI .u64 cr7, aggI .u64 cr7] (aggI .u64 cr8) W)
  (H9 : ∀ W, Ret 49 #[aggI .u64 ps_10_5, aggI .u64 qs_10_5] (aggI .u64 cr9) W)
  (H10 : ∀ W, Ret 51 #[aggI .u64 cr9, aggI .u64 cr9] (aggI .u64 cr10) W)
  (H11 : ∀ W, Ret 53 #[aggI .u64 cr5, aggI .u64 cr2] (aggI .u64 cr11) W)
  (H12 : ∀ W, Ret 53 #[aggI .u64 cr10, aggI .u64 cr8] (aggI .u64 cr12) W)
  (H13 : ∀ W, Ret 51 #[aggI .u64 cr10, aggI .u64 cr8] (aggI .u64 cr13) W)
  (H14 : ∀ W, Ret 51 #[aggI .u64 cr5, aggI .u64 cr2] (aggI .u64 cr14) W)
  (H15 : ∀ W, Ret 52 #[aggI .u64 cr11, aggI .u64 cr12, aggI .u64 cr13, aggI .u64 cr14] (aggI .u64 cr15) W) :
  Calls Tryd.prog 28 #[aggI .u64 ps, aggI .u64 qs] w fun e w' => e = .returned (aggI .u64 cr15) ∧ Below w.heap.size w w' := by
 go_enter Tryd.func28, Tryd.ntmps28
 go_wp2_with (first
   | (with_reducible refine at_n 2 ?_; refine wpList_boxI rfl 46 _ rfl .u64 ps rfl ?_; intro w1 A2 s1 b1; have BB := b1; have y1 := BB.size)
   | (with_reducible refine at_n 3 ?_; refine wpList_boxI rfl 46 _ rfl .u64 qs rfl ?_; intro w2 A3 s2 b2; have q2_2 := A2.lt; replace A2 := A2.below b2; replace BB := below_then BB b2; have y2 := BB.size)
   | (with_reducible refine at_n 4 ?_; refine wpList_allocI rfl 46 rfl .u64 20 zero_point ?_; intro w3 A4 s3 b3; have q3_2 := A2.lt; have q3_3 := A3.lt; replace A2 := A2.below b3; replace A3 := A3.below b3; replace BB := below_then BB b3; have y3 := BB.size))
 have k4_0 := A2.lt
 have k4_1 := A3.lt
 have k4_2 := A4.lt
 refine wp_region_new [[], [0], [1], [], [3], [4, 2], [2, 5, 5], [], [7, 6, 6, 0, 1, 2, 3, 4, 5, 6, 7]] [some 9, some 10, some 11, some 12, some 13, some 14, some 15, some 5, none] (w3.heap.size) [⟨7, 8, .u64, 5, cr2⟩] (fun w' => Arr .u64 w' (w.heap.size) ps ∧ Arr .u64 w' (w1.heap.size) qs ∧ Arr .u64 w' (w2.heap.size) (List.replicate 20 0) ∧ Below w3.heap.size w3 w') (fun opn f _ => match opn with | 0 => f 0 = .pointer (some ⟨w.heap.size, 0, none⟩) | 1 => f 1 = aggI .u64 ps_0_10 | 2 => f 2 = aggI .u64 cr0 | 3 => f 3 = .pointer (some ⟨w1.heap.size, 0, none⟩) | 4 => f 4 = aggI .u64 qs_0_10 | 5 => f 5 = aggI .u64 cr1 | 6 => f 6 = aggI .u64 cr2 | _ => True) (by kernel_rfl) (by kernel_rfl) (by kernel_rfl) (by kernel_rfl) rfl (by intro it h it' h' e; simp only [List.mem_cons, List.not_mem_nil, or_false] at h h'; rcases h with rfl <;> rcases h' with rfl <;> first | rfl | (simp at e)) (fun v v' hb h => ⟨h.1.below hb, h.2.1.below hb, h.2.2.1.below hb, below_then h.2.2.2 hb⟩) (fun v h => h.2.2.2.size) (fun v B cs hB h => ⟨h.1.rowOther (by omega) _, h.2.1.rowOther (by omega) _, h.2.2.1.rowOther (by omega) _, Below.setRow h.2.2.2 (by omega) _⟩) (fun _ _ _ _ h => h) ⟨A2.drew, A3.drew, A4.drew, (Below.refl _ _).drew⟩ ?_ (by intro it h; simp only [List.mem_cons, List.not_mem_nil, or_false] at h; rcases h with rfl <;> exact ⟨by simp, by simp⟩) ?_
 ·
  refine StepN.plain rfl (fun f W hG hH => ?_) ?_
  ·
   clear hH
   generalize hA : putL _ _ _ _ = A
   have q2 : A.eval (.tmp 2) = .pointer (some ⟨w.heap.size, 0, none⟩) := putLn hA 2 rfl rfl rfl
   clear hA
   exact Does.fieldA rfl 46 _ 0 rfl (off := 0) (by kernel_rfl) (w.heap.size) 0 q2 (o1 := 0) rfl ⟨Below.refl _ _, rfl⟩
  refine StepN.plain rfl (fun f W hG hH => ?_) ?_
  ·
   obtain ⟨d0, -⟩ := hH
   generalize hA : putL _ _ _ _ = A
   have q9 := putLl hA 9 d0 rfl rfl
   clear hA
   exact Does.loadM rfl 44 _ rfl 10 _ Tryd.underlying44 rfl info_plane (w.heap.size) 0 q9 .u64 (ps) (hG.1) (by omega) (h_ps_0_10) ⟨Below.refl _ _, rfl⟩
  refine StepN.plain rfl (fun f W hG hH => ?_) ?_
  ·
   obtain ⟨d1, -⟩ := hH
   generalize hA : putL _ _ _ _ = A
   have q10 := putLl hA 10 d1 rfl rfl
   have r10 := slot_get q10
   clear hA
   refine Does.call rfl _ _ (by go_simp) ((H0 W).mono ?_)
   rintro e w' ⟨rfl, hb'⟩
   exact ⟨_, rfl, hb', rfl⟩
  refine StepN.plain rfl (fun f W hG hH => ?_) ?_
  ·
   clear hH
   generalize hA : putL _ _ _ _ = A
   have q3 : A.eval (.tmp 3) = .pointer (some ⟨w1.heap.size, 0, none⟩) := putLn hA 3 rfl rfl rfl
   clear hA
   exact Does.fieldA rfl 46 _ 0 rfl (off := 0) (by kernel_rfl) (w1.heap.size) 0 q3 (o1 := 0) rfl ⟨Below.refl _ _, rfl⟩
  refine StepN.plain rfl (fun f W hG hH => ?_) ?_
  ·
   obtain ⟨d3, -⟩ := hH
   generalize hA : putL _ _ _ _ = A
   have q12 := putLl hA 12 d3 rfl rfl
   clear hA
   exact Does.loadM rfl 44 _ rfl 10 _ Tryd.underlying44 rfl info_plane (w1.heap.size) 0 q12 .u64 (qs) (hG.2.1) (by omega) (h_qs_0_10) ⟨Below.refl _ _, rfl⟩
  refine StepN.plain rfl (fun f W hG hH => ?_) ?_
  ·
   obtain ⟨d4, d2, -⟩ := hH
   generalize hA : putL _ _ _ _ = A
   have q13 := putLl hA 13 d4 rfl rfl
   have r13 := slot_get q13
   clear hA
   refine Does.call rfl _ _ (by go_simp) ((H1 W).mono ?_)
   rintro e w' ⟨rfl, hb'⟩
   exact ⟨_, rfl, hb', rfl⟩
  refine StepN.plain rfl (fun f W hG hH => ?_) ?_
  ·
   obtain ⟨d2, d5, -, -⟩ := hH
   generalize hA : putL _ _ _ _ = A
   have q11 := putLl hA 11 d2 rfl rfl
   have r11 := slot_get q11
   have q14 := putLl hA 14 d5 rfl rfl
   have r14 := slot_get q14
   clear hA
   refine Does.call rfl _ _ (by go_simp) ((H2 W).mono ?_)
   rintro e w' ⟨rfl, hb'⟩
   exact ⟨_, rfl, hb', rfl⟩
  refine StepN.alloc rfl (fun _ _ => trivial) (fun A W => ?_) ?_
  ·
   refine Does.allocI rfl 42 rfl .u64 5 zero_limbs ?_
   intro W1 D1 s1 b1'
   exact ⟨b1', rfl, D1⟩
  refine StepN.store rfl (fun _ _ => trivial) (fun f W B hG hH hB hZ => ?_) ?_
  ·
   obtain ⟨-, d6, -, d0, d1, d2, d3, d4, d5, -, -, -⟩ := hH
   generalize hA : putL _ _ _ _ = A
   have q5 : A.eval (.tmp 5) = f 7 := putLl hA 5 rfl rfl rfl
   have r5 := slot_get q5
   have q15 := putLl hA 15 d6 rfl rfl
   have r15 := slot_get q15
   clear hA
   have hB : f 7 = .pointer (some ⟨B, 0, none⟩) := hB
   rw [hB] at q5
   refine Does.storeI rfl 42 _ _ rfl 5 info_limbs B q5 .u64 _ (cr2) q15 hZ (by rfl) (l_cr2) ?_
   intro A9
   exact ⟨rfl, A9⟩
  exact trivial
 ·
  intro f V4 hG hH hN
  obtain ⟨d0, d1, d2, d3, d4, d5, d6, -, -, -⟩ : (f 0 = .pointer (some ⟨w.heap.size, 0, none⟩)) ∧ (f 1 = aggI .u64 ps_0_10) ∧ (f 2 = aggI .u64 cr0) ∧ (f 3 = .pointer (some ⟨w1.heap.size, 0, none⟩)) ∧ (f 4 = aggI .u64 qs_0_10) ∧ (f 5 = aggI .u64 cr1) ∧ (f 6 = aggI .u64 cr2) ∧ (True) ∧ (True) ∧ True := hH
  rw [show List.range (List.length [[], [0], [1], [], [3], [4, 2], [2, 5, 5], [], [7, 6, 6, 0, 1, 2, 3, 4, 5, 6, 7]]) = [0, 1, 2, 3, 4, 5, 6, 7, 8] from rfl]
  obtain ⟨loc, hn1, hn2⟩ := hN
  obtain ⟨hN0, kN0, A5⟩ : f 7 = .pointer (some ⟨loc 7, 0, none⟩) ∧ w3.heap.size ≤ loc 7 ∧ Arr .u64 V4 (loc 7) cr2 := hn1 ⟨7, 8, .u64, 5, cr2⟩ (by simp) rfl
  clear hn1 hn2
  generalize loc 7 = N4_0 at *
  simp only [putL, List.getElem?_cons_zero, List.getElem?_cons_succ, Option.join, Option.bind_some, id_eq, Act.put, List.setIfInBounds_toArray, List.set_cons_zero, List.set_cons_succ, d0, d1, d2, d3, d4, d5, d6, hN0]
  clear d0 d1 d2 d3 d4 d5 d6 hN0
  clear A2 A3 A4
  obtain ⟨A2, A3, A4, BV⟩ := hG
  replace BB := below_then BB BV
  clear BV
  have zz4 := BB.size
  go_wp2
  have k5_0 := A2.lt
  have k5_1 := A3.lt
  have k5_2 := A4.lt
  have k5_3 := A5.lt
  refine wp_region_new [[], [0], [1], [], [3], [4, 2], [2, 5, 5], [], [7, 6, 6, 0, 1, 2, 3, 4, 5, 6, 7]] [some 16, some 17, some 18, some 19, some 20, some 21, some 22, some 6, none] (V4.heap.size) [⟨7, 8, .u64, 5, cr5⟩] (fun w' => Arr .u64 w' (w.heap.size) ps ∧ Arr .u64 w' (w1.heap.size) qs ∧ Arr .u64 w' (w2.heap.size) (List.replicate 20 0) ∧ Arr .u64 w' (N4_0) cr2 ∧ Below V4.heap.size V4 w') (fun opn f _ => match opn with | 0 => f 0 = .pointer (some ⟨w.heap.size, 0, none⟩) | 1 => f 1 = aggI .u64 ps_0_10 | 2 => f 2 = aggI .u64 cr3 | 3 => f 3 = .pointer (some ⟨w1.heap.size, 0, none⟩) | 4 => f 4 = aggI .u64 qs_0_10 | 5 => f 5 = aggI .u64 cr4 | 6 => f 6 = aggI .u64 cr5 | _ => True) (by kernel_rfl) (by kernel_rfl) (by kernel_rfl) (by kernel_rfl) rfl (by intro it h it' h' e; simp only [List.mem_cons, List.not_mem_nil, or_false] at h h'; rcases h with rfl <;> rcases h' with rfl <;> first | rfl | (simp at e)) (fun v v' hb h => ⟨h.1.below hb, h.2.1.below hb, h.2.2.1.below hb, h.2.2.2.1.below hb, below_then h.2.2.2.2 hb⟩) (fun v h => h.2.2.2.2.size) (fun v B cs hB h => ⟨h.1.rowOther (by omega) _, h.2.1.rowOther (by omega) _, h.2.2.1.rowOther (by omega) _, h.2.2.2.1.rowOther (by omega) _, Below.setRow h.2.2.2.2 (by omega) _⟩) (fun _ _ _ _ h => h) ⟨A2.drew, A3.drew, A4.drew, A5.drew, (Below.refl _ _).drew⟩ ?_ (by intro it h; simp only [List.mem_cons, List.not_mem_nil, or_false] at h; rcases h with rfl <;> exact ⟨by simp, by simp⟩) ?_
  ·
   refine StepN.plain rfl (fun f W hG hH => ?_) ?_
   ·
    clear hH
    generalize hA : putL _ _ _ _ = A
    have q2 : A.eval (.tmp 2) = .pointer (some ⟨w.heap.size, 0, none⟩) := putLn hA 2 rfl rfl rfl
    clear hA
    exact Does.fieldA rfl 46 _ 0 rfl (off := 0) (by kernel_rfl) (w.heap.size) 0 q2 (o1 := 0) rfl ⟨Below.refl _ _, rfl⟩
   refine StepN.plain rfl (fun f W hG hH => ?_) ?_
   ·
    obtain ⟨d0, -⟩ := hH
    generalize hA : putL _ _ _ _ = A
    have q16 := putLl hA 16 d0 rfl rfl
    clear hA
    exact Does.loadM rfl 44 _ rfl 10 _ Tryd.underlying44 rfl info_plane (w.heap.size) 0 q16 .u64 (ps) (hG.1) (by omega) (h_ps_0_10) ⟨Below.refl _ _, rfl⟩
   refine StepN.plain rfl (fun f W hG hH => ?_) ?_
   ·
    obtain ⟨d1, -⟩ := hH
    generalize hA : putL _ _ _ _ = A
    have q17 := putLl hA 17 d1 rfl rfl
    have r17 := slot_get q17
    clear hA
    refine Does.call rfl _ _ (by go_simp) ((H3 W).mono ?_)
    rintro e w' ⟨rfl, hb'⟩
    exact ⟨_, rfl, hb', rfl⟩
   refine StepN.plain rfl (fun f W hG hH => ?_) ?_
   ·
    clear hH
    generalize hA : putL _ _ _ _ = A
    have q3 : A.eval (.tmp 3) = .pointer (some ⟨w1.heap.size, 0, none⟩) := putLn hA 3 rfl rfl rfl
    clear hA
    exact Does.fieldA rfl 46 _ 0 rfl (off := 0) (by kernel_rfl) (w1.heap.size) 0 q3 (o1 := 0) rfl ⟨Below.refl _ _, rfl⟩
   refine StepN.plain rfl (fun f W hG hH => ?_) ?_
   ·
    obtain ⟨d3, -⟩ := hH
    generalize hA : putL _ _ _ _ = A
    have q19 := putLl hA 19 d3 rfl rfl
    clear hA
    exact Does.loadM rfl 44 _ rfl 10 _ Tryd.underlying44 rfl info_plane (w1.heap.size) 0 q19 .u64 (qs) (hG.2.1) (by omega) (h_qs_0_10) ⟨Below.refl _ _, rfl⟩
   refine StepN.plain rfl (fun f W hG hH => ?_) ?_
   ·
    obtain ⟨d4, d2, -⟩ := hH
    generalize hA : putL _ _ _ _ = A
    have q20 := putLl hA 20 d4 rfl rfl
    have r20 := slot_get q20
    clear hA
    refine Does.call rfl _ _ (by go_simp) ((H4 W).mono ?_)
    rintro e w' ⟨rfl, hb'⟩
    exact ⟨_, rfl, hb', rfl⟩
   refine StepN.plain rfl (fun f W hG hH => ?_) ?_
   ·
    obtain ⟨d2, d5, -, -⟩ := hH
    generalize hA : putL _ _ _ _ = A
    have q18 := putLl hA 18 d2 rfl rfl
    have r18 := slot_get q18
    have q21 := putLl hA 21 d5 rfl rfl
    have r21 := slot_get q21
    clear hA
    refine Does.call rfl _ _ (by go_simp) ((H5 W).mono ?_)
    rintro e w' ⟨rfl, hb'⟩
    exact ⟨_, rfl, hb', rfl⟩
   refine StepN.alloc rfl (fun _ _ => trivial) (fun A W => ?_) ?_
   ·
    refine Does.allocI rfl 42 rfl .u64 5 zero_limbs ?_
    intro W1 D1 s1 b1'
    exact ⟨b1', rfl, D1⟩
   refine StepN.store rfl (fun _ _ => trivial) (fun f W B hG hH hB hZ => ?_) ?_
   ·
    obtain ⟨-, d6, -, d0, d1, d2, d3, d4, d5, -, -, -⟩ := hH
    generalize hA : putL _ _ _ _ = A
    have q6 : A.eval (.tmp 6) = f 7 := putLl hA 6 rfl rfl rfl
    have r6 := slot_get q6
    have q22 := putLl hA 22 d6 rfl rfl
    have r22 := slot_get q22
    clear hA
    have hB : f 7 = .pointer (some ⟨B, 0, none⟩) := hB
    rw [hB] at q6
    refine Does.storeI rfl 42 _ _ rfl 5 info_limbs B q6 .u64 _ (cr5) q22 hZ (by rfl) (l_cr5) ?_
    intro A9
    exact ⟨rfl, A9⟩
   exact trivial
  ·
   intro f V5 hG hH hN
   obtain ⟨d0, d1, d2, d3, d4, d5, d6, -, -, -⟩ : (f 0 = .pointer (some ⟨w.heap.size, 0, none⟩)) ∧ (f 1 = aggI .u64 ps_0_10) ∧ (f 2 = aggI .u64 cr3) ∧ (f 3 = .pointer (some ⟨w1.heap.size, 0, none⟩)) ∧ (f 4 = aggI .u64 qs_0_10) ∧ (f 5 = aggI .u64 cr4) ∧ (f 6 = aggI .u64 cr5) ∧ (True) ∧ (True) ∧ True := hH
   rw [show List.range (List.length [[], [0], [1], [], [3], [4, 2], [2, 5, 5], [], [7, 6, 6, 0, 1, 2, 3, 4, 5, 6, 7]]) = [0, 1, 2, 3, 4, 5, 6, 7, 8] from rfl]
   obtain ⟨loc, hn1, hn2⟩ := hN
   obtain ⟨hN0, kN0, A6⟩ : f 7 = .pointer (some ⟨loc 7, 0, none⟩) ∧ V4.heap.size ≤ loc 7 ∧ Arr .u64 V5 (loc 7) cr5 := hn1 ⟨7, 8, .u64, 5, cr5⟩ (by simp) rfl
   clear hn1 hn2
   generalize loc 7 = N5_0 at *
   simp only [putL, List.getElem?_cons_zero, List.getElem?_cons_succ, Option.join, Option.bind_some, id_eq, Act.put, List.setIfInBounds_toArray, List.set_cons_zero, List.set_cons_succ, d0, d1, d2, d3, d4, d5, d6, hN0]
   clear d0 d1 d2 d3 d4 d5 d6 hN0
   clear A2 A3 A4 A5
   obtain ⟨A2, A3, A4, A5, BV⟩ := hG
   replace BB := below_then BB BV
   clear BV
   have zz5 := BB.size
   go_wp2
   have k6_0 := A2.lt
   have k6_1 := A3.lt
   have k6_2 := A4.lt
   have k6_3 := A5.lt
   have k6_4 := A6.lt
   refine wp_region_new [[], [0], [], [2], [1, 3], [], [4, 5, 4], [], [7, 6, 6, 0, 1, 2, 3, 4, 5, 6, 7]] [some 23, some 24, some 25, some 26, some 27, some 28, some 29, some 7, none] (V5.heap.size) [⟨7, 8, .u64, 5, cr7⟩] (fun w' => Arr .u64 w' (w.heap.size) ps ∧ Arr .u64 w' (w1.heap.size) qs ∧ Arr .u64 w' (w2.heap.size) (List.replicate 20 0) ∧ Arr .u64 w' (N4_0) cr2 ∧ Arr .u64 w' (N5_0) cr5 ∧ Below V5.heap.size V5 w') (fun opn f _ => match opn with | 0 => f 0 = .pointer (some ⟨w.heap.size, 15, none⟩) | 1 => f 1 = aggI .u64 ps_15_5 | 2 => f 2 = .pointer (some ⟨w1.heap.size, 15, none⟩) | 3 => f 3 = aggI .u64 qs_15_5 | 4 => f 4 = aggI .u64 cr6 | 5 => f 5 = aggI .u64 dLn | 6 => f 6 = aggI .u64 cr7 | _ => True) (by kernel_rfl) (by kernel_rfl) (by kernel_rfl) (by kernel_rfl) rfl (by intro it h it' h' e; simp only [List.mem_cons, List.not_mem_nil, or_false] at h h'; rcases h with rfl <;> rcases h' with rfl <;> first | rfl | (simp at e)) (fun v v' hb h => ⟨h.1.below hb, h.2.1.below hb, h.2.2.1.below hb, h.2.2.2.1.below hb, h.2.2.2.2.1.below hb, below_then h.2.2.2.2.2 hb⟩) (fun v h => h.2.2.2.2.2.size) (fun v B cs hB h => ⟨h.1.rowOther (by omega) _, h.2.1.rowOther (by omega) _, h.2.2.1.rowOther (by omega) _, h.2.2.2.1.rowOther (by omega) _, h.2.2.2.2.1.rowOther (by omega) _, Below.setRow h.2.2.2.2.2 (by omega) _⟩) (fun _ _ _ _ h => h) ⟨A2.drew, A3.drew, A4.drew, A5.drew, A6.drew, (Below.refl _ _).drew⟩ ?_ (by intro it h; simp only [List.mem_cons, List.not_mem_nil, or_false] at h; rcases h with rfl <;> exact ⟨by simp, by simp⟩) ?_
   ·
    refine StepN.plain rfl (fun f W hG hH => ?_) ?_
    ·
     clear hH
     generalize hA : putL _ _ _ _ = A
     have q2 : A.eval (.tmp 2) = .pointer (some ⟨w.heap.size, 0, none⟩) := putLn hA 2 rfl rfl rfl
     clear hA
     exact Does.fieldA rfl 46 _ 2 rfl (off := 15) (by kernel_rfl) (w.heap.size) 0 q2 (o1 := 15) rfl ⟨Below.refl _ _, rfl⟩
    refine StepN.plain rfl (fun f W hG hH => ?_) ?_
    ·
     obtain ⟨d0, -⟩ := hH
     generalize hA : putL _ _ _ _ = A
     have q23 := putLl hA 23 d0 rfl rfl
     clear hA
     exact Does.loadM rfl 42 _ rfl 5 _ und_limbs rfl info_limbs (w.heap.size) 15 q23 .u64 (ps) (hG.1) (by omega) (h_ps_15_5) ⟨Below.refl _ _, rfl⟩
    refine StepN.plain rfl (fun f W hG hH => ?_) ?_
    ·
     clear hH
     generalize hA : putL _ _ _ _ = A
     have q3 : A.eval (.tmp 3) = .pointer (some ⟨w1.heap.size, 0, none⟩) := putLn hA 3 rfl rfl rfl
     clear hA
     exact Does.fieldA rfl 46 _ 2 rfl (off := 15) (by kernel_rfl) (w1.heap.size) 0 q3 (o1 := 15) rfl ⟨Below.refl _ _, rfl⟩
    refine StepN.plain rfl (fun f W hG hH => ?_) ?_
    ·
     obtain ⟨d2, -⟩ := hH
     generalize hA : putL _ _ _ _ = A
     have q25 := putLl hA 25 d2 rfl rfl
     clear hA
     exact Does.loadM rfl 42 _ rfl 5 _ und_limbs rfl info_limbs (w1.heap.size) 15 q25 .u64 (qs) (hG.2.1) (by omega) (h_qs_15_5) ⟨Below.refl _ _, rfl⟩
    refine StepN.plain rfl (fun f W hG hH => ?_) ?_
    ·
     obtain ⟨d1, d3, -⟩ := hH
     generalize hA : putL _ _ _ _ = A
     have q24 := putLl hA 24 d1 rfl rfl
     have r24 := slot_get q24
     have q26 := putLl hA 26 d3 rfl rfl
     have r26 := slot_get q26
     clear hA
     refine Does.call rfl _ _ (by go_simp) ((H6 W).mono ?_)
     rintro e w' ⟨rfl, hb'⟩
     exact ⟨_, rfl, hb', rfl⟩
    refine StepN.plain rfl (fun f W hG hH => ?_) ?_
    ·
     clear hH
     generalize hA : putL _ _ _ _ = A
     clear hA
     exact Does.loadG rfl 42 _ rfl 5 _ und_limbs rfl info_limbs 1 0 rfl .u64 (dLn) ((hT.below (below_then BB hG.2.2.2.2.2)).g1) (by rw [l_dLn]; decide) (sl_all l_dLn) ⟨Below.refl _ _, rfl⟩
    refine StepN.plain rfl (fun f W hG hH => ?_) ?_
    ·
     obtain ⟨d4, d5, -, -⟩ := hH
     generalize hA : putL _ _ _ _ = A
     have q27 := putLl hA 27 d4 rfl rfl
     have r27 := slot_get q27
     have q28 := putLl hA 28 d5 rfl rfl
     have r28 := slot_get q28
     clear hA
     refine Does.call rfl _ _ (by go_simp) ((H7 W).mono ?_)
     rintro e w' ⟨rfl, hb'⟩
     exact ⟨_, rfl, hb', rfl⟩
    refine StepN.alloc rfl (fun _ _ => trivial) (fun A W => ?_) ?_
    ·
     refine Does.allocI rfl 42 rfl .u64 5 zero_limbs ?_
     intro W1 D1 s1 b1'
     exact ⟨b1', rfl, D1⟩
    refine StepN.store rfl (fun _ _ => trivial) (fun f W B hG hH hB hZ => ?_) ?_
    ·
     obtain ⟨-, d6, -, d0, d1, d2, d3, d4, d5, -, -, -⟩ := hH
     generalize hA : putL _ _ _ _ = A
     have q7 : A.eval (.tmp 7) = f 7 := putLl hA 7 rfl rfl rfl
     have r7 := slot_get q7
     have q29 := putLl hA 29 d6 rfl rfl
     have r29 := slot_get q29
     clear hA
     have hB : f 7 = .pointer (some ⟨B, 0, none⟩) := hB
     rw [hB] at q7
     refine Does.storeI rfl 42 _ _ rfl 5 info_limbs B q7 .u64 _ (cr7) q29 hZ (by rfl) (l_cr7) ?_
     intro A9
     exact ⟨rfl, A9⟩
    exact trivial
   ·
    intro f V6 hG hH hN
    obtain ⟨d0, d1, d2, d3, d4, d5, d6, -, -, -⟩ : (f 0 = .pointer (some ⟨w.heap.size, 15, none⟩)) ∧ (f 1 = aggI .u64 ps_15_5) ∧ (f 2 = .pointer (some ⟨w1.heap.size, 15, none⟩)) ∧ (f 3 = aggI .u64 qs_15_5) ∧ (f 4 = aggI .u64 cr6) ∧ (f 5 = aggI .u64 dLn) ∧ (f 6 = aggI .u64 cr7) ∧ (True) ∧ (True) ∧ True := hH
    rw [show List.range (List.length [[], [0], [], [2], [1, 3], [], [4, 5, 4], [], [7, 6, 6, 0, 1, 2, 3, 4, 5, 6, 7]]) = [0, 1, 2, 3, 4, 5, 6, 7, 8] from rfl]
    obtain ⟨loc, hn1, hn2⟩ := hN
    obtain ⟨hN0, kN0, A7⟩ : f 7 = .pointer (some ⟨loc 7, 0, none⟩) ∧ V5.heap.size ≤ loc 7 ∧ Arr .u64 V6 (loc 7) cr7 := hn1 ⟨7, 8, .u64, 5, cr7⟩ (by simp) rfl
    clear hn1 hn2
    generalize loc 7 = N6_0 at *
    simp only [putL, List.getElem?_cons_zero, List.getElem?_cons_succ, Option.join, Option.bind_some, id_eq, Act.put, List.setIfInBounds_toArray, List.set_cons_zero, List.set_cons_succ, d0, d1, d2, d3, d4, d5, d6, hN0]
    clear d0 d1 d2 d3 d4 d5 d6 hN0
    clear A2 A3 A4 A5 A6
    obtain ⟨A2, A3, A4, A5, A6, BV⟩ := hG
    replace BB := below_then BB BV
    clear BV
    have zz6 := BB.size
    go_wp2_with (first
      | (with_reducible refine at_n 30 ?_; refine wpList_val' (fun R hR => Does.loadM rfl 42 _ rfl 5 _ und_limbs rfl info_limbs (N6_0) 0 rfl .u64 (cr7) (A7) (by omega) (sl_all l_cr7) hR) ?_)
      | (with_reducible refine at_n 31 ?_; refine wpList_val' (fun R hR => Does.loadM rfl 42 _ rfl 5 _ und_limbs rfl info_limbs (N6_0) 0 rfl .u64 (cr7) (A7) (by omega) (sl_all l_cr7) hR) ?_)
      | (with_reducible refine at_op (o := ⟨_, .store 42 (.tmp 7) _, _, _, _, _⟩) ?_; refine wpList_storeI rfl 42 _ _ rfl 5 info_limbs (N6_0) rfl .u64 _ (cr8) rfl (A7) (l_cr7) (l_cr8) ?_; intro D8; replace A2 := A2.rowOther (B' := N6_0) (by omega) ((cr8).map (Value.int .u64)).toArray; replace A3 := A3.rowOther (B' := N6_0) (by omega) ((cr8).map (Value.int .u64)).toArray; replace A4 := A4.rowOther (B' := N6_0) (by omega) ((cr8).map (Value.int .u64)).toArray; replace A5 := A5.rowOther (B' := N6_0) (by omega) ((cr8).map (Value.int .u64)).toArray; replace A6 := A6.rowOther (B' := N6_0) (by omega) ((cr8).map (Value.int .u64)).toArray; replace BB := Below.setRow BB (g := N6_0) (by omega) ((cr8).map (Value.int .u64)).toArray; clear A7; have A7 := D8)
      | (with_reducible refine at_n 33 ?_; refine wpList_val' (fun R hR => Does.fieldA rfl 46 _ 1 rfl (off := 10) (by kernel_rfl) (w.heap.size) 0 rfl (o1 := 10) rfl hR) ?_)
      | (with_reducible refine at_n 34 ?_; refine wpList_val' (fun R hR => Does.loadM rfl 42 _ rfl 5 _ und_limbs rfl info_limbs (w.heap.size) 10 rfl .u64 (ps) (A2) (by omega) (h_ps_10_5) hR) ?_)
      | (with_reducible refine at_n 35 ?_; refine wpList_val' (fun R hR => Does.fieldA rfl 46 _ 1 rfl (off := 10) (by kernel_rfl) (w1.heap.size) 0 rfl (o1 := 10) rfl hR) ?_)
      | (with_reducible refine at_n 36 ?_; refine wpList_val' (fun R hR => Does.loadM rfl 42 _ rfl 5 _ und_limbs rfl info_limbs (w1.heap.size) 10 rfl .u64 (qs) (A3) (by omega) (h_qs_10_5) hR) ?_)
      | (with_reducible refine at_n 8 ?_; refine wpList_allocI rfl 42 rfl .u64 5 zero_limbs ?_; intro w10 A8 s10 b10; have q10_2 := A2.lt; have q10_3 := A3.lt; have q10_4 := A4.lt; have q10_5 := A5.lt; have q10_6 := A6.lt; have q10_7 := A7.lt; replace A2 := A2.below b10; replace A3 := A3.below b10; replace A4 := A4.below b10; replace A5 := A5.below b10; replace A6 := A6.below b10; replace A7 := A7.below b10; replace BB := below_then BB b10; have y10 := BB.size)
      | (with_reducible refine at_op (o := ⟨_, .store 42 (.tmp 8) _, _, _, _, _⟩) ?_; refine wpList_storeI rfl 42 _ _ rfl 5 info_limbs (w9.heap.size) rfl .u64 _ (cr9) rfl (A8) (rfl) (l_cr9) ?_; intro D11; replace A2 := A2.rowOther (B' := w9.heap.size) (by omega) ((cr9).map (Value.int .u64)).toArray; replace A3 := A3.rowOther (B' := w9.heap.size) (by omega) ((cr9).map (Value.int .u64)).toArray; replace A4 := A4.rowOther (B' := w9.heap.size) (by omega) ((cr9).map (Value.int .u64)).toArray; replace A5 := A5.rowOther (B' := w9.heap.size) (by omega) ((cr9).map (Value.int .u64)).toArray; replace A6 := A6.rowOther (B' := w9.heap.size) (by omega) ((cr9).map (Value.int .u64)).toArray; replace A7 := A7.rowOther (B' := w9.heap.size) (by omega) ((cr9).map (Value.int .u64)).toArray; replace BB := Below.setRow BB (g := w9.heap.size) (by omega) ((cr9).map (Value.int .u64)).toArray; clear A8; have A8 := D11)
      | (with_reducible refine at_n 38 ?_; refine wpList_val' (fun R hR => Does.loadM rfl 42 _ rfl 5 _ und_limbs rfl info_limbs (w9.heap.size) 0 rfl .u64 (cr9) (A8) (by omega) (sl_all l_cr9) hR) ?_)
      | (with_reducible refine at_n 39 ?_; refine wpList_val' (fun R hR => Does.loadM rfl 42 _ rfl 5 _ und_limbs rfl info_limbs (w9.heap.size) 0 rfl .u64 (cr9) (A8) (by omega) (sl_all l_cr9) hR) ?_)
      | (with_reducible refine at_op (o := ⟨_, .store 42 (.tmp 8) _, _, _, _, _⟩) ?_; refine wpList_storeI rfl 42 _ _ rfl 5 info_limbs (w9.heap.size) rfl .u64 _ (cr10) rfl (A8) (l_cr9) (l_cr10) ?_; intro D13; replace A2 := A2.rowOther (B' := w9.heap.size) (by omega) ((cr10).map (Value.int .u64)).toArray; replace A3 := A3.rowOther (B' := w9.heap.size) (by omega) ((cr10).map (Value.int .u64)).toArray; replace A4 := A4.rowOther (B' := w9.heap.size) (by omega) ((cr10).map (Value.int .u64)).toArray; replace A5 := A5.rowOther (B' := w9.heap.size) (by omega) ((cr10).map (Value.int .u64)).toArray; replace A6 := A6.rowOther (B' := w9.heap.size) (by omega) ((cr10).map (Value.int .u64)).toArray; replace A7 := A7.rowOther (B' := w9.heap.size) (by omega) ((cr10).map (Value.int .u64)).toArray; replace BB := Below.setRow BB (g := w9.heap.size) (by omega) ((cr10).map (Value.int .u64)).toArray; clear A8; have A8 := D13)
      | (go_at_call 51; first | ((with_reducible refine (H8 _).mono ?_); rintro e w7 ⟨rfl, b7⟩; replace A2 := A2.below b7; replace A3 := A3.below b7; replace A4 := A4.below b7; replace A5 := A5.below b7; replace A6 := A6.below b7; replace A7 := A7.below b7; replace BB := below_then BB b7; have z7 := BB.size) | ((with_reducible refine (H10 _).mono ?_); rintro e w12 ⟨rfl, b12⟩; replace A2 := A2.below b12; replace A3 := A3.below b12; replace A4 := A4.below b12; replace A5 := A5.below b12; replace A6 := A6.below b12; replace A7 := A7.below b12; replace A8 := A8.below b12; replace BB := below_then BB b12; have z12 := BB.size))
      | (go_at_call 49; first | ((with_reducible refine (H9 _).mono ?_); rintro e w9 ⟨rfl, b9⟩; replace A2 := A2.below b9; replace A3 := A3.below b9; replace A4 := A4.below b9; replace A5 := A5.below b9; replace A6 := A6.below b9; replace A7 := A7.below b9; replace BB := below_then BB b9; have z9 := BB.size)))
    refine wp_world fun Wc14 hWc => ?_
    rw [← hWc] at BB A2 A3 A4 A5 A6 A7 A8
    clear hWc
    have k14_0 := A2.lt
    have k14_1 := A3.lt
    have k14_2 := A4.lt
    have k14_3 := A5.lt
    have k14_4 := A6.lt
    have k14_5 := A7.lt
    have k14_6 := A8.lt
    refine wp_region_ord [[], [], [0, 1], [], [], [3, 4, 2], [], [], [6, 7, 5], [], [], [9, 10, 8], [2, 5, 8, 11, 11], [12, 12, 0, 1, 2, 3, 4, 5, 6, 7, 8, 9, 10, 11, 12]] [some 41, some 42, some 43, some 44, some 45, some 46, some 47, some 48, some 49, some 50, some 51, some 52, some 53, none] 13 (fun b w' => Arr .u64 w' (w.heap.size) ps ∧ Arr .u64 w' (w1.heap.size) qs ∧ Arr .u64 w' (w2.heap.size) (if b then cr15 else List.replicate 20 0) ∧ Arr .u64 w' (N4_0) cr2 ∧ Arr .u64 w' (N5_0) cr5 ∧ Arr .u64 w' (N6_0) cr8 ∧ Arr .u64 w' (w9.heap.size) cr10 ∧ Below w.heap.size w w') (fun opn f _ => match opn with | 0 => f 0 = aggI .u64 cr5 | 1 => f 1 = aggI .u64 cr2 | 2 => f 2 = aggI .u64 cr11 | 3 => f 3 = aggI .u64 cr10 | 4 => f 4 = aggI .u64 cr8 | 5 => f 5 = aggI .u64 cr12 | 6 => f 6 = aggI .u64 cr10 | 7 => f 7 = aggI .u64 cr8 | 8 => f 8 = aggI .u64 cr13 | 9 => f 9 = aggI .u64 cr5 | 10 => f 10 = aggI .u64 cr2 | 11 => f 11 = aggI .u64 cr14 | 12 => f 12 = aggI .u64 cr15 | 13 => f 13 = undef | _ => True) (fun _ v v' => ∃ cs, v' = v.setRow (w2.heap.size) cs) (by kernel_rfl) (by kernel_rfl) (by kernel_rfl) (by kernel_rfl) (fun b v v' hb h => ⟨h.1.below hb, h.2.1.below hb, h.2.2.1.below hb, h.2.2.2.1.below hb, h.2.2.2.2.1.below hb, h.2.2.2.2.2.1.below hb, h.2.2.2.2.2.2.1.below hb, below_then h.2.2.2.2.2.2.2 hb⟩) (fun _ _ _ _ _ h => h) (fun _ _ _ _ _ _ _ h => h) ⟨A2.drew, A3.drew, A4.drew, A5.drew, A6.drew, A7.drew, A8.drew, BB.drew⟩ ?_ ?_
    ·
     refine StepL.other (k := 0) rfl (fun b f W hb hG hH => ?_) ?_
     ·
      obtain rfl := hb rfl
      clear hH
      generalize hA : putL _ _ _ _ = A
      have q6 : A.eval (.tmp 6) = .pointer (some ⟨N5_0, 0, none⟩) := putLn hA 6 rfl rfl rfl
      clear hA
      exact Does.loadM rfl 42 _ rfl 5 _ und_limbs rfl info_limbs (N5_0) 0 q6 .u64 (cr5) (hG.2.2.2.2.1) (by omega) (sl_all l_cr5) ⟨Below.refl _ _, rfl⟩
     refine StepL.other (k := 1) rfl (fun b f W hb hG hH => ?_) ?_
     ·
      obtain rfl := hb rfl
      clear hH
      generalize hA : putL _ _ _ _ = A
      have q5 : A.eval (.tmp 5) = .pointer (some ⟨N4_0, 0, none⟩) := putLn hA 5 rfl rfl rfl
      clear hA
      exact Does.loadM rfl 42 _ rfl 5 _ und_limbs rfl info_limbs (N4_0) 0 q5 .u64 (cr2) (hG.2.2.2.1) (by omega) (sl_all l_cr2) ⟨Below.refl _ _, rfl⟩
     refine StepL.other (k := 2) rfl (fun b f W hb hG hH => ?_) ?_
     ·
      obtain rfl := hb rfl
      obtain ⟨d0, d1, -⟩ := hH
      generalize hA : putL _ _ _ _ = A
      have q41 := putLl hA 41 d0 rfl rfl
      have r41 := slot_get q41
      have q42 := putLl hA 42 d1 rfl rfl
      have r42 := slot_get q42
      clear hA
      refine Does.call rfl _ _ (by go_simp) ((H11 W).mono ?_)
      rintro e w' ⟨rfl, hb'⟩
      exact ⟨_, rfl, hb', rfl⟩
     refine StepL.other (k := 3) rfl (fun b f W hb hG hH => ?_) ?_
     ·
      obtain rfl := hb rfl
      clear hH
      generalize hA : putL _ _ _ _ = A
      have q8 : A.eval (.tmp 8) = .pointer (some ⟨w9.heap.size, 0, none⟩) := putLn hA 8 rfl rfl rfl
      clear hA
      exact Does.loadM rfl 42 _ rfl 5 _ und_limbs rfl info_limbs (w9.heap.size) 0 q8 .u64 (cr10) (hG.2.2.2.2.2.2.1) (by omega) (sl_all l_cr10) ⟨Below.refl _ _, rfl⟩
     refine StepL.other (k := 4) rfl (fun b f W hb hG hH => ?_) ?_
     ·
      obtain rfl := hb rfl
      clear hH
      generalize hA : putL _ _ _ _ = A
      have q7 : A.eval (.tmp 7) = .pointer (some ⟨N6_0, 0, none⟩) := putLn hA 7 rfl rfl rfl
      clear hA
      exact Does.loadM rfl 42 _ rfl 5 _ und_limbs rfl info_limbs (N6_0) 0 q7 .u64 (cr8) (hG.2.2.2.2.2.1) (by omega) (sl_all l_cr8) ⟨Below.refl _ _, rfl⟩
     refine StepL.other (k := 5) rfl (fun b f W hb hG hH => ?_) ?_
     ·
      obtain rfl := hb rfl
      obtain ⟨d3, d4, d2, -⟩ := hH
      generalize hA : putL _ _ _ _ = A
      have q44 := putLl hA 44 d3 rfl rfl
      have r44 := slot_get q44
      have q45 := putLl hA 45 d4 rfl rfl
      have r45 := slot_get q45
      clear hA
      refine Does.call rfl _ _ (by go_simp) ((H12 W).mono ?_)
      rintro e w' ⟨rfl, hb'⟩
      exact ⟨_, rfl, hb', rfl⟩
     refine StepL.other (k := 6) rfl (fun b f W hb hG hH => ?_) ?_
     ·
      obtain rfl := hb rfl
      clear hH
      generalize hA : putL _ _ _ _ = A
      have q8 : A.eval (.tmp 8) = .pointer (some ⟨w9.heap.size, 0, none⟩) := putLn hA 8 rfl rfl rfl
      clear hA
      exact Does.loadM rfl 42 _ rfl 5 _ und_limbs rfl info_limbs (w9.heap.size) 0 q8 .u64 (cr10) (hG.2.2.2.2.2.2.1) (by omega) (sl_all l_cr10) ⟨Below.refl _ _, rfl⟩
     refine StepL.other (k := 7) rfl (fun b f W hb hG hH => ?_) ?_
     ·
      obtain rfl := hb rfl
      clear hH
      generalize hA : putL _ _ _ _ = A
      have q7 : A.eval (.tmp 7) = .pointer (some ⟨N6_0, 0, none⟩) := putLn hA 7 rfl rfl rfl
      clear hA
      exact Does.loadM rfl 42 _ rfl 5 _ und_limbs rfl info_limbs (N6_0) 0 q7 .u64 (cr8) (hG.2.2.2.2.2.1) (by omega) (sl_all l_cr8) ⟨Below.refl _ _, rfl⟩
     refine StepL.other (k := 8) rfl (fun b f W hb hG hH => ?_) ?_
     ·
      obtain rfl := hb rfl
      obtain ⟨d6, d7, d5, -⟩ := hH
      generalize hA : putL _ _ _ _ = A
      have q47 := putLl hA 47 d6 rfl rfl
      have r47 := slot_get q47
      have q48 := putLl hA 48 d7 rfl rfl
      have r48 := slot_get q48
      clear hA
      refine Does.call rfl _ _ (by go_simp) ((H13 W).mono ?_)
      rintro e w' ⟨rfl, hb'⟩
      exact ⟨_, rfl, hb', rfl⟩
     refine StepL.other (k := 9) rfl (fun b f W hb hG hH => ?_) ?_
     ·
      obtain rfl := hb rfl
      clear hH
      generalize hA : putL _ _ _ _ = A
      have q6 : A.eval (.tmp 6) = .pointer (some ⟨N5_0, 0, none⟩) := putLn hA 6 rfl rfl rfl
      clear hA
      exact Does.loadM rfl 42 _ rfl 5 _ und_limbs rfl info_limbs (N5_0) 0 q6 .u64 (cr5) (hG.2.2.2.2.1) (by omega) (sl_all l_cr5) ⟨Below.refl _ _, rfl⟩
     refine StepL.other (k := 10) rfl (fun b f W hb hG hH => ?_) ?_
     ·
      obtain rfl := hb rfl
      clear hH
      generalize hA : putL _ _ _ _ = A
      have q5 : A.eval (.tmp 5) = .pointer (some ⟨N4_0, 0, none⟩) := putLn hA 5 rfl rfl rfl
      clear hA
      exact Does.loadM rfl 42 _ rfl 5 _ und_limbs rfl info_limbs (N4_0) 0 q5 .u64 (cr2) (hG.2.2.2.1) (by omega) (sl_all l_cr2) ⟨Below.refl _ _, rfl⟩
     refine StepL.other (k := 11) rfl (fun b f W hb hG hH => ?_) ?_
     ·
      obtain rfl := hb rfl
      obtain ⟨d9, d10, d8, -⟩ := hH
      generalize hA : putL _ _ _ _ = A
      have q50 := putLl hA 50 d9 rfl rfl
      have r50 := slot_get q50
      have q51 := putLl hA 51 d10 rfl rfl
      have r51 := slot_get q51
      clear hA
      refine Does.call rfl _ _ (by go_simp) ((H14 W).mono ?_)
      rintro e w' ⟨rfl, hb'⟩
      exact ⟨_, rfl, hb', rfl⟩
     refine StepL.other (k := 12) rfl (fun b f W hb hG hH => ?_) ?_
     ·
      obtain rfl := hb rfl
      obtain ⟨d2, d5, d8, d11, -, -⟩ := hH
      generalize hA : putL _ _ _ _ = A
      have q43 := putLl hA 43 d2 rfl rfl
      have r43 := slot_get q43
      have q46 := putLl hA 46 d5 rfl rfl
      have r46 := slot_get q46
      have q49 := putLl hA 49 d8 rfl rfl
      have r49 := slot_get q49
      have q52 := putLl hA 52 d11 rfl rfl
      have r52 := slot_get q52
      clear hA
      refine Does.call rfl _ _ (by go_simp) ((H15 W).mono ?_)
      rintro e w' ⟨rfl, hb'⟩
      exact ⟨_, rfl, hb', rfl⟩
     refine StepL.self (k := 13) rfl (fun f W hG hH => ?_) ?_
     ·
      obtain ⟨d12, -, d0, d1, d2, d3, d4, d5, d6, d7, d8, d9, d10, d11, -, -⟩ := hH
      generalize hA : putL _ _ _ _ = A
      have q4 : A.eval (.tmp 4) = .pointer (some ⟨w2.heap.size, 0, none⟩) := putLn hA 4 rfl rfl rfl
      have r4 := slot_get q4
      have q53 := putLl hA 53 d12 rfl rfl
      have r53 := slot_get q53
      clear hA
      have hZ : Arr .u64 W (w2.heap.size) (List.replicate 20 0) := hG.2.2.1
      refine Does.storeI rfl 46 _ _ rfl 20 info_point (w2.heap.size) q4 .u64 _ (cr15) q53 hZ (rfl) (l_cr15) ?_
      intro A9
      exact ⟨⟨_, rfl⟩, ⟨hG.1.rowOther (by omega) _, hG.2.1.rowOther (by omega) _, A9, hG.2.2.2.1.rowOther (by omega) _, hG.2.2.2.2.1.rowOther (by omega) _, hG.2.2.2.2.2.1.rowOther (by omega) _, hG.2.2.2.2.2.2.1.rowOther (by omega) _, Below.setRow hG.2.2.2.2.2.2.2 (by omega) _⟩, rfl⟩
     exact trivial
    ·
     intro f V14 hG hH
     obtain ⟨d0, d1, d2, d3, d4, d5, d6, d7, d8, d9, d10, d11, d12, d13, -⟩ : (f 0 = aggI .u64 cr5) ∧ (f 1 = aggI .u64 cr2) ∧ (f 2 = aggI .u64 cr11) ∧ (f 3 = aggI .u64 cr10) ∧ (f 4 = aggI .u64 cr8) ∧ (f 5 = aggI .u64 cr12) ∧ (f 6 = aggI .u64 cr10) ∧ (f 7 = aggI .u64 cr8) ∧ (f 8 = aggI .u64 cr13) ∧ (f 9 = aggI .u64 cr5) ∧ (f 10 = aggI .u64 cr2) ∧ (f 11 = aggI .u64 cr14) ∧ (f 12 = aggI .u64 cr15) ∧ (f 13 = undef) ∧ True := hH
     rw [show List.range (List.length [[], [], [0, 1], [], [], [3, 4, 2], [], [], [6, 7, 5], [], [], [9, 10, 8], [2, 5, 8, 11, 11], [12, 12, 0, 1, 2, 3, 4, 5, 6, 7, 8, 9, 10, 11, 12]]) = [0, 1, 2, 3, 4, 5, 6, 7, 8, 9, 10, 11, 12, 13] from rfl]
     simp only [putL, List.getElem?_cons_zero, List.getElem?_cons_succ, Option.join, Option.bind_some, id_eq, Act.put, List.setIfInBounds_toArray, List.set_cons_zero, List.set_cons_succ, d0, d1, d2, d3, d4, d5, d6, d7, d8, d9, d10, d11, d12]
     clear d0 d1 d2 d3 d4 d5 d6 d7 d8 d9 d10 d11 d12 d13
     clear A2 A3 A4 A5 A6 A7 A8
     obtain ⟨A2, A3, A4, A5, A6, A7, A8, BV⟩ := hG
     have A4 : Arr .u64 V14 (w2.heap.size) cr15 := A4
     clear BB
     have BB := BV
     clear BV
     have zz14 := BB.size
     go_wp2
     refine bodyPost_ret (results_cellM rfl _ 20 _ Tryd.underlying46 rfl info_point (w2.heap.size) rfl .u64 _ A4 (l_cr15)) rfl ?_
     exact ⟨rfl, BB⟩

set_option maxHeartbeats 4000000 in
theorem doubled_walk (ps ps_0_5 cr0 ps_5_5 cr1 ps_10_5 cr2 cr3 ps_0_10 cr4 cr5 cr6 cr7 cr8 cr9 cr10 cr11 cr12 : List Int) (w : World) (l_ps : ps.length = 20) (l_ps_0_5 : ps_0_5.length = 5) (l_cr0 : cr0.length = 5) (l_ps_5_5 : ps_5_5.length = 5) (l_cr1 : cr1.length = 5) (l_ps_10_5 : ps_10_5.length = 5) (l_cr2 : cr2.length = 5) (l_cr3 : cr3.length = 5) (l_ps_0_10 : ps_0_10.length = 10) (l_cr4 : cr4.length = 5) (l_cr5 : cr5.length = 5) (l_cr6 : cr6.length = 5) (l_cr7 : cr7.length = 5) (l_cr8 : cr8.length = 5) (l_cr9 : cr9.length = 5) (l_cr10 : cr10.length = 5) (l_cr11 : cr11.length = 5) (l_cr12 : cr12.length = 20)
  (h_ps_0_5 : sl ps 0 5 = ps_0_5)
  (h_ps_5_5 : sl ps 5 5 = ps_5_5)
  (h_ps_10_5 : sl ps 10 5 = ps_10_5)
  (h_ps_0_10 : sl ps 0 10 = ps_0_10)
  (H0 : ∀ W, Ret 49 #[aggI .u64 ps_0_5, aggI .u64 ps_0_5] (aggI .u64 cr0) W)
  (H1 : ∀ W, Ret 49 #[aggI .u64 ps_5_5, aggI .u64 ps_5_5] (aggI .u64 cr1) W)
  (H2 : ∀ W, Ret 49 #[aggI .u64 ps_10_5, aggI .u64 ps_10_5] (aggI .u64 cr2) W)
  (H3 : ∀ W, Ret 51 #[aggI .u64 cr2, aggI .u64 cr2] (aggI .u64 cr3) W)
  (H4 : ∀ W, Ret 50 #[aggI .u64 ps_0_10] (aggI .u64 cr4) W)
  (H5 : ∀ W, Ret 49 #[aggI .u64 cr4, aggI .u64 cr4] (aggI .u64 cr5) W)
  (H6 : ∀ W, Ret 53 #[aggI .u64 cr5, aggI .u64 cr0] (aggI .u64 cr6) W)
  (H7 : ∀ W, Ret 53 #[aggI .u64 cr6, aggI .u64 cr1] (aggI .u64 cr7) W)
  (H8 : ∀ W, Ret 53 #[aggI .u64 cr1, aggI .u64 cr0] (aggI .u64 cr8) W)
  (H9 : ∀ W, Ret 53 #[aggI .u64 cr8, aggI .u64 cr3] (aggI .u64 cr9) W)
  (H10 : ∀ W, Ret 51 #[aggI .u64 cr0, aggI .u64 cr1] (aggI .u64 cr10) W)
  (H11 : ∀ W, Ret 62 #[aggI .u64 cr10] (aggI .u64 cr11) W)
  (H12 : ∀ W, Ret 52 #[aggI .u64 cr7, aggI .u64 cr9, aggI .u64 cr8, aggI .u64 cr11] (aggI .u64 cr12) W) :
  Calls Tryd.prog 73 #[aggI .u64 ps] w fun e w' => e = .returned (aggI .u64 cr12) ∧ Below w.heap.size w w' := by
 go_enter Tryd.func73, Tryd.ntmps73
 go_wp2_with (first
   | (with_reducible refine at_n 1 ?_; refine wpList_boxI rfl 46 _ rfl .u64 ps rfl ?_; intro w1 A1 s1 b1; have BB := b1; have y1 := BB.size)
   | (with_reducible refine at_n 2 ?_; refine wpList_allocI rfl 46 rfl .u64 20 zero_point ?_; intro w2 A2 s2 b2; have q2_1 := A1.lt; replace A1 := A1.below b2; replace BB := below_then BB b2; have y2 := BB.size))
 have k3_0 := A1.lt
 have k3_1 := A2.lt
 refine wp_region_new [[], [0], [1], [], [3], [4], [2, 5], [], [7], [8], [], [10], [11], [9, 12, 6], [], [14], [], [16], [15, 17, 13], [], [], [], [19, 6, 18, 0, 1, 2, 3, 4, 5, 6, 19, 20, 21], [20, 13, 22, 0, 1, 2, 3, 4, 5, 6, 7, 8, 9, 10, 11, 12, 13, 19, 20, 21, 22], [21, 18, 23, 0, 1, 2, 3, 4, 5, 6, 7, 8, 9, 10, 11, 12, 13, 14, 15, 16, 17, 18, 19, 20, 21, 22, 23]] [some 9, some 10, some 11, some 12, some 13, some 14, some 15, some 16, some 17, some 18, some 19, some 20, some 21, some 22, some 23, some 24, some 25, some 26, some 27, some 3, some 4, some 5, none, none, none] (w2.heap.size) [⟨19, 22, .u64, 5, cr0⟩, ⟨20, 23, .u64, 5, cr1⟩, ⟨21, 24, .u64, 5, cr2⟩] (fun w' => Arr .u64 w' (w.heap.size) ps ∧ Arr .u64 w' (w1.heap.size) (List.replicate 20 0) ∧ Below w2.heap.size w2 w') (fun opn f _ => match opn with | 0 => f 0 = .pointer (some ⟨w.heap.size, 0, none⟩) | 1 => f 1 = .pointer (some ⟨w.heap.size, 0, none⟩) | 2 => f 2 = aggI .u64 ps_0_5 | 3 => f 3 = .pointer (some ⟨w.heap.size, 0, none⟩) | 4 => f 4 = .pointer (some ⟨w.heap.size, 0, none⟩) | 5 => f 5 = aggI .u64 ps_0_5 | 6 => f 6 = aggI .u64 cr0 | 7 => f 7 = .pointer (some ⟨w.heap.size, 0, none⟩) | 8 => f 8 = .pointer (some ⟨w.heap.size, 5, none⟩) | 9 => f 9 = aggI .u64 ps_5_5 | 10 => f 10 = .pointer (some ⟨w.heap.size, 0, none⟩) | 11 => f 11 = .pointer (some ⟨w.heap.size, 5, none⟩) | 12 => f 12 = aggI .u64 ps_5_5 | 13 => f 13 = aggI .u64 cr1 | 14 => f 14 = .pointer (some ⟨w.heap.size, 10, none⟩) | 15 => f 15 = aggI .u64 ps_10_5 | 16 => f 16 = .pointer (some ⟨w.heap.size, 10, none⟩) | 17 => f 17 = aggI .u64 ps_10_5 | 18 => f 18 = aggI .u64 cr2 | _ => True) (by kernel_rfl) (by kernel_rfl) (by kernel_rfl) (by kernel_rfl) rfl (by intro it h it' h' e; simp only [List.mem_cons, List.not_mem_nil, or_false] at h h'; rcases h with rfl | rfl | rfl <;> rcases h' with rfl | rfl | rfl <;> first | rfl | (simp at e)) (fun v v' hb h => ⟨h.1.below hb, h.2.1.below hb, below_then h.2.2 hb⟩) (fun v h => h.2.2.size) (fun v B cs hB h => ⟨h.1.rowOther (by omega) _, h.2.1.rowOther (by omega) _, Below.setRow h.2.2 (by omega) _⟩) (fun _ _ _ _ h => h) ⟨A1.drew, A2.drew, (Below.refl _ _).drew⟩ ?_ (by intro it h; simp only [List.mem_cons, List.not_mem_nil, or_false] at h; rcases h with rfl | rfl | rfl <;> exact ⟨by simp, by simp⟩) ?_
 ·
  refine StepN.plain rfl (fun f W hG hH => ?_) ?_
  ·
   clear hH
   generalize hA : putL _ _ _ _ = A
   have q1 : A.eval (.tmp 1) = .pointer (some ⟨w.heap.size, 0, none⟩) := putLn hA 1 rfl rfl rfl
   clear hA
   exact Does.fieldA rfl 46 _ 0 rfl (off := 0) (by kernel_rfl) (w.heap.size) 0 q1 (o1 := 0) rfl ⟨Below.refl _ _, rfl⟩
  refine StepN.plain rfl (fun f W hG hH => ?_) ?_
  ·
   obtain ⟨d0, -⟩ := hH
   generalize hA : putL _ _ _ _ = A
   have q9 := putLl hA 9 d0 rfl rfl
   clear hA
   exact Does.fieldA rfl 44 _ 0 rfl (off := 0) (by kernel_rfl) (w.heap.size) 0 q9 (o1 := 0) rfl ⟨Below.refl _ _, rfl⟩
  refine StepN.plain rfl (fun f W hG hH => ?_) ?_
  ·
   obtain ⟨d1, -⟩ := hH
   generalize hA : putL _ _ _ _ = A
   have q10 := putLl hA 10 d1 rfl rfl
   clear hA
   exact Does.loadM rfl 42 _ rfl 5 _ und_limbs rfl info_limbs (w.heap.size) 0 q10 .u64 (ps) (hG.1) (by omega) (h_ps_0_5) ⟨Below.refl _ _, rfl⟩
  refine StepN.plain rfl (fun f W hG hH => ?_) ?_
  ·
   clear hH
   generalize hA : putL _ _ _ _ = A
   have q1 : A.eval (.tmp 1) = .pointer (some ⟨w.heap.size, 0, none⟩) := putLn hA 1 rfl rfl rfl
   clear hA
   exact Does.fieldA rfl 46 _ 0 rfl (off := 0) (by kernel_rfl) (w.heap.size) 0 q1 (o1 := 0) rfl ⟨Below.refl _ _, rfl⟩
  refine StepN.plain rfl (fun f W hG hH => ?_) ?_
  ·
   obtain ⟨d3, -⟩ := hH
   generalize hA : putL _ _ _ _ = A
   have q12 := putLl hA 12 d3 rfl rfl
   clear hA
   exact Does.fieldA rfl 44 _ 0 rfl (off := 0) (by kernel_rfl) (w.heap.size) 0 q12 (o1 := 0) rfl ⟨Below.refl _ _, rfl⟩
  refine StepN.plain rfl (fun f W hG hH => ?_) ?_
  ·
   obtain ⟨d4, -⟩ := hH
   generalize hA : putL _ _ _ _ = A
   have q13 := putLl hA 13 d4 rfl rfl
   clear hA
   exact Does.loadM rfl 42 _ rfl 5 _ und_limbs rfl info_limbs (w.heap.size) 0 q13 .u64 (ps) (hG.1) (by omega) (h_ps_0_5) ⟨Below.refl _ _, rfl⟩
  refine StepN.plain rfl (fun f W hG hH => ?_) ?_
  ·
   obtain ⟨d2, d5, -⟩ := hH
   generalize hA : putL _ _ _ _ = A
   have q11 := putLl hA 11 d2 rfl rfl
   have r11 := slot_get q11
   have q14 := putLl hA 14 d5 rfl rfl
   have r14 := slot_get q14
   clear hA
   refine Does.call rfl _ _ (by go_simp) ((H0 W).mono ?_)
   rintro e w' ⟨rfl, hb'⟩
   exact ⟨_, rfl, hb', rfl⟩
  refine StepN.plain rfl (fun f W hG hH => ?_) ?_
  ·
   clear hH
   generalize hA : putL _ _ _ _ = A
   have q1 : A.eval (.tmp 1) = .pointer (some ⟨w.heap.size, 0, none⟩) := putLn hA 1 rfl rfl rfl
   clear hA
   exact Does.fieldA rfl 46 _ 0 rfl (off := 0) (by kernel_rfl) (w.heap.size) 0 q1 (o1 := 0) rfl ⟨Below.refl _ _, rfl⟩
  refine StepN.plain rfl (fun f W hG hH => ?_) ?_
  ·
   obtain ⟨d7, -⟩ := hH
   generalize hA : putL _ _ _ _ = A
   have q16 := putLl hA 16 d7 rfl rfl
   clear hA
   exact Does.fieldA rfl 44 _ 1 rfl (off := 5) (by kernel_rfl) (w.heap.size) 0 q16 (o1 := 5) rfl ⟨Below.refl _ _, rfl⟩
  refine StepN.plain rfl (fun f W hG hH => ?_) ?_
  ·
   obtain ⟨d8, -⟩ := hH
   generalize hA : putL _ _ _ _ = A
   have q17 := putLl hA 17 d8 rfl rfl
   clear hA
   exact Does.loadM rfl 42 _ rfl 5 _ und_limbs rfl info_limbs (w.heap.size) 5 q17 .u64 (ps) (hG.1) (by omega) (h_ps_5_5) ⟨Below.refl _ _, rfl⟩
  refine StepN.plain rfl (fun f W hG hH => ?_) ?_
  ·
   clear hH
   generalize hA : putL _ _ _ _ = A
   have q1 : A.eval (.tmp 1) = .pointer (some ⟨w.heap.size, 0, none⟩) := putLn hA 1 rfl rfl rfl
   clear hA
   exact Does.fieldA rfl 46 _ 0 rfl (off := 0) (by kernel_rfl) (w.heap.size) 0 q1 (o1 := 0) rfl ⟨Below.refl _ _, rfl⟩
  refine StepN.plain rfl (fun f W hG hH => ?_) ?_
  ·
   obtain ⟨d10, -⟩ := hH
   generalize hA : putL _ _ _ _ = A
   have q19 := putLl hA 19 d10 rfl rfl
   clear hA
   exact Does.fieldA rfl 44 _ 1 rfl (off := 5) (by kernel_rfl) (w.heap.size) 0 q19 (o1 := 5) rfl ⟨Below.refl _ _, rfl⟩
  refine StepN.plain rfl (fun f W hG hH => ?_) ?_
  ·
   obtain ⟨d11, -⟩ := hH
   generalize hA : putL _ _ _ _ = A
   have q20 := putLl hA 20 d11 rfl rfl
   clear hA
   exact Does.loadM rfl 42 _ rfl 5 _ und_limbs rfl info_limbs (w.heap.size) 5 q20 .u64 (ps) (hG.1) (by omega) (h_ps_5_5) ⟨Below.refl _ _, rfl⟩
  refine StepN.plain rfl (fun f W hG hH => ?_) ?_
  ·
   obtain ⟨d9, d12, d6, -⟩ := hH
   generalize hA : putL _ _ _ _ = A
   have q18 := putLl hA 18 d9 rfl rfl
   have r18 := slot_get q18
   have q21 := putLl hA 21 d12 rfl rfl
   have r21 := slot_get q21
   clear hA
   refine Does.call rfl _ _ (by go_simp) ((H1 W).mono ?_)
   rintro e w' ⟨rfl, hb'⟩
   exact ⟨_, rfl, hb', rfl⟩
  refine StepN.plain rfl (fun f W hG hH => ?_) ?_
  ·
   clear hH
   generalize hA : putL _ _ _ _ = A
   have q1 : A.eval (.tmp 1) = .pointer (some ⟨w.heap.size, 0, none⟩) := putLn hA 1 rfl rfl rfl
   clear hA
   exact Does.fieldA rfl 46 _ 1 rfl (off := 10) (by kernel_rfl) (w.heap.size) 0 q1 (o1 := 10) rfl ⟨Below.refl _ _, rfl⟩
  refine StepN.plain rfl (fun f W hG hH => ?_) ?_
  ·
   obtain ⟨d14, -⟩ := hH
   generalize hA : putL _ _ _ _ = A
   have q23 := putLl hA 23 d14 rfl rfl
   clear hA
   exact Does.loadM rfl 42 _ rfl 5 _ und_limbs rfl info_limbs (w.heap.size) 10 q23 .u64 (ps) (hG.1) (by omega) (h_ps_10_5) ⟨Below.refl _ _, rfl⟩
  refine StepN.plain rfl (fun f W hG hH => ?_) ?_
  ·
   clear hH
   generalize hA : putL _ _ _ _ = A
   have q1 : A.eval (.tmp 1) = .pointer (some ⟨w.heap.size, 0, none⟩) := putLn hA 1 rfl rfl rfl
   clear hA
   exact Does.fieldA rfl 46 _ 1 rfl (off := 10) (by kernel_rfl) (w.heap.size) 0 q1 (o1 := 10) rfl ⟨Below.refl _ _, rfl⟩
  refine StepN.plain rfl (fun f W hG hH => ?_) ?_
  ·
   obtain ⟨d16, -⟩ := hH
   generalize hA : putL _ _ _ _ = A
   have q25 := putLl hA 25 d16 rfl rfl
   clear hA
   exact Does.loadM rfl 42 _ rfl 5 _ und_limbs rfl info_limbs (w.heap.size) 10 q25 .u64 (ps) (hG.1) (by omega) (h_ps_10_5) ⟨Below.refl _ _, rfl⟩
  refine StepN.plain rfl (fun f W hG hH => ?_) ?_
  ·
   obtain ⟨d15, d17, d13, -⟩ := hH
   generalize hA : putL _ _ _ _ = A
   have q24 := putLl hA 24 d15 rfl rfl
   have r24 := slot_get q24
   have q26 := putLl hA 26 d17 rfl rfl
   have r26 := slot_get q26
   clear hA
   refine Does.call rfl _ _ (by go_simp) ((H2 W).mono ?_)
   rintro e w' ⟨rfl, hb'⟩
   exact ⟨_, rfl, hb', rfl⟩
  refine StepN.alloc rfl (fun _ _ => trivial) (fun A W => ?_) ?_
  ·
   refine Does.allocI rfl 42 rfl .u64 5 zero_limbs ?_
   intro W1 D1 s1 b1'
   exact ⟨b1', rfl, D1⟩
  refine StepN.alloc rfl (fun _ _ => trivial) (fun A W => ?_) ?_
  ·
   refine Does.allocI rfl 42 rfl .u64 5 zero_limbs ?_
   intro W1 D1 s1 b1'
   exact ⟨b1', rfl, D1⟩
  refine StepN.alloc rfl (fun _ _ => trivial) (fun A W => ?_) ?_
  ·
   refine Does.allocI rfl 42 rfl .u64 5 zero_limbs ?_
   intro W1 D1 s1 b1'
   exact ⟨b1', rfl, D1⟩
  refine StepN.store rfl (fun _ _ => trivial) (fun f W B hG hH hB hZ => ?_) ?_
  ·
   obtain ⟨-, d6, d18, d0, d1, d2, d3, d4, d5, -, -, -, -, -⟩ := hH
   generalize hA : putL _ _ _ _ = A
   have q3 : A.eval (.tmp 3) = f 19 := putLl hA 3 rfl rfl rfl
   have r3 := slot_get q3
   have q15 := putLl hA 15 d6 rfl rfl
   have r15 := slot_get q15
   clear hA
   have hB : f 19 = .pointer (some ⟨B, 0, none⟩) := hB
   rw [hB] at q3
   refine Does.storeI rfl 42 _ _ rfl 5 info_limbs B q3 .u64 _ (cr0) q15 hZ (by rfl) (l_cr0) ?_
   intro A9
   exact ⟨rfl, A9⟩
  refine StepN.store rfl (fun _ _ => trivial) (fun f W B hG hH hB hZ => ?_) ?_
  ·
   obtain ⟨-, d13, -, d0, d1, d2, d3, d4, d5, d6, d7, d8, d9, d10, d11, d12, -, -, -, -, -, -⟩ := hH
   generalize hA : putL _ _ _ _ = A
   have q4 : A.eval (.tmp 4) = f 20 := putLl hA 4 rfl rfl rfl
   have r4 := slot_get q4
   have q22 := putLl hA 22 d13 rfl rfl
   have r22 := slot_get q22
   clear hA
   have hB : f 20 = .pointer (some ⟨B, 0, none⟩) := hB
   rw [hB] at q4
   refine Does.storeI rfl 42 _ _ rfl 5 info_limbs B q4 .u64 _ (cr1) q22 hZ (by rfl) (l_cr1) ?_
   intro A9
   exact ⟨rfl, A9⟩
  refine StepN.store rfl (fun _ _ => trivial) (fun f W B hG hH hB hZ => ?_) ?_
  ·
   obtain ⟨-, d18, -, d0, d1, d2, d3, d4, d5, d6, d7, d8, d9, d10, d11, d12, d13, d14, d15, d16, d17, -, -, -, -, -, -, -⟩ := hH
   generalize hA : putL _ _ _ _ = A
   have q5 : A.eval (.tmp 5) = f 21 := putLl hA 5 rfl rfl rfl
   have r5 := slot_get q5
   have q27 := putLl hA 27 d18 rfl rfl
   have r27 := slot_get q27
   clear hA
   have hB : f 21 = .pointer (some ⟨B, 0, none⟩) := hB
   rw [hB] at q5
   refine Does.storeI rfl 42 _ _ rfl 5 info_limbs B q5 .u64 _ (cr2) q27 hZ (by rfl) (l_cr2) ?_
   intro A9
   exact ⟨rfl, A9⟩
  exact trivial
 ·
  intro f V3 hG hH hN
  obtain ⟨d0, d1, d2, d3, d4, d5, d6, d7, d8, d9, d10, d11, d12, d13, d14, d15, d16, d17, d18, -, -, -, -, -, -, -⟩ : (f 0 = .pointer (some ⟨w.heap.size, 0, none⟩)) ∧ (f 1 = .pointer (some ⟨w.heap.size, 0, none⟩)) ∧ (f 2 = aggI .u64 ps_0_5) ∧ (f 3 = .pointer (some ⟨w.heap.size, 0, none⟩)) ∧ (f 4 = .pointer (some ⟨w.heap.size, 0, none⟩)) ∧ (f 5 = aggI .u64 ps_0_5) ∧ (f 6 = aggI .u64 cr0) ∧ (f 7 = .pointer (some ⟨w.heap.size, 0, none⟩)) ∧ (f 8 = .pointer (some ⟨w.heap.size, 5, none⟩)) ∧ (f 9 = aggI .u64 ps_5_5) ∧ (f 10 = .pointer (some ⟨w.heap.size, 0, none⟩)) ∧ (f 11 = .pointer (some ⟨w.heap.size, 5, none⟩)) ∧ (f 12 = aggI .u64 ps_5_5) ∧ (f 13 = aggI .u64 cr1) ∧ (f 14 = .pointer (some ⟨w.heap.size, 10, none⟩)) ∧ (f 15 = aggI .u64 ps_10_5) ∧ (f 16 = .pointer (some ⟨w.heap.size, 10, none⟩)) ∧ (f 17 = aggI .u64 ps_10_5) ∧ (f 18 = aggI .u64 cr2) ∧ (True) ∧ (True) ∧ (True) ∧ (True) ∧ (True) ∧ (True) ∧ True := hH
  rw [show List.range (List.length [[], [0], [1], [], [3], [4], [2, 5], [], [7], [8], [], [10], [11], [9, 12, 6], [], [14], [], [16], [15, 17, 13], [], [], [], [19, 6, 18, 0, 1, 2, 3, 4, 5, 6, 19, 20, 21], [20, 13, 22, 0, 1, 2, 3, 4, 5, 6, 7, 8, 9, 10, 11, 12, 13, 19, 20, 21, 22], [21, 18, 23, 0, 1, 2, 3, 4, 5, 6, 7, 8, 9, 10, 11, 12, 13, 14, 15, 16, 17, 18, 19, 20, 21, 22, 23]]) = [0, 1, 2, 3, 4, 5, 6, 7, 8, 9, 10, 11, 12, 13, 14, 15, 16, 17, 18, 19, 20, 21, 22, 23, 24] from rfl]
  obtain ⟨loc, hn1, hn2⟩ := hN
  obtain ⟨hN0, kN0, A3⟩ : f 19 = .pointer (some ⟨loc 19, 0, none⟩) ∧ w2.heap.size ≤ loc 19 ∧ Arr .u64 V3 (loc 19) cr0 := hn1 ⟨19, 22, .u64, 5, cr0⟩ (by simp) rfl
  obtain ⟨hN1, kN1, A4⟩ : f 20 = .pointer (some ⟨loc 20, 0, none⟩) ∧ w2.heap.size ≤ loc 20 ∧ Arr .u64 V3 (loc 20) cr1 := hn1 ⟨20, 23, .u64, 5, cr1⟩ (by simp) rfl
  obtain ⟨hN2, kN2, A5⟩ : f 21 = .pointer (some ⟨loc 21, 0, none⟩) ∧ w2.heap.size ≤ loc 21 ∧ Arr .u64 V3 (loc 21) cr2 := hn1 ⟨21, 24, .u64, 5, cr2⟩ (by simp) rfl
  have ne3_1_0 : loc 20 ≠ loc 19 := hn2 ⟨20, 23, .u64, 5, cr1⟩ (by simp) ⟨19, 22, .u64, 5, cr0⟩ (by simp) rfl rfl (by simp)
  have ne3_2_0 : loc 21 ≠ loc 19 := hn2 ⟨21, 24, .u64, 5, cr2⟩ (by simp) ⟨19, 22, .u64, 5, cr0⟩ (by simp) rfl rfl (by simp)
  have ne3_2_1 : loc 21 ≠ loc 20 := hn2 ⟨21, 24, .u64, 5, cr2⟩ (by simp) ⟨20, 23, .u64, 5, cr1⟩ (by simp) rfl rfl (by simp)
  clear hn1 hn2
  generalize loc 19 = N3_0 at *
  generalize loc 20 = N3_1 at *
  generalize loc 21 = N3_2 at *
  simp only [putL, List.getElem?_cons_zero, List.getElem?_cons_succ, Option.join, Option.bind_some, id_eq, Act.put, List.setIfInBounds_toArray, List.set_cons_zero, List.set_cons_succ, d0, d1, d2, d3, d4, d5, d6, d7, d8, d9, d10, d11, d12, d13, d14, d15, d16, d17, d18, hN0, hN1, hN2]
  clear d0 d1 d2 d3 d4 d5 d6 d7 d8 d9 d10 d11 d12 d13 d14 d15 d16 d17 d18 hN0 hN1 hN2
  clear A1 A2
  obtain ⟨A1, A2, BV⟩ := hG
  replace BB := below_then BB BV
  clear BV
  have zz3 := BB.size
  go_wp2_with (first
    | (with_reducible refine at_n 28 ?_; refine wpList_val' (fun R hR => Does.loadM rfl 42 _ rfl 5 _ und_limbs rfl info_limbs (N3_2) 0 rfl .u64 (cr2) (A5) (by omega) (sl_all l_cr2) hR) ?_)
    | (with_reducible refine at_n 29 ?_; refine wpList_val' (fun R hR => Does.loadM rfl 42 _ rfl 5 _ und_limbs rfl info_limbs (N3_2) 0 rfl .u64 (cr2) (A5) (by omega) (sl_all l_cr2) hR) ?_)
    | (with_reducible refine at_op (o := ⟨_, .store 42 (.tmp 5) _, _, _, _, _⟩) ?_; refine wpList_storeI rfl 42 _ _ rfl 5 info_limbs (N3_2) rfl .u64 _ (cr3) rfl (A5) (l_cr2) (l_cr3) ?_; intro D5; replace A1 := A1.rowOther (B' := N3_2) (by omega) ((cr3).map (Value.int .u64)).toArray; replace A2 := A2.rowOther (B' := N3_2) (by omega) ((cr3).map (Value.int .u64)).toArray; replace A3 := A3.rowOther (B' := N3_2) (by omega) ((cr3).map (Value.int .u64)).toArray; replace A4 := A4.rowOther (B' := N3_2) (by omega) ((cr3).map (Value.int .u64)).toArray; replace BB := Below.setRow BB (g := N3_2) (by omega) ((cr3).map (Value.int .u64)).toArray; clear A5; have A5 := D5)
    | (with_reducible refine at_n 31 ?_; refine wpList_val' (fun R hR => Does.fieldA rfl 46 _ 0 rfl (off := 0) (by kernel_rfl) (w.heap.size) 0 rfl (o1 := 0) rfl hR) ?_)
    | (with_reducible refine at_n 32 ?_; refine wpList_val' (fun R hR => Does.loadM rfl 44 _ rfl 10 _ Tryd.underlying44 rfl info_plane (w.heap.size) 0 rfl .u64 (ps) (A1) (by omega) (h_ps_0_10) hR) ?_)
    | (with_reducible refine at_n 6 ?_; refine wpList_allocI rfl 42 rfl .u64 5 zero_limbs ?_; intro w7 A6 s7 b7; have q7_1 := A1.lt; have q7_2 := A2.lt; have q7_3 := A3.lt; have q7_4 := A4.lt; have q7_5 := A5.lt; replace A1 := A1.below b7; replace A2 := A2.below b7; replace A3 := A3.below b7; replace A4 := A4.below b7; replace A5 := A5.below b7; replace BB := below_then BB b7; have y7 := BB.size)
    | (with_reducible refine at_op (o := ⟨_, .store 42 (.tmp 6) _, _, _, _, _⟩) ?_; refine wpList_storeI rfl 42 _ _ rfl 5 info_limbs (w6.heap.size) rfl .u64 _ (cr4) rfl (A6) (rfl) (l_cr4) ?_; intro D8; replace A1 := A1.rowOther (B' := w6.heap.size) (by omega) ((cr4).map (Value.int .u64)).toArray; replace A2 := A2.rowOther (B' := w6.heap.size) (by omega) ((cr4).map (Value.int .u64)).toArray; replace A3 := A3.rowOther (B' := w6.heap.size) (by omega) ((cr4).map (Value.int .u64)).toArray; replace A4 := A4.rowOther (B' := w6.heap.size) (by omega) ((cr4).map (Value.int .u64)).toArray; replace A5 := A5.rowOther (B' := w6.heap.size) (by omega) ((cr4).map (Value.int .u64)).toArray; replace BB := Below.setRow BB (g := w6.heap.size) (by omega) ((cr4).map (Value.int .u64)).toArray; clear A6; have A6 := D8)
    | (go_at_call 51; first | ((with_reducible refine (H3 _).mono ?_); rintro e w4 ⟨rfl, b4⟩; replace A1 := A1.below b4; replace A2 := A2.below b4; replace A3 := A3.below b4; replace A4 := A4.below b4; replace A5 := A5.below b4; replace BB := below_then BB b4; have z4 := BB.size))
    | (go_at_call 50; first | ((with_reducible refine (H4 _).mono ?_); rintro e w6 ⟨rfl, b6⟩; replace A1 := A1.below b6; replace A2 := A2.below b6; replace A3 := A3.below b6; replace A4 := A4.below b6; replace A5 := A5.below b6; replace BB := below_then BB b6; have z6 := BB.size)))
  refine wp_world fun Wc9 hWc => ?_
  rw [← hWc] at BB A1 A2 A3 A4 A5 A6
  clear hWc
  have k9_0 := A1.lt
  have k9_1 := A2.lt
  have k9_2 := A3.lt
  have k9_3 := A4.lt
  have k9_4 := A5.lt
  have k9_5 := A6.lt
  refine wp_region_new [[], [], [0, 1], [], [2, 3, 2], [], [4, 5, 4], [], [7, 6, 6, 0, 1, 2, 3, 4, 5, 6, 7]] [some 34, some 35, some 36, some 37, some 38, some 39, some 40, some 7, none] (Wc9.heap.size) [⟨7, 8, .u64, 5, cr7⟩] (fun w' => Arr .u64 w' (w.heap.size) ps ∧ Arr .u64 w' (w1.heap.size) (List.replicate 20 0) ∧ Arr .u64 w' (N3_0) cr0 ∧ Arr .u64 w' (N3_1) cr1 ∧ Arr .u64 w' (N3_2) cr3 ∧ Arr .u64 w' (w6.heap.size) cr4 ∧ Below Wc9.heap.size Wc9 w') (fun opn f _ => match opn with | 0 => f 0 = aggI .u64 cr4 | 1 => f 1 = aggI .u64 cr4 | 2 => f 2 = aggI .u64 cr5 | 3 => f 3 = aggI .u64 cr0 | 4 => f 4 = aggI .u64 cr6 | 5 => f 5 = aggI .u64 cr1 | 6 => f 6 = aggI .u64 cr7 | _ => True) (by kernel_rfl) (by kernel_rfl) (by kernel_rfl) (by kernel_rfl) rfl (by intro it h it' h' e; simp only [List.mem_cons, List.not_mem_nil, or_false] at h h'; rcases h with rfl <;> rcases h' with rfl <;> first | rfl | (simp at e)) (fun v v' hb h => ⟨h.1.below hb, h.2.1.below hb, h.2.2.1.below hb, h.2.2.2.1.below hb, h.2.2.2.2.1.below hb, h.2.2.2.2.2.1.below hb, below_then h.2.2.2.2.2.2 hb⟩) (fun v h => h.2.2.2.2.2.2.size) (fun v B cs hB h => ⟨h.1.rowOther (by omega) _, h.2.1.rowOther (by omega) _, h.2.2.1.rowOther (by omega) _, h.2.2.2.1.rowOther (by omega) _, h.2.2.2.2.1.rowOther (by omega) _, h.2.2.2.2.2.1.rowOther (by omega) _, Below.setRow h.2.2.2.2.2.2 (by omega) _⟩) (fun _ _ _ _ h => h) ⟨A1.drew, A2.drew, A3.drew, A4.drew, A5.drew, A6.drew, (Below.refl _ _).drew⟩ ?_ (by intro it h; simp only [List.mem_cons, List.not_mem_nil, or_false] at h; rcases h with rfl <;> exact ⟨by simp, by simp⟩) ?_
  ·
   refine StepN.plain rfl (fun f W hG hH => ?_) ?_
   ·
    clear hH
    generalize hA : putL _ _ _ _ = A
    have q6 : A.eval (.tmp 6) = .pointer (some ⟨w6.heap.size, 0, none⟩) := putLn hA 6 rfl rfl rfl
    clear hA
    exact Does.loadM rfl 42 _ rfl 5 _ und_limbs rfl info_limbs (w6.heap.size) 0 q6 .u64 (cr4) (hG.2.2.2.2.2.1) (by omega) (sl_all l_cr4) ⟨Below.refl _ _, rfl⟩
   refine StepN.plain rfl (fun f W hG hH => ?_) ?_
   ·
    clear hH
    generalize hA : putL _ _ _ _ = A
    have q6 : A.eval (.tmp 6) = .pointer (some ⟨w6.heap.size, 0, none⟩) := putLn hA 6 rfl rfl rfl
    clear hA
    exact Does.loadM rfl 42 _ rfl 5 _ und_limbs rfl info_limbs (w6.heap.size) 0 q6 .u64 (cr4) (hG.2.2.2.2.2.1) (by omega) (sl_all l_cr4) ⟨Below.refl _ _, rfl⟩
   refine StepN.plain rfl (fun f W hG hH => ?_) ?_
   ·
    obtain ⟨d0, d1, -⟩ := hH
    generalize hA : putL _ _ _ _ = A
    have q34 := putLl hA 34 d0 rfl rfl
    have r34 := slot_get q34
    have q35 := putLl hA 35 d1 rfl rfl
    have r35 := slot_get q35
    clear hA
    refine Does.call rfl _ _ (by go_simp) ((H5 W).mono ?_)
    rintro e w' ⟨rfl, hb'⟩
    exact ⟨_, rfl, hb', rfl⟩
   refine StepN.plain rfl (fun f W hG hH => ?_) ?_
   ·
    clear hH
    generalize hA : putL _ _ _ _ = A
    have q3 : A.eval (.tmp 3) = .pointer (some ⟨N3_0, 0, none⟩) := putLn hA 3 rfl rfl rfl
    clear hA
    exact Does.loadM rfl 42 _ rfl 5 _ und_limbs rfl info_limbs (N3_0) 0 q3 .u64 (cr0) (hG.2.2.1) (by omega) (sl_all l_cr0) ⟨Below.refl _ _, rfl⟩
   refine StepN.plain rfl (fun f W hG hH => ?_) ?_
   ·
    obtain ⟨d2, d3, -, -⟩ := hH
    generalize hA : putL _ _ _ _ = A
    have q36 := putLl hA 36 d2 rfl rfl
    have r36 := slot_get q36
    have q37 := putLl hA 37 d3 rfl rfl
    have r37 := slot_get q37
    clear hA
    refine Does.call rfl _ _ (by go_simp) ((H6 W).mono ?_)
    rintro e w' ⟨rfl, hb'⟩
    exact ⟨_, rfl, hb', rfl⟩
   refine StepN.plain rfl (fun f W hG hH => ?_) ?_
   ·
    clear hH
    generalize hA : putL _ _ _ _ = A
    have q4 : A.eval (.tmp 4) = .pointer (some ⟨N3_1, 0, none⟩) := putLn hA 4 rfl rfl rfl
    clear hA
    exact Does.loadM rfl 42 _ rfl 5 _ und_limbs rfl info_limbs (N3_1) 0 q4 .u64 (cr1) (hG.2.2.2.1) (by omega) (sl_all l_cr1) ⟨Below.refl _ _, rfl⟩
   refine StepN.plain rfl (fun f W hG hH => ?_) ?_
   ·
    obtain ⟨d4, d5, -, -⟩ := hH
    generalize hA : putL _ _ _ _ = A
    have q38 := putLl hA 38 d4 rfl rfl
    have r38 := slot_get q38
    have q39 := putLl hA 39 d5 rfl rfl
    have r39 := slot_get q39
    clear hA
    refine Does.call rfl _ _ (by go_simp) ((H7 W).mono ?_)
    rintro e w' ⟨rfl, hb'⟩
    exact ⟨_, rfl, hb', rfl⟩
   refine StepN.alloc rfl (fun _ _ => trivial) (fun A W => ?_) ?_
   ·
    refine Does.allocI rfl 42 rfl .u64 5 zero_limbs ?_
    intro W1 D1 s1 b1'
    exact ⟨b1', rfl, D1⟩
   refine StepN.store rfl (fun _ _ => trivial) (fun f W B hG hH hB hZ => ?_) ?_
   ·
    obtain ⟨-, d6, -, d0, d1, d2, d3, d4, d5, -, -, -⟩ := hH
    generalize hA : putL _ _ _ _ = A
    have q7 : A.eval (.tmp 7) = f 7 := putLl hA 7 rfl rfl rfl
    have r7 := slot_get q7
    have q40 := putLl hA 40 d6 rfl rfl
    have r40 := slot_get q40
    clear hA
    have hB : f 7 = .pointer (some ⟨B, 0, none⟩) := hB
    rw [hB] at q7
    refine Does.storeI rfl 42 _ _ rfl 5 info_limbs B q7 .u64 _ (cr7) q40 hZ (by rfl) (l_cr7) ?_
    intro A9
    exact ⟨rfl, A9⟩
   exact trivial
  ·
   intro f V9 hG hH hN
   obtain ⟨d0, d1, d2, d3, d4, d5, d6, -, -, -⟩ : (f 0 = aggI .u64 cr4) ∧ (f 1 = aggI .u64 cr4) ∧ (f 2 = aggI .u64 cr5) ∧ (f 3 = aggI .u64 cr0) ∧ (f 4 = aggI .u64 cr6) ∧ (f 5 = aggI .u64 cr1) ∧ (f 6 = aggI .u64 cr7) ∧ (True) ∧ (True) ∧ True := hH
   rw [show List.range (List.length [[], [], [0, 1], [], [2, 3, 2], [], [4, 5, 4], [], [7, 6, 6, 0, 1, 2, 3, 4, 5, 6, 7]]) = [0, 1, 2, 3, 4, 5, 6, 7, 8] from rfl]
   obtain ⟨loc, hn1, hn2⟩ := hN
   obtain ⟨hN0, kN0, A7⟩ : f 7 = .pointer (some ⟨loc 7, 0, none⟩) ∧ Wc9.heap.size ≤ loc 7 ∧ Arr .u64 V9 (loc 7) cr7 := hn1 ⟨7, 8, .u64, 5, cr7⟩ (by simp) rfl
   clear hn1 hn2
   generalize loc 7 = N9_0 at *
   simp only [putL, List.getElem?_cons_zero, List.getElem?_cons_succ, Option.join, Option.bind_some, id_eq, Act.put, List.setIfInBounds_toArray, List.set_cons_zero, List.set_cons_succ, d0, d1, d2, d3, d4, d5, d6, hN0]
   clear d0 d1 d2 d3 d4 d5 d6 hN0
   clear A1 A2 A3 A4 A5 A6
   obtain ⟨A1, A2, A3, A4, A5, A6, BV⟩ := hG
   replace BB := below_then BB BV
   clear BV
   have zz9 := BB.size
   go_wp2_with (first
     | (with_reducible refine at_n 41 ?_; refine wpList_val' (fun R hR => Does.loadM rfl 42 _ rfl 5 _ und_limbs rfl info_limbs (N3_1) 0 rfl .u64 (cr1) (A4) (by omega) (sl_all l_cr1) hR) ?_)
     | (with_reducible refine at_n 42 ?_; refine wpList_val' (fun R hR => Does.loadM rfl 42 _ rfl 5 _ und_limbs rfl info_limbs (N3_0) 0 rfl .u64 (cr0) (A3) (by omega) (sl_all l_cr0) hR) ?_)
     | (with_reducible refine at_n 8 ?_; refine wpList_allocI rfl 42 rfl .u64 5 zero_limbs ?_; intro w11 A8 s11 b11; have q11_1 := A1.lt; have q11_2 := A2.lt; have q11_3 := A3.lt; have q11_4 := A4.lt; have q11_5 := A5.lt; have q11_6 := A6.lt; have q11_7 := A7.lt; replace A1 := A1.below b11; replace A2 := A2.below b11; replace A3 := A3.below b11; replace A4 := A4.below b11; replace A5 := A5.below b11; replace A6 := A6.below b11; replace A7 := A7.below b11; replace BB := below_then BB b11; have y11 := BB.size)
     | (with_reducible refine at_op (o := ⟨_, .store 42 (.tmp 8) _, _, _, _, _⟩) ?_; refine wpList_storeI rfl 42 _ _ rfl 5 info_limbs (w10.heap.size) rfl .u64 _ (cr8) rfl (A8) (rfl) (l_cr8) ?_; intro D12; replace A1 := A1.rowOther (B' := w10.heap.size) (by omega) ((cr8).map (Value.int .u64)).toArray; replace A2 := A2.rowOther (B' := w10.heap.size) (by omega) ((cr8).map (Value.int .u64)).toArray; replace A3 := A3.rowOther (B' := w10.heap.size) (by omega) ((cr8).map (Value.int .u64)).toArray; replace A4 := A4.rowOther (B' := w10.heap.size) (by omega) ((cr8).map (Value.int .u64)).toArray; replace A5 := A5.rowOther (B' := w10.heap.size) (by omega) ((cr8).map (Value.int .u64)).toArray; replace A6 := A6.rowOther (B' := w10.heap.size) (by omega) ((cr8).map (Value.int .u64)).toArray; replace A7 := A7.rowOther (B' := w10.heap.size) (by omega) ((cr8).map (Value.int .u64)).toArray; replace BB := Below.setRow BB (g := w10.heap.size) (by omega) ((cr8).map (Value.int .u64)).toArray; clear A8; have A8 := D12)
     | (go_at_call 53; first | ((with_reducible refine (H8 _).mono ?_); rintro e w10 ⟨rfl, b10⟩; replace A1 := A1.below b10; replace A2 := A2.below b10; replace A3 := A3.below b10; replace A4 := A4.below b10; replace A5 := A5.below b10; replace A6 := A6.below b10; replace A7 := A7.below b10; replace BB := below_then BB b10; have z10 := BB.size)))
   refine wp_world fun Wc13 hWc => ?_
   rw [← hWc] at BB A1 A2 A3 A4 A5 A6 A7 A8
   clear hWc
   have k13_0 := A1.lt
   have k13_1 := A2.lt
   have k13_2 := A3.lt
   have k13_3 := A4.lt
   have k13_4 := A5.lt
   have k13_5 := A6.lt
   have k13_6 := A7.lt
   have k13_7 := A8.lt
   refine wp_region_ord [[], [], [], [1, 2], [], [], [], [5, 6, 3], [7, 7], [0, 3, 4, 8, 8], [9, 9, 0, 1, 2, 3, 4, 5, 6, 7, 8, 9]] [some 44, some 45, some 46, some 47, some 48, some 49, some 50, some 51, some 52, some 53, none] 10 (fun b w' => Arr .u64 w' (w.heap.size) ps ∧ Arr .u64 w' (w1.heap.size) (if b then cr12 else List.replicate 20 0) ∧ Arr .u64 w' (N3_0) cr0 ∧ Arr .u64 w' (N3_1) cr1 ∧ Arr .u64 w' (N3_2) cr3 ∧ Arr .u64 w' (w6.heap.size) cr4 ∧ Arr .u64 w' (N9_0) cr7 ∧ Arr .u64 w' (w10.heap.size) cr8 ∧ Below w.heap.size w w') (fun opn f _ => match opn with | 0 => f 0 = aggI .u64 cr7 | 1 => f 1 = aggI .u64 cr8 | 2 => f 2 = aggI .u64 cr3 | 3 => f 3 = aggI .u64 cr9 | 4 => f 4 = aggI .u64 cr8 | 5 => f 5 = aggI .u64 cr0 | 6 => f 6 = aggI .u64 cr1 | 7 => f 7 = aggI .u64 cr10 | 8 => f 8 = aggI .u64 cr11 | 9 => f 9 = aggI .u64 cr12 | 10 => f 10 = undef | _ => True) (fun _ v v' => ∃ cs, v' = v.setRow (w1.heap.size) cs) (by kernel_rfl) (by kernel_rfl) (by kernel_rfl) (by kernel_rfl) (fun b v v' hb h => ⟨h.1.below hb, h.2.1.below hb, h.2.2.1.below hb, h.2.2.2.1.below hb, h.2.2.2.2.1.below hb, h.2.2.2.2.2.1.below hb, h.2.2.2.2.2.2.1.below hb, h.2.2.2.2.2.2.2.1.below hb, below_then h.2.2.2.2.2.2.2.2 hb⟩) (fun _ _ _ _ _ h => h) (fun _ _ _ _ _ _ _ h => h) ⟨A1.drew, A2.drew, A3.drew, A4.drew, A5.drew, A6.drew, A7.drew, A8.drew, BB.drew⟩ ?_ ?_
   ·
    refine StepL.other (k := 0) rfl (fun b f W hb hG hH => ?_) ?_
    ·
     obtain rfl := hb rfl
     clear hH
     generalize hA : putL _ _ _ _ = A
     have q7 : A.eval (.tmp 7) = .pointer (some ⟨N9_0, 0, none⟩) := putLn hA 7 rfl rfl rfl
     clear hA
     exact Does.loadM rfl 42 _ rfl 5 _ und_limbs rfl info_limbs (N9_0) 0 q7 .u64 (cr7) (hG.2.2.2.2.2.2.1) (by omega) (sl_all l_cr7) ⟨Below.refl _ _, rfl⟩
    refine StepL.other (k := 1) rfl (fun b f W hb hG hH => ?_) ?_
    ·
     obtain rfl := hb rfl
     clear hH
     generalize hA : putL _ _ _ _ = A
     have q8 : A.eval (.tmp 8) = .pointer (some ⟨w10.heap.size, 0, none⟩) := putLn hA 8 rfl rfl rfl
     clear hA
     exact Does.loadM rfl 42 _ rfl 5 _ und_limbs rfl info_limbs (w10.heap.size) 0 q8 .u64 (cr8) (hG.2.2.2.2.2.2.2.1) (by omega) (sl_all l_cr8) ⟨Below.refl _ _, rfl⟩
    refine StepL.other (k := 2) rfl (fun b f W hb hG hH => ?_) ?_
    ·
     obtain rfl := hb rfl
     clear hH
     generalize hA : putL _ _ _ _ = A
     have q5 : A.eval (.tmp 5) = .pointer (some ⟨N3_2, 0, none⟩) := putLn hA 5 rfl rfl rfl
     clear hA
     exact Does.loadM rfl 42 _ rfl 5 _ und_limbs rfl info_limbs (N3_2) 0 q5 .u64 (cr3) (hG.2.2.2.2.1) (by omega) (sl_all l_cr3) ⟨Below.refl _ _, rfl⟩
    refine StepL.other (k := 3) rfl (fun b f W hb hG hH => ?_) ?_
    ·
     obtain rfl := hb rfl
     obtain ⟨d1, d2, -⟩ := hH
     generalize hA : putL _ _ _ _ = A
     have q45 := putLl hA 45 d1 rfl rfl
     have r45 := slot_get q45
     have q46 := putLl hA 46 d2 rfl rfl
     have r46 := slot_get q46
     clear hA
     refine Does.call rfl _ _ (by go_simp) ((H9 W).mono ?_)
     rintro e w' ⟨rfl, hb'⟩
     exact ⟨_, rfl, hb', rfl⟩
    refine StepL.other (k := 4) rfl (fun b f W hb hG hH => ?_) ?_
    ·
     obtain rfl := hb rfl
     clear hH
     generalize hA : putL _ _ _ _ = A
     have q8 : A.eval (.tmp 8) = .pointer (some ⟨w10.heap.size, 0, none⟩) := putLn hA 8 rfl rfl rfl
     clear hA
     exact Does.loadM rfl 42 _ rfl 5 _ und_limbs rfl info_limbs (w10.heap.size) 0 q8 .u64 (cr8) (hG.2.2.2.2.2.2.2.1) (by omega) (sl_all l_cr8) ⟨Below.refl _ _, rfl⟩
    refine StepL.other (k := 5) rfl (fun b f W hb hG hH => ?_) ?_
    ·
     obtain rfl := hb rfl
     clear hH
     generalize hA : putL _ _ _ _ = A
     have q3 : A.eval (.tmp 3) = .pointer (some ⟨N3_0, 0, none⟩) := putLn hA 3 rfl rfl rfl
     clear hA
     exact Does.loadM rfl 42 _ rfl 5 _ und_limbs rfl info_limbs (N3_0) 0 q3 .u64 (cr0) (hG.2.2.1) (by omega) (sl_all l_cr0) ⟨Below.refl _ _, rfl⟩
    refine StepL.other (k := 6) rfl (fun b f W hb hG hH => ?_) ?_
    ·
     obtain rfl := hb rfl
     clear hH
     generalize hA : putL _ _ _ _ = A
     have q4 : A.eval (.tmp 4) = .pointer (some ⟨N3_1, 0, none⟩) := putLn hA 4 rfl rfl rfl
     clear hA
     exact Does.loadM rfl 42 _ rfl 5 _ und_limbs rfl info_limbs (N3_1) 0 q4 .u64 (cr1) (hG.2.2.2.1) (by omega) (sl_all l_cr1) ⟨Below.refl _ _, rfl⟩
    refine StepL.other (k := 7) rfl (fun b f W hb hG hH => ?_) ?_
    ·
     obtain rfl := hb rfl
     obtain ⟨d5, d6, d3, -⟩ := hH
     generalize hA : putL _ _ _ _ = A
     have q49 := putLl hA 49 d5 rfl rfl
     have r49 := slot_get q49
     have q50 := putLl hA 50 d6 rfl rfl
     have r50 := slot_get q50
     clear hA
     refine Does.call rfl _ _ (by go_simp) ((H10 W).mono ?_)
     rintro e w' ⟨rfl, hb'⟩
     exact ⟨_, rfl, hb', rfl⟩
    refine StepL.other (k := 8) rfl (fun b f W hb hG hH => ?_) ?_
    ·
     obtain rfl := hb rfl
     obtain ⟨d7, -, -⟩ := hH
     generalize hA : putL _ _ _ _ = A
     have q51 := putLl hA 51 d7 rfl rfl
     have r51 := slot_get q51
     clear hA
     refine Does.call rfl _ _ (by go_simp) ((H11 W).mono ?_)
     rintro e w' ⟨rfl, hb'⟩
     exact ⟨_, rfl, hb', rfl⟩
    refine StepL.other (k := 9) rfl (fun b f W hb hG hH => ?_) ?_
    ·
     obtain rfl := hb rfl
     obtain ⟨d0, d3, d4, d8, -, -⟩ := hH
     generalize hA : putL _ _ _ _ = A
     have q44 := putLl hA 44 d0 rfl rfl
     have r44 := slot_get q44
     have q47 := putLl hA 47 d3 rfl rfl
     have r47 := slot_get q47
     have q48 := putLl hA 48 d4 rfl rfl
     have r48 := slot_get q48
     have q52 := putLl hA 52 d8 rfl rfl
     have r52 := slot_get q52
     clear hA
     refine Does.call rfl _ _ (by go_simp) ((H12 W).mono ?_)
     rintro e w' ⟨rfl, hb'⟩
     exact ⟨_, rfl, hb', rfl⟩
    refine StepL.self (k := 10) rfl (fun f W hG hH => ?_) ?_
    ·
     obtain ⟨d9, -, d0, d1, d2, d3, d4, d5, d6, d7, d8, -, -⟩ := hH
     generalize hA : putL _ _ _ _ = A
     have q2 : A.eval (.tmp 2) = .pointer (some ⟨w1.heap.size, 0, none⟩) := putLn hA 2 rfl rfl rfl
     have r2 := slot_get q2
     have q53 := putLl hA 53 d9 rfl rfl
     have r53 := slot_get q53
     clear hA
     have hZ : Arr .u64 W (w1.heap.size) (List.replicate 20 0) := hG.2.1
     refine Does.storeI rfl 46 _ _ rfl 20 info_point (w1.heap.size) q2 .u64 _ (cr12) q53 hZ (rfl) (l_cr12) ?_
     intro A9
     exact ⟨⟨_, rfl⟩, ⟨hG.1.rowOther (by omega) _, A9, hG.2.2.1.rowOther (by omega) _, hG.2.2.2.1.rowOther (by omega) _, hG.2.2.2.2.1.rowOther (by omega) _, hG.2.2.2.2.2.1.rowOther (by omega) _, hG.2.2.2.2.2.2.1.rowOther (by omega) _, hG.2.2.2.2.2.2.2.1.rowOther (by omega) _, Below.setRow hG.2.2.2.2.2.2.2.2 (by omega) _⟩, rfl⟩
    exact trivial
   ·
    intro f V13 hG hH
    obtain ⟨d0, d1, d2, d3, d4, d5, d6, d7, d8, d9, d10, -⟩ : (f 0 = aggI .u64 cr7) ∧ (f 1 = aggI .u64 cr8) ∧ (f 2 = aggI .u64 cr3) ∧ (f 3 = aggI .u64 cr9) ∧ (f 4 = aggI .u64 cr8) ∧ (f 5 = aggI .u64 cr0) ∧ (f 6 = aggI .u64 cr1) ∧ (f 7 = aggI .u64 cr10) ∧ (f 8 = aggI .u64 cr11) ∧ (f 9 = aggI .u64 cr12) ∧ (f 10 = undef) ∧ True := hH
    rw [show List.range (List.length [[], [], [], [1, 2], [], [], [], [5, 6, 3], [7, 7], [0, 3, 4, 8, 8], [9, 9, 0, 1, 2, 3, 4, 5, 6, 7, 8, 9]]) = [0, 1, 2, 3, 4, 5, 6, 7, 8, 9, 10] from rfl]
    simp only [putL, List.getElem?_cons_zero, List.getElem?_cons_succ, Option.join, Option.bind_some, id_eq, Act.put, List.setIfInBounds_toArray, List.set_cons_zero, List.set_cons_succ, d0, d1, d2, d3, d4, d5, d6, d7, d8, d9]
    clear d0 d1 d2 d3 d4 d5 d6 d7 d8 d9 d10
    clear A1 A2 A3 A4 A5 A6 A7 A8
    obtain ⟨A1, A2, A3, A4, A5, A6, A7, A8, BV⟩ := hG
    have A2 : Arr .u64 V13 (w1.heap.size) cr12 := A2
    clear BB
    have BB := BV
    clear BV
    have zz13 := BB.size
    go_wp2
    refine bodyPost_ret (results_cellM rfl _ 20 _ Tryd.underlying46 rfl info_point (w1.heap.size) rfl .u64 _ A2 (l_cr12)) rfl ?_
    exact ⟨rfl, BB⟩

set_option maxHeartbeats 2000000 in
theorem flat_walk (ps ps_10_5 cr0 ps_0_5 cr1 ps_5_5 cr2 bu0 : List Int) (w : World) (l_ps : ps.length = 20) (l_ps_10_5 : ps_10_5.length = 5) (l_cr0 : cr0.length = 5) (l_ps_0_5 : ps_0_5.length = 5) (l_cr1 : cr1.length = 5) (l_ps_5_5 : ps_5_5.length = 5) (l_cr2 : cr2.length = 5) (l_bu0 : bu0.length = 10)
  (h_ps_10_5 : sl ps 10 5 = ps_10_5)
  (h_ps_0_5 : sl ps 0 5 = ps_0_5)
  (h_ps_5_5 : sl ps 5 5 = ps_5_5)
  (hbu0 : Tryd.prog.built 44 [(0, aggI .u64 cr1), (1, aggI .u64 cr2)] = some (bu0.map (Value.int .u64)).toArray)
  (H0 : ∀ W, Ret 68 #[aggI .u64 ps_10_5] (aggI .u64 cr0) W)
  (H1 : ∀ W, Ret 49 #[aggI .u64 ps_0_5, aggI .u64 cr0] (aggI .u64 cr1) W)
  (H2 : ∀ W, Ret 49 #[aggI .u64 ps_5_5, aggI .u64 cr0] (aggI .u64 cr2) W) :
  Calls Tryd.prog 40 #[aggI .u64 ps] w fun e w' => e = .returned (aggI .u64 bu0) ∧ Below w.heap.size w w' := by
 go_enter Tryd.func40, Tryd.ntmps40
 go_wp2_with (first
   | (with_reducible refine at_n 1 ?_; refine wpList_boxI rfl 46 _ rfl .u64 ps rfl ?_; intro w1 A1 s1 b1; have BB := b1; have y1 := BB.size)
   | (with_reducible refine at_n 2 ?_; refine wpList_allocI rfl 44 rfl .u64 10 zero_plane ?_; intro w2 A2 s2 b2; have q2_1 := A1.lt; replace A1 := A1.below b2; replace BB := below_then BB b2; have y2 := BB.size)
   | (with_reducible refine at_n 4 ?_; refine wpList_val' (fun R hR => Does.fieldA rfl 46 _ 1 rfl (off := 10) (by kernel_rfl) (w.heap.size) 0 rfl (o1 := 10) rfl hR) ?_)
   | (with_reducible refine at_n 5 ?_; refine wpList_val' (fun R hR => Does.loadM rfl 42 _ rfl 5 _ und_limbs rfl info_limbs (w.heap.size) 10 rfl .u64 (ps) (A1) (by omega) (h_ps_10_5) hR) ?_)
   | (with_reducible refine at_n 3 ?_; refine wpList_allocI rfl 42 rfl .u64 5 zero_limbs ?_; intro w4 A3 s4 b4; have q4_1 := A1.lt; have q4_2 := A2.lt; replace A1 := A1.below b4; replace A2 := A2.below b4; replace BB := below_then BB b4; have y4 := BB.size)
   | (with_reducible refine at_op (o := ⟨_, .store 42 (.tmp 3) _, _, _, _, _⟩) ?_; refine wpList_storeI rfl 42 _ _ rfl 5 info_limbs (w3.heap.size) rfl .u64 _ (cr0) rfl (A3) (rfl) (l_cr0) ?_; intro D5; replace A1 := A1.rowOther (B' := w3.heap.size) (by omega) ((cr0).map (Value.int .u64)).toArray; replace A2 := A2.rowOther (B' := w3.heap.size) (by omega) ((cr0).map (Value.int .u64)).toArray; replace BB := Below.setRow BB (g := w3.heap.size) (by omega) ((cr0).map (Value.int .u64)).toArray; clear A3; have A3 := D5)
   | (go_at_call 68; first | ((with_reducible refine (H0 _).mono ?_); rintro e w3 ⟨rfl, b3⟩; replace A1 := A1.below b3; replace A2 := A2.below b3; replace BB := below_then BB b3; have z3 := BB.size)))
 refine wp_world fun Wc6 hWc => ?_
 rw [← hWc] at BB A1 A2 A3
 clear hWc
 have k6_0 := A1.lt
 have k6_1 := A2.lt
 have k6_2 := A3.lt
 refine wp_region_ord [[], [0], [1], [], [2, 3], [], [5], [6], [], [7, 8, 4], [4, 9], [10, 9, 0, 1, 2, 3, 4, 5, 6, 7, 8, 9, 10]] [some 7, some 8, some 9, some 10, some 11, some 12, some 13, some 14, some 15, some 16, some 17, none] 11 (fun b w' => Arr .u64 w' (w.heap.size) ps ∧ Arr .u64 w' (w1.heap.size) (if b then bu0 else List.replicate 10 0) ∧ Arr .u64 w' (w3.heap.size) cr0 ∧ Below w.heap.size w w') (fun opn f _ => match opn with | 0 => f 0 = .pointer (some ⟨w.heap.size, 0, none⟩) | 1 => f 1 = .pointer (some ⟨w.heap.size, 0, none⟩) | 2 => f 2 = aggI .u64 ps_0_5 | 3 => f 3 = aggI .u64 cr0 | 4 => f 4 = aggI .u64 cr1 | 5 => f 5 = .pointer (some ⟨w.heap.size, 0, none⟩) | 6 => f 6 = .pointer (some ⟨w.heap.size, 5, none⟩) | 7 => f 7 = aggI .u64 ps_5_5 | 8 => f 8 = aggI .u64 cr0 | 9 => f 9 = aggI .u64 cr2 | 10 => f 10 = aggI .u64 bu0 | 11 => f 11 = undef | _ => True) (fun _ v v' => ∃ cs, v' = v.setRow (w1.heap.size) cs) (by kernel_rfl) (by kernel_rfl) (by kernel_rfl) (by kernel_rfl) (fun b v v' hb h => ⟨h.1.below hb, h.2.1.below hb, h.2.2.1.below hb, below_then h.2.2.2 hb⟩) (fun _ _ _ _ _ h => h) (fun _ _ _ _ _ _ _ h => h) ⟨A1.drew, A2.drew, A3.drew, BB.drew⟩ ?_ ?_
 ·
  refine StepL.other (k := 0) rfl (fun b f W hb hG hH => ?_) ?_
  ·
   obtain rfl := hb rfl
   clear hH
   generalize hA : putL _ _ _ _ = A
   have q1 : A.eval (.tmp 1) = .pointer (some ⟨w.heap.size, 0, none⟩) := putLn hA 1 rfl rfl rfl
   clear hA
   exact Does.fieldA rfl 46 _ 0 rfl (off := 0) (by kernel_rfl) (w.heap.size) 0 q1 (o1 := 0) rfl ⟨Below.refl _ _, rfl⟩
  refine StepL.other (k := 1) rfl (fun b f W hb hG hH => ?_) ?_
  ·
   obtain rfl := hb rfl
   obtain ⟨d0, -⟩ := hH
   generalize hA : putL _ _ _ _ = A
   have q7 := putLl hA 7 d0 rfl rfl
   clear hA
   exact Does.fieldA rfl 44 _ 0 rfl (off := 0) (by kernel_rfl) (w.heap.size) 0 q7 (o1 := 0) rfl ⟨Below.refl _ _, rfl⟩
  refine StepL.other (k := 2) rfl (fun b f W hb hG hH => ?_) ?_
  ·
   obtain rfl := hb rfl
   obtain ⟨d1, -⟩ := hH
   generalize hA : putL _ _ _ _ = A
   have q8 := putLl hA 8 d1 rfl rfl
   clear hA
   exact Does.loadM rfl 42 _ rfl 5 _ und_limbs rfl info_limbs (w.heap.size) 0 q8 .u64 (ps) (hG.1) (by omega) (h_ps_0_5) ⟨Below.refl _ _, rfl⟩
  refine StepL.other (k := 3) rfl (fun b f W hb hG hH => ?_) ?_
  ·
   obtain rfl := hb rfl
   clear hH
   generalize hA : putL _ _ _ _ = A
   have q3 : A.eval (.tmp 3) = .pointer (some ⟨w3.heap.size, 0, none⟩) := putLn hA 3 rfl rfl rfl
   clear hA
   exact Does.loadM rfl 42 _ rfl 5 _ und_limbs rfl info_limbs (w3.heap.size) 0 q3 .u64 (cr0) (hG.2.2.1) (by omega) (sl_all l_cr0) ⟨Below.refl _ _, rfl⟩
  refine StepL.other (k := 4) rfl (fun b f W hb hG hH => ?_) ?_
  ·
   obtain rfl := hb rfl
   obtain ⟨d2, d3, -⟩ := hH
   generalize hA : putL _ _ _ _ = A
   have q9 := putLl hA 9 d2 rfl rfl
   have r9 := slot_get q9
   have q10 := putLl hA 10 d3 rfl rfl
   have r10 := slot_get q10
   clear hA
   refine Does.call rfl _ _ (by go_simp) ((H1 W).mono ?_)
   rintro e w' ⟨rfl, hb'⟩
   exact ⟨_, rfl, hb', rfl⟩
  refine StepL.other (k := 5) rfl (fun b f W hb hG hH => ?_) ?_
  ·
   obtain rfl := hb rfl
   clear hH
   generalize hA : putL _ _ _ _ = A
   have q1 : A.eval (.tmp 1) = .pointer (some ⟨w.heap.size, 0, none⟩) := putLn hA 1 rfl rfl rfl
   clear hA
   exact Does.fieldA rfl 46 _ 0 rfl (off := 0) (by kernel_rfl) (w.heap.size) 0 q1 (o1 := 0) rfl ⟨Below.refl _ _, rfl⟩
  refine StepL.other (k := 6) rfl (fun b f W hb hG hH => ?_) ?_
  ·
   obtain rfl := hb rfl
   obtain ⟨d5, -⟩ := hH
   generalize hA : putL _ _ _ _ = A
   have q12 := putLl hA 12 d5 rfl rfl
   clear hA
   exact Does.fieldA rfl 44 _ 1 rfl (off := 5) (by kernel_rfl) (w.heap.size) 0 q12 (o1 := 5) rfl ⟨Below.refl _ _, rfl⟩
  refine StepL.other (k := 7) rfl (fun b f W hb hG hH => ?_) ?_
  ·
   obtain rfl := hb rfl
   obtain ⟨d6, -⟩ := hH
   generalize hA : putL _ _ _ _ = A
   have q13 := putLl hA 13 d6 rfl rfl
   clear hA
   exact Does.loadM rfl 42 _ rfl 5 _ und_limbs rfl info_limbs (w.heap.size) 5 q13 .u64 (ps) (hG.1) (by omega) (h_ps_5_5) ⟨Below.refl _ _, rfl⟩
  refine StepL.other (k := 8) rfl (fun b f W hb hG hH => ?_) ?_
  ·
   obtain rfl := hb rfl
   clear hH
   generalize hA : putL _ _ _ _ = A
   have q3 : A.eval (.tmp 3) = .pointer (some ⟨w3.heap.size, 0, none⟩) := putLn hA 3 rfl rfl rfl
   clear hA
   exact Does.loadM rfl 42 _ rfl 5 _ und_limbs rfl info_limbs (w3.heap.size) 0 q3 .u64 (cr0) (hG.2.2.1) (by omega) (sl_all l_cr0) ⟨Below.refl _ _, rfl⟩
  refine StepL.other (k := 9) rfl (fun b f W hb hG hH => ?_) ?_
  ·
   obtain rfl := hb rfl
   obtain ⟨d7, d8, d4, -⟩ := hH
   generalize hA : putL _ _ _ _ = A
   have q14 := putLl hA 14 d7 rfl rfl
   have r14 := slot_get q14
   have q15 := putLl hA 15 d8 rfl rfl
   have r15 := slot_get q15
   clear hA
   refine Does.call rfl _ _ (by go_simp) ((H2 W).mono ?_)
   rintro e w' ⟨rfl, hb'⟩
   exact ⟨_, rfl, hb', rfl⟩
  refine StepL.other (k := 10) rfl (fun b f W hb hG hH => ?_) ?_
  ·
   obtain rfl := hb rfl
   obtain ⟨d4, d9, -⟩ := hH
   generalize hA : putL _ _ _ _ = A
   have q11 := putLl hA 11 d4 rfl rfl
   have r11 := slot_get q11
   have q16 := putLl hA 16 d9 rfl rfl
   have r16 := slot_get q16
   clear hA
   exact Does.buildI rfl 44 _ rfl .u64 (bu0) _ (hbu0) (by simp [q11, q16]) ⟨Below.refl _ _, rfl⟩
  refine StepL.self (k := 11) rfl (fun f W hG hH => ?_) ?_
  ·
   obtain ⟨d10, d9, d0, d1, d2, d3, d4, d5, d6, d7, d8, -, -, -⟩ := hH
   generalize hA : putL _ _ _ _ = A
   have q2 : A.eval (.tmp 2) = .pointer (some ⟨w1.heap.size, 0, none⟩) := putLn hA 2 rfl rfl rfl
   have r2 := slot_get q2
   have q17 := putLl hA 17 d10 rfl rfl
   have r17 := slot_get q17
   clear hA
   have hZ : Arr .u64 W (w1.heap.size) (List.replicate 10 0) := hG.2.1
   refine Does.storeI rfl 44 _ _ rfl 10 info_plane (w1.heap.size) q2 .u64 _ (bu0) q17 hZ (rfl) (l_bu0) ?_
   intro A9
   exact ⟨⟨_, rfl⟩, ⟨hG.1.rowOther (by omega) _, A9, hG.2.2.1.rowOther (by omega) _, Below.setRow hG.2.2.2 (by omega) _⟩, rfl⟩
  exact trivial
 ·
  intro f V6 hG hH
  obtain ⟨d0, d1, d2, d3, d4, d5, d6, d7, d8, d9, d10, d11, -⟩ : (f 0 = .pointer (some ⟨w.heap.size, 0, none⟩)) ∧ (f 1 = .pointer (some ⟨w.heap.size, 0, none⟩)) ∧ (f 2 = aggI .u64 ps_0_5) ∧ (f 3 = aggI .u64 cr0) ∧ (f 4 = aggI .u64 cr1) ∧ (f 5 = .pointer (some ⟨w.heap.size, 0, none⟩)) ∧ (f 6 = .pointer (some ⟨w.heap.size, 5, none⟩)) ∧ (f 7 = aggI .u64 ps_5_5) ∧ (f 8 = aggI .u64 cr0) ∧ (f 9 = aggI .u64 cr2) ∧ (f 10 = aggI .u64 bu0) ∧ (f 11 = undef) ∧ True := hH
  rw [show List.range (List.length [[], [0], [1], [], [2, 3], [], [5], [6], [], [7, 8, 4], [4, 9], [10, 9, 0, 1, 2, 3, 4, 5, 6, 7, 8, 9, 10]]) = [0, 1, 2, 3, 4, 5, 6, 7, 8, 9, 10, 11] from rfl]
  simp only [putL, List.getElem?_cons_zero, List.getElem?_cons_succ, Option.join, Option.bind_some, id_eq, Act.put, List.setIfInBounds_toArray, List.set_cons_zero, List.set_cons_succ, d0, d1, d2, d3, d4, d5, d6, d7, d8, d9, d10]
  clear d0 d1 d2 d3 d4 d5 d6 d7 d8 d9 d10 d11
  clear A1 A2 A3
  obtain ⟨A1, A2, A3, BV⟩ := hG
  have A2 : Arr .u64 V6 (w1.heap.size) bu0 := A2
  clear BB
  have BB := BV
  clear BV
  have zz6 := BB.size
  go_wp2
  refine bodyPost_ret (results_cellM rfl _ 10 _ Tryd.underlying44 rfl info_plane (w1.heap.size) rfl .u64 _ A2 (l_bu0)) rfl ?_
  exact ⟨rfl, BB⟩
end Go.Proofs.YtelppapkffjmpaaDoor
end
section
namespace Go.Proofs.YtelppapkffjmpaaDoor
open Go.RowKit Go.Shelf
set_option linter.unusedVariables false
set_option maxRecDepth 8000

/-- Five limbs of a number modulo p. -/
structure LF (xs : List Int) (a : FF) : Prop where
  fel : Fel xs (a.val : Int)
theorem LF.len {xs : List Int} {a : FF} (h : LF xs a) : xs.length = 5 := h.fel.len
def tm (xs ys : List Int) : List Int := carriedS (timesL xs ys)
def pl (xs ys : List Int) : List Int := carriedS (plusL xs ys)
def mi (xs ys : List Int) : List Int := carriedS (minusL xs ys)
theorem val_mul (a b : FF) : ((a * b).val : Int) = (a.val : Int) * (b.val : Int) % pV := by
  rw [Fin.val_mul, Int.natCast_emod, Int.natCast_mul, pV_nat]
theorem val_add (a b : FF) : ((a + b).val : Int) = ((a.val : Int) + (b.val : Int)) % pV := by
  rw [Fin.val_add, Int.natCast_emod, Int.natCast_add, pV_nat]
theorem val_sub (a b : FF) : ((a - b).val : Int) = ((a.val : Int) - (b.val : Int)) % pV := by
  have hb := b.isLt
  rw [Fin.sub_def, pV_nat]
  show (((pN - b.val + a.val) % pN : Nat) : Int) = _
  rw [Int.natCast_emod, Int.natCast_add, Int.natCast_sub (by omega)]
  rw [show ((pN : Int) - (b.val : Int) + (a.val : Int)) = (a.val : Int) - (b.val : Int) + (pN : Int) by omega, Int.add_emod_right]
theorem val_neg (a : FF) : ((-a).val : Int) = (0 - (a.val : Int)) % pV := by
  have h : -a = 0 - a := by grobner
  rw [h, val_sub]; rfl
theorem LF.tm {xs ys : List Int} {a b : FF} (hx : LF xs a) (hy : LF ys b) : LF (tm xs ys) (a * b) := ⟨by rw [val_mul]; exact times_fel hx.fel hy.fel⟩
theorem LF.pl {xs ys : List Int} {a b : FF} (hx : LF xs a) (hy : LF ys b) : LF (pl xs ys) (a + b) := ⟨by rw [val_add]; exact plus_fel hx.fel hy.fel⟩
theorem LF.mi {xs ys : List Int} {a b : FF} (hx : LF xs a) (hy : LF ys b) : LF (mi xs ys) (a - b) := ⟨by rw [val_sub]; exact minus_fel hx.fel hy.fel⟩
theorem LF.ng {xs : List Int} {a : FF} (hx : LF xs a) : LF (Go.Proofs.YtelppapkffjmpaaDoor.mi [0, 0, 0, 0, 0] xs) (-a) := ⟨by rw [val_neg]; exact minus_fel zero_fel hx.fel⟩
theorem LF.one : LF [1, 0, 0, 0, 0] 1 := ⟨one_fel⟩
theorem LF.iv {xs : List Int} {a : FF} (hx : LF xs a) : LF (powS xs (powN 235 127) 256) (finv a) := ⟨by
  have h := powS_fel xs (powN 235 127) _ hx.fel powN_inv 256 (Nat.le_refl _)
  rw [Nat.sub_self, Int.pow_zero, Int.ediv_one, invN_eq] at h
  have e : ((finv a).val : Int) = (a.val : Int) ^ (pN - 2) % pV := by
    show ((a.val ^ (pN - 2) % pN : Nat) : Int) = _
    rw [Int.natCast_emod, Int.natCast_pow, pV_nat]
  rw [e]; exact h⟩
theorem times_c {xs ys : List Int} {a b : FF} (hx : LF xs a) (hy : LF ys b) (W : World) : Calls Tryd.prog 49 #[aggI .u64 xs, aggI .u64 ys] W fun e w' => e = .returned (aggI .u64 (tm xs ys)) ∧ Below W.heap.size W w' := times_any xs ys W hx.fel.small hy.fel.small hx.len hy.len
theorem plus_c {xs ys : List Int} {a b : FF} (hx : LF xs a) (hy : LF ys b) (W : World) : Calls Tryd.prog 51 #[aggI .u64 xs, aggI .u64 ys] W fun e w' => e = .returned (aggI .u64 (pl xs ys)) ∧ Below W.heap.size W w' := plus_any xs ys W hx.fel.small hy.fel.small hx.len hy.len
theorem minus_c {xs ys : List Int} {a b : FF} (hx : LF xs a) (hy : LF ys b) (W : World) : Calls Tryd.prog 53 #[aggI .u64 xs, aggI .u64 ys] W fun e w' => e = .returned (aggI .u64 (mi xs ys)) ∧ Below W.heap.size W w' := minus_any xs ys W hx.fel.small hy.fel.small hx.len hy.len
theorem neg_c {xs : List Int} {a : FF} (hx : LF xs a) (W : World) : Calls Tryd.prog 62 #[aggI .u64 xs] W fun e w' => e = .returned (aggI .u64 (mi [0, 0, 0, 0, 0] xs)) ∧ Below W.heap.size W w' := negative_any xs _ W hx.fel
theorem inv_c {xs : List Int} {a : FF} (hx : LF xs a) (W : World) : Calls Tryd.prog 68 #[aggI .u64 xs] W fun e w' => e = .returned (aggI .u64 (powS xs (powN 235 127) 256)) ∧ Below W.heap.size W w' := inverse_any xs _ W hx.fel
theorem dLn_lf : LF dLn dF := ⟨⟨rfl, small_of5 (by omega) (by omega) (by omega) (by omega) (by omega), by decide +kernel⟩⟩
/-- A point's two numbers. -/
structure PlL (ps : List Int) (X Y : FF) : Prop where
  len : ps.length = 10
  x : LF (sl ps 0 5) X
  y : LF (sl ps 5 5) Y
/-- A point's four numbers. -/
structure PoL (ps : List Int) (X Y Z T : FF) : Prop where
  len : ps.length = 20
  x : LF (sl ps 0 5) X
  y : LF (sl ps 5 5) Y
  z : LF (sl ps 10 5) Z
  t : LF (sl ps 15 5) T
theorem PoL.plane {ps : List Int} {X Y Z T : FF} (h : PoL ps X Y Z T) : PlL (sl ps 0 10) X Y :=
  ⟨sl_length (by have := h.len; omega), by rw [sl_sl _ _ _ _ _ (by omega)]; exact h.x, by rw [sl_sl _ _ _ _ _ (by omega)]; exact h.y⟩
theorem sl_app0 {xs ys : List Int} {n : Nat} (h : xs.length = n) : sl (xs ++ ys) 0 n = xs := by subst h; simp [sl]
theorem sl_appn {xs ys : List Int} {m o n : Nat} (h : xs.length = m) : sl (xs ++ ys) (m + o) n = sl ys o n := by
  subst h
  unfold sl
  congr 1
  simp
theorem PlL.mk2 {xs ys : List Int} {X Y : FF} (hx : LF xs X) (hy : LF ys Y) : PlL (xs ++ ys) X Y :=
  ⟨by simp [hx.len, hy.len], by rw [sl_app0 hx.len]; exact hx, by rw [show sl (xs ++ ys) 5 5 = ys from (sl_appn (o := 0) hx.len).trans (sl_all hy.len)]; exact hy⟩
theorem PoL.mk3 {ps zs ts : List Int} {X Y Z T : FF} (hp : PlL ps X Y) (hz : LF zs Z) (ht : LF ts T) : PoL (ps ++ (zs ++ ts)) X Y Z T := by
  have e1 : sl (ps ++ (zs ++ ts)) 0 5 = sl ps 0 5 := by simp [sl, List.take_append, hp.len]
  have e2 : sl (ps ++ (zs ++ ts)) 5 5 = sl ps 5 5 := by
    unfold sl
    rw [List.drop_append_of_le_length (by rw [hp.len]; omega), List.take_append_of_le_length (by simp [hp.len])]
  refine ⟨by simp [hp.len, hz.len, ht.len], by rw [e1]; exact hp.x, by rw [e2]; exact hp.y, ?_, ?_⟩
  · rw [show sl (ps ++ (zs ++ ts)) 10 5 = zs from (sl_appn (o := 0) hp.len).trans (sl_app0 hz.len)]; exact hz
  · rw [show sl (ps ++ (zs ++ ts)) 15 5 = ts from (sl_appn (o := 5) hp.len).trans ((sl_appn (o := 0) hz.len).trans (sl_all ht.len))]; exact ht
theorem five {xs : List Int} (h : xs.length = 5) : ∃ a b c d e, xs = [a, b, c, d, e] := by
  match xs, h with
  | [a, b, c, d, e], _ => exact ⟨a, b, c, d, e, rfl⟩
theorem ten {xs : List Int} (h : xs.length = 10) : ∃ a b c d e a' b' c' d' e', xs = [a, b, c, d, e, a', b', c', d', e'] := by
  match xs, h with
  | [a, b, c, d, e, a', b', c', d', e'], _ => exact ⟨a, b, c, d, e, a', b', c', d', e', rfl⟩
theorem built_plane {xs ys : List Int} (hx : xs.length = 5) (hy : ys.length = 5) : Tryd.prog.built 44 [(0, aggI .u64 xs), (1, aggI .u64 ys)] = some ((xs ++ ys).map (Value.int .u64)).toArray := by
  obtain ⟨a, b, c, d, e, rfl⟩ := five hx
  obtain ⟨a', b', c', d', e', rfl⟩ := five hy
  kernel_rfl
theorem built_plane1 {ys : List Int} (hy : ys.length = 5) : Tryd.prog.built 44 [(1, aggI .u64 ys)] = some (([0, 0, 0, 0, 0] ++ ys).map (Value.int .u64)).toArray := by
  obtain ⟨a', b', c', d', e', rfl⟩ := five hy
  kernel_rfl
theorem built_point {ps zs ts : List Int} (hp : ps.length = 10) (hz : zs.length = 5) (ht : ts.length = 5) : Tryd.prog.built 46 [(0, aggI .u64 ps), (1, aggI .u64 zs), (2, aggI .u64 ts)] = some ((ps ++ (zs ++ ts)).map (Value.int .u64)).toArray := by
  obtain ⟨a, b, c, d, e, a', b', c', d', e', rfl⟩ := ten hp
  obtain ⟨f, g, h, i, j, rfl⟩ := five hz
  obtain ⟨f', g', h', i', j', rfl⟩ := five ht
  kernel_rfl
theorem psum_c {ps : List Int} {X Y : FF} (h : PlL ps X Y) : ∀ w, Calls Tryd.prog 50 #[aggI .u64 ps] w fun e w' => e = .returned (aggI .u64 (pl (sl ps 5 5) (sl ps 0 5))) ∧ Below w.heap.size w w' := by
  exact fun w => psum_walk _ _ _ _ w (h).len (h.y).len (h.x).len ((LF.pl h.y h.x)).len rfl rfl (plus_c h.y h.x)
theorem pdiff_c {ps : List Int} {X Y : FF} (h : PlL ps X Y) : ∀ w, Calls Tryd.prog 48 #[aggI .u64 ps] w fun e w' => e = .returned (aggI .u64 (mi (sl ps 5 5) (sl ps 0 5))) ∧ Below w.heap.size w w' := by
  exact fun w => pdiff_walk _ _ _ _ w (h).len (h.y).len (h.x).len ((LF.mi h.y h.x)).len rfl rfl (minus_c h.y h.x)
theorem pneg_c {ps : List Int} {X Y : FF} (h : PlL ps X Y) : ∃ rs, PlL rs (-X) Y ∧ ∀ w, Calls Tryd.prog 33 #[aggI .u64 ps] w fun e w' => e = .returned (aggI .u64 rs) ∧ Below w.heap.size w w' := by
  exact ⟨_, (PlL.mk2 (LF.ng h.x) h.y), fun w => pneg_walk _ _ _ _ _ w (h).len (h.x).len ((LF.ng h.x)).len (h.y).len ((PlL.mk2 (LF.ng h.x) h.y)).len rfl rfl (built_plane (LF.ng h.x).len h.y.len) (neg_c h.x)⟩
theorem raised_c {ps : List Int} {X Y : FF} (h : PlL ps X Y) : ∃ rs, PoL rs X Y 1 (X * Y) ∧ ∀ w, Calls Tryd.prog 34 #[aggI .u64 ps] w fun e w' => e = .returned (aggI .u64 rs) ∧ Below w.heap.size w w' := by
  exact ⟨_, (PoL.mk3 h LF.one (LF.tm h.x h.y)), fun w => raised_walk _ _ _ _ _ _ w (h).len (LF.one).len (h.x).len (h.y).len ((LF.tm h.x h.y)).len ((PoL.mk3 h LF.one (LF.tm h.x h.y))).len rfl rfl (built_point h.len LF.one.len (LF.tm h.x h.y).len) (small_any) (times_c h.x h.y)⟩
theorem crossed_c {es fs gs hs : List Int} {E F G H : FF} (he : LF es E) (hf : LF fs F) (hg : LF gs G) (hh : LF hs H) : ∃ rs, PoL rs (E * F) (G * H) (F * G) (E * H) ∧ ∀ w, Calls Tryd.prog 52 #[aggI .u64 es, aggI .u64 fs, aggI .u64 gs, aggI .u64 hs] w fun e w' => e = .returned (aggI .u64 rs) ∧ Below w.heap.size w w' := by
  exact ⟨_, (PoL.mk3 (PlL.mk2 (LF.tm he hf) (LF.tm hg hh)) (LF.tm hf hg) (LF.tm he hh)), fun w => crossed_walk _ _ _ _ _ _ _ _ _ _ w (he).len (hf).len (hg).len (hh).len ((LF.tm he hf)).len ((LF.tm hg hh)).len ((PlL.mk2 (LF.tm he hf) (LF.tm hg hh))).len ((LF.tm hf hg)).len ((LF.tm he hh)).len ((PoL.mk3 (PlL.mk2 (LF.tm he hf) (LF.tm hg hh)) (LF.tm hf hg) (LF.tm he hh))).len (built_plane (LF.tm he hf).len (LF.tm hg hh).len) (built_point (PlL.mk2 (LF.tm he hf) (LF.tm hg hh)).len (LF.tm hf hg).len (LF.tm he hh).len) (times_c he hf) (times_c hg hh) (times_c hf hg) (times_c he hh)⟩
theorem with_c {ps qs : List Int} {X1 Y1 Z1 T1 X2 Y2 Z2 T2 : FF} (h1 : PoL ps X1 Y1 Z1 T1) (h2 : PoL qs X2 Y2 Z2 T2) : ∃ rs, PoL rs ((((Y1 + X1) * (Y2 + X2)) - ((Y1 - X1) * (Y2 - X2))) * ((Z1 * Z2 + Z1 * Z2) - (T1 * T2 * dF + T1 * T2 * dF))) (((Z1 * Z2 + Z1 * Z2) + (T1 * T2 * dF + T1 * T2 * dF)) * (((Y1 + X1) * (Y2 + X2)) + ((Y1 - X1) * (Y2 - X2)))) (((Z1 * Z2 + Z1 * Z2) - (T1 * T2 * dF + T1 * T2 * dF)) * ((Z1 * Z2 + Z1 * Z2) + (T1 * T2 * dF + T1 * T2 * dF))) ((((Y1 + X1) * (Y2 + X2)) - ((Y1 - X1) * (Y2 - X2))) * (((Y1 + X1) * (Y2 + X2)) + ((Y1 - X1) * (Y2 - X2)))) ∧ ∀ w, TabC w → Calls Tryd.prog 28 #[aggI .u64 ps, aggI .u64 qs] w fun e w' => e = .returned (aggI .u64 rs) ∧ Below w.heap.size w w' := by
  obtain ⟨l0, p0, c0⟩ := crossed_c (LF.mi (LF.tm (LF.pl h1.plane.y h1.plane.x) (LF.pl h2.plane.y h2.plane.x)) (LF.tm (LF.mi h1.plane.y h1.plane.x) (LF.mi h2.plane.y h2.plane.x))) (LF.mi (LF.pl (LF.tm h1.z h2.z) (LF.tm h1.z h2.z)) (LF.pl (LF.tm (LF.tm h1.t h2.t) dLn_lf) (LF.tm (LF.tm h1.t h2.t) dLn_lf))) (LF.pl (LF.pl (LF.tm h1.z h2.z) (LF.tm h1.z h2.z)) (LF.pl (LF.tm (LF.tm h1.t h2.t) dLn_lf) (LF.tm (LF.tm h1.t h2.t) dLn_lf))) (LF.pl (LF.tm (LF.pl h1.plane.y h1.plane.x) (LF.pl h2.plane.y h2.plane.x)) (LF.tm (LF.mi h1.plane.y h1.plane.x) (LF.mi h2.plane.y h2.plane.x)))
  exact ⟨_, p0, fun w hT => with_walk _ _ _ _ _ _ _ _ _ _ _ _ _ _ _ _ _ _ _ _ _ _ _ _ w hT (h1).len (h2).len (h1.plane).len ((LF.mi h1.plane.y h1.plane.x)).len (h2.plane).len ((LF.mi h2.plane.y h2.plane.x)).len ((LF.tm (LF.mi h1.plane.y h1.plane.x) (LF.mi h2.plane.y h2.plane.x))).len ((LF.pl h1.plane.y h1.plane.x)).len ((LF.pl h2.plane.y h2.plane.x)).len ((LF.tm (LF.pl h1.plane.y h1.plane.x) (LF.pl h2.plane.y h2.plane.x))).len (h1.t).len (h2.t).len ((LF.tm h1.t h2.t)).len ((LF.tm (LF.tm h1.t h2.t) dLn_lf)).len ((LF.pl (LF.tm (LF.tm h1.t h2.t) dLn_lf) (LF.tm (LF.tm h1.t h2.t) dLn_lf))).len (h1.z).len (h2.z).len ((LF.tm h1.z h2.z)).len ((LF.pl (LF.tm h1.z h2.z) (LF.tm h1.z h2.z))).len ((LF.mi (LF.tm (LF.pl h1.plane.y h1.plane.x) (LF.pl h2.plane.y h2.plane.x)) (LF.tm (LF.mi h1.plane.y h1.plane.x) (LF.mi h2.plane.y h2.plane.x)))).len ((LF.mi (LF.pl (LF.tm h1.z h2.z) (LF.tm h1.z h2.z)) (LF.pl (LF.tm (LF.tm h1.t h2.t) dLn_lf) (LF.tm (LF.tm h1.t h2.t) dLn_lf)))).len ((LF.pl (LF.pl (LF.tm h1.z h2.z) (LF.tm h1.z h2.z)) (LF.pl (LF.tm (LF.tm h1.t h2.t) dLn_lf) (LF.tm (LF.tm h1.t h2.t) dLn_lf)))).len ((LF.pl (LF.tm (LF.pl h1.plane.y h1.plane.x) (LF.pl h2.plane.y h2.plane.x)) (LF.tm (LF.mi h1.plane.y h1.plane.x) (LF.mi h2.plane.y h2.plane.x)))).len (p0).len rfl rfl rfl rfl rfl rfl (pdiff_c h1.plane) (pdiff_c h2.plane) (times_c (LF.mi h1.plane.y h1.plane.x) (LF.mi h2.plane.y h2.plane.x)) (psum_c h1.plane) (psum_c h2.plane) (times_c (LF.pl h1.plane.y h1.plane.x) (LF.pl h2.plane.y h2.plane.x)) (times_c h1.t h2.t) (times_c (LF.tm h1.t h2.t) dLn_lf) (plus_c (LF.tm (LF.tm h1.t h2.t) dLn_lf) (LF.tm (LF.tm h1.t h2.t) dLn_lf)) (times_c h1.z h2.z) (plus_c (LF.tm h1.z h2.z) (LF.tm h1.z h2.z)) (minus_c (LF.tm (LF.pl h1.plane.y h1.plane.x) (LF.pl h2.plane.y h2.plane.x)) (LF.tm (LF.mi h1.plane.y h1.plane.x) (LF.mi h2.plane.y h2.plane.x))) (minus_c (LF.pl (LF.tm h1.z h2.z) (LF.tm h1.z h2.z)) (LF.pl (LF.tm (LF.tm h1.t h2.t) dLn_lf) (LF.tm (LF.tm h1.t h2.t) dLn_lf))) (plus_c (LF.pl (LF.tm h1.z h2.z) (LF.tm h1.z h2.z)) (LF.pl (LF.tm (LF.tm h1.t h2.t) dLn_lf) (LF.tm (LF.tm h1.t h2.t) dLn_lf))) (plus_c (LF.tm (LF.pl h1.plane.y h1.plane.x) (LF.pl h2.plane.y h2.plane.x)) (LF.tm (LF.mi h1.plane.y h1.plane.x) (LF.mi h2.plane.y h2.plane.x))) (c0)⟩
theorem doubled_c {ps : List Int} {X Y Z T : FF} (h : PoL ps X Y Z T) : ∃ rs, PoL rs (((Y + X) * (Y + X) - X * X - Y * Y) * ((Y * Y - X * X) - (Z * Z + Z * Z))) ((Y * Y - X * X) * (-(X * X + Y * Y))) (((Y * Y - X * X) - (Z * Z + Z * Z)) * (Y * Y - X * X)) (((Y + X) * (Y + X) - X * X - Y * Y) * (-(X * X + Y * Y))) ∧ ∀ w, Calls Tryd.prog 73 #[aggI .u64 ps] w fun e w' => e = .returned (aggI .u64 rs) ∧ Below w.heap.size w w' := by
  obtain ⟨l0, p0, c0⟩ := crossed_c (LF.mi (LF.mi (LF.tm (LF.pl h.plane.y h.plane.x) (LF.pl h.plane.y h.plane.x)) (LF.tm h.x h.x)) (LF.tm h.y h.y)) (LF.mi (LF.mi (LF.tm h.y h.y) (LF.tm h.x h.x)) (LF.pl (LF.tm h.z h.z) (LF.tm h.z h.z))) (LF.mi (LF.tm h.y h.y) (LF.tm h.x h.x)) (LF.ng (LF.pl (LF.tm h.x h.x) (LF.tm h.y h.y)))
  exact ⟨_, p0, fun w => doubled_walk _ _ _ _ _ _ _ _ _ _ _ _ _ _ _ _ _ _ w (h).len (h.x).len ((LF.tm h.x h.x)).len (h.y).len ((LF.tm h.y h.y)).len (h.z).len ((LF.tm h.z h.z)).len ((LF.pl (LF.tm h.z h.z) (LF.tm h.z h.z))).len (h.plane).len ((LF.pl h.plane.y h.plane.x)).len ((LF.tm (LF.pl h.plane.y h.plane.x) (LF.pl h.plane.y h.plane.x))).len ((LF.mi (LF.tm (LF.pl h.plane.y h.plane.x) (LF.pl h.plane.y h.plane.x)) (LF.tm h.x h.x))).len ((LF.mi (LF.mi (LF.tm (LF.pl h.plane.y h.plane.x) (LF.pl h.plane.y h.plane.x)) (LF.tm h.x h.x)) (LF.tm h.y h.y))).len ((LF.mi (LF.tm h.y h.y) (LF.tm h.x h.x))).len ((LF.mi (LF.mi (LF.tm h.y h.y) (LF.tm h.x h.x)) (LF.pl (LF.tm h.z h.z) (LF.tm h.z h.z)))).len ((LF.pl (LF.tm h.x h.x) (LF.tm h.y h.y))).len ((LF.ng (LF.pl (LF.tm h.x h.x) (LF.tm h.y h.y)))).len (p0).len rfl rfl rfl rfl (times_c h.x h.x) (times_c h.y h.y) (times_c h.z h.z) (plus_c (LF.tm h.z h.z) (LF.tm h.z h.z)) (psum_c h.plane) (times_c (LF.pl h.plane.y h.plane.x) (LF.pl h.plane.y h.plane.x)) (minus_c (LF.tm (LF.pl h.plane.y h.plane.x) (LF.pl h.plane.y h.plane.x)) (LF.tm h.x h.x)) (minus_c (LF.mi (LF.tm (LF.pl h.plane.y h.plane.x) (LF.pl h.plane.y h.plane.x)) (LF.tm h.x h.x)) (LF.tm h.y h.y)) (minus_c (LF.tm h.y h.y) (LF.tm h.x h.x)) (minus_c (LF.mi (LF.tm h.y h.y) (LF.tm h.x h.x)) (LF.pl (LF.tm h.z h.z) (LF.tm h.z h.z))) (plus_c (LF.tm h.x h.x) (LF.tm h.y h.y)) (neg_c (LF.pl (LF.tm h.x h.x) (LF.tm h.y h.y))) (c0)⟩
theorem flat_c {ps : List Int} {X Y Z T : FF} (h : PoL ps X Y Z T) : ∃ rs, PlL rs (X * finv Z) (Y * finv Z) ∧ ∀ w, Calls Tryd.prog 40 #[aggI .u64 ps] w fun e w' => e = .returned (aggI .u64 rs) ∧ Below w.heap.size w w' := by
  exact ⟨_, (PlL.mk2 (LF.tm h.x (LF.iv h.z)) (LF.tm h.y (LF.iv h.z))), fun w => flat_walk _ _ _ _ _ _ _ _ w (h).len (h.z).len ((LF.iv h.z)).len (h.x).len ((LF.tm h.x (LF.iv h.z))).len (h.y).len ((LF.tm h.y (LF.iv h.z))).len ((PlL.mk2 (LF.tm h.x (LF.iv h.z)) (LF.tm h.y (LF.iv h.z)))).len rfl rfl rfl (built_plane (LF.tm h.x (LF.iv h.z)).len (LF.tm h.y (LF.iv h.z)).len) (inv_c h.z) (times_c h.x (LF.iv h.z)) (times_c h.y (LF.iv h.z))⟩
end Go.Proofs.YtelppapkffjmpaaDoor
end
section
namespace Go.Proofs.YtelppapkffjmpaaDoor
open Go.RowKit Go.Shelf
set_option linter.unusedVariables false
set_option maxRecDepth 8000

/-- These are a point's numbers, times some divisor. -/
def RepP (ps : List Int) (P : Pt) : Prop := ∃ Z : FF, Z ≠ 0 ∧ PoL ps (P.x * Z) (P.y * Z) Z (P.x * P.y * Z)
theorem RepP.len {ps : List Int} {P : Pt} (h : RepP ps P) : ps.length = 20 := by obtain ⟨Z, -, h⟩ := h; exact h.len
theorem two_ne : (2 : FF) ≠ 0 := by decide +kernel
theorem nz2 {a b : FF} (ha : a ≠ 0) (hb : b ≠ 0) : a * b ≠ 0 := fun h => (mulz h).elim ha hb
theorem with_x {x1 y1 x2 y2 d Z1 Z2 x3 : FF} (h : x3 * (1 + d*x1*x2*y1*y2) = x1*y2 + x2*y1) :
    ((y1*Z1 + x1*Z1) * (y2*Z2 + x2*Z2) - (y1*Z1 - x1*Z1) * (y2*Z2 - x2*Z2)) = x3 * ((Z1*Z2 + Z1*Z2) + (x1*y1*Z1 * (x2*y2*Z2) * d + x1*y1*Z1 * (x2*y2*Z2) * d)) := by
  have e : x3 * ((Z1*Z2 + Z1*Z2) + (x1*y1*Z1 * (x2*y2*Z2) * d + x1*y1*Z1 * (x2*y2*Z2) * d)) = (x3 * (1 + d*x1*x2*y1*y2)) * (2 * Z1 * Z2) := by grobner
  rw [e, h]; grobner
theorem with_y {x1 y1 x2 y2 d Z1 Z2 y3 : FF} (h : y3 * (1 - d*x1*x2*y1*y2) = y1*y2 + x1*x2) :
    ((y1*Z1 + x1*Z1) * (y2*Z2 + x2*Z2) + (y1*Z1 - x1*Z1) * (y2*Z2 - x2*Z2)) = y3 * ((Z1*Z2 + Z1*Z2) - (x1*y1*Z1 * (x2*y2*Z2) * d + x1*y1*Z1 * (x2*y2*Z2) * d)) := by
  have e : y3 * ((Z1*Z2 + Z1*Z2) - (x1*y1*Z1 * (x2*y2*Z2) * d + x1*y1*Z1 * (x2*y2*Z2) * d)) = (y3 * (1 - d*x1*x2*y1*y2)) * (2 * Z1 * Z2) := by grobner
  rw [e, h]; grobner
theorem with_g {x1 y1 x2 y2 Z1 Z2 : FF} (h1 : Z1 ≠ 0) (h2 : Z2 ≠ 0) (h : 1 + dF*x1*x2*y1*y2 ≠ 0) : (Z1*Z2 + Z1*Z2) + (x1*y1*Z1 * (x2*y2*Z2) * dF + x1*y1*Z1 * (x2*y2*Z2) * dF) ≠ 0 := by
  have e : (Z1*Z2 + Z1*Z2) + (x1*y1*Z1 * (x2*y2*Z2) * dF + x1*y1*Z1 * (x2*y2*Z2) * dF) = 2 * Z1 * Z2 * (1 + dF*x1*x2*y1*y2) := by grobner
  rw [e]; exact nz2 (nz2 (nz2 two_ne h1) h2) h
theorem with_f {x1 y1 x2 y2 Z1 Z2 : FF} (h1 : Z1 ≠ 0) (h2 : Z2 ≠ 0) (h : 1 - dF*x1*x2*y1*y2 ≠ 0) : (Z1*Z2 + Z1*Z2) - (x1*y1*Z1 * (x2*y2*Z2) * dF + x1*y1*Z1 * (x2*y2*Z2) * dF) ≠ 0 := by
  have e : (Z1*Z2 + Z1*Z2) - (x1*y1*Z1 * (x2*y2*Z2) * dF + x1*y1*Z1 * (x2*y2*Z2) * dF) = 2 * Z1 * Z2 * (1 - dF*x1*x2*y1*y2) := by grobner
  rw [e]; exact nz2 (nz2 (nz2 two_ne h1) h2) h
theorem RepP.of {ps : List Int} {P : Pt} {X Y Z T : FF} (h : PoL ps X Y Z T) (hz : Z ≠ 0) (hx : X = P.x * Z) (hy : Y = P.y * Z) (ht : T = P.x * P.y * Z) : RepP ps P := ⟨Z, hz, by rw [← hx, ← hy, ← ht]; exact h⟩
theorem with_r {ps qs : List Int} {P Q : Pt} (hp : RepP ps P) (hq : RepP qs Q) : ∃ rs, RepP rs (padd P Q) ∧ ∀ w, TabC w → Calls Tryd.prog 28 #[aggI .u64 ps, aggI .u64 qs] w fun e w' => e = .returned (aggI .u64 rs) ∧ Below w.heap.size w w' := by
  obtain ⟨Z1, h1, k1⟩ := hp
  obtain ⟨Z2, h2, k2⟩ := hq
  obtain ⟨rs, hr, hc⟩ := with_c k1 k2
  refine ⟨rs, ?_, hc⟩
  have hx := with_x (Z1 := Z1) (Z2 := Z2) (padd_x P Q)
  have hy := with_y (Z1 := Z1) (Z2 := Z2) (padd_y P Q)
  have hg := with_g h1 h2 (den1 P.on Q.on)
  have hf := with_f h1 h2 (den2 P.on Q.on)
  rw [hx, hy] at hr
  generalize (Z1*Z2 + Z1*Z2) + (P.x*P.y*Z1 * (Q.x*Q.y*Z2) * dF + P.x*P.y*Z1 * (Q.x*Q.y*Z2) * dF) = g at *
  generalize (Z1*Z2 + Z1*Z2) - (P.x*P.y*Z1 * (Q.x*Q.y*Z2) * dF + P.x*P.y*Z1 * (Q.x*Q.y*Z2) * dF) = f at *
  exact RepP.of hr (nz2 hf hg) (by grobner) (by grobner) (by grobner)
theorem dbl_on {P : Pt} : P.y*P.y - P.x*P.x = 1 + dF*P.x*P.x*P.y*P.y := by have h := P.on; unfold On at h; rw [h]; grobner
theorem doubled_r {ps : List Int} {P : Pt} (hp : RepP ps P) : ∃ rs, RepP rs (padd P P) ∧ ∀ w, Calls Tryd.prog 73 #[aggI .u64 ps] w fun e w' => e = .returned (aggI .u64 rs) ∧ Below w.heap.size w w' := by
  obtain ⟨Z, h1, k1⟩ := hp
  obtain ⟨rs, hr, hc⟩ := doubled_c k1
  refine ⟨rs, ?_, hc⟩
  have hx := padd_x P P
  have hy := padd_y P P
  have hg := den1 P.on P.on
  have hf := den2 P.on P.on
  have ho := dbl_on (P := P)
  have eg : (P.y*Z)*(P.y*Z) - (P.x*Z)*(P.x*Z) = Z*Z*(1 + dF*P.x*P.x*P.y*P.y) := by rw [← ho]; grobner
  have ef : Z*Z*(1 + dF*P.x*P.x*P.y*P.y) - (Z*Z + Z*Z) = -(Z*Z*(1 - dF*P.x*P.x*P.y*P.y)) := by grobner
  have es : (P.y*Z + P.x*Z)*(P.y*Z + P.x*Z) - (P.x*Z)*(P.x*Z) - (P.y*Z)*(P.y*Z) = Z*Z*(P.x*P.y + P.x*P.y) := by grobner
  have eh : -((P.x*Z)*(P.x*Z) + (P.y*Z)*(P.y*Z)) = -(Z*Z*(P.y*P.y + P.x*P.x)) := by grobner
  rw [eg, ef, es, eh, ← hx, ← hy] at hr
  generalize 1 + dF*P.x*P.x*P.y*P.y = g at *
  generalize 1 - dF*P.x*P.x*P.y*P.y = f at *
  have hz2 := nz2 h1 h1
  refine RepP.of hr ?_ (by clear hx hy eg ef es eh ho; grobner) (by clear hx hy eg ef es eh ho; grobner) (by clear hx hy eg ef es eh ho; grobner)
  intro h0
  have h00 : (Z*Z*f)*(Z*Z*g) = 0 := by clear hx hy eg ef es eh ho; grobner
  exact nz2 (nz2 hz2 hf) (nz2 hz2 hg) h00
theorem raised_r {ps : List Int} {P : Pt} (h : PlL ps P.x P.y) : ∃ rs, RepP rs P ∧ ∀ w, Calls Tryd.prog 34 #[aggI .u64 ps] w fun e w' => e = .returned (aggI .u64 rs) ∧ Below w.heap.size w w' := by
  obtain ⟨rs, hr, hc⟩ := raised_c h
  exact ⟨rs, RepP.of hr (by decide +kernel) (by grobner) (by grobner) (by grobner), hc⟩
theorem flat_r {ps : List Int} {P : Pt} (hp : RepP ps P) : ∃ rs, PlL rs P.x P.y ∧ ∀ w, Calls Tryd.prog 40 #[aggI .u64 ps] w fun e w' => e = .returned (aggI .u64 rs) ∧ Below w.heap.size w w' := by
  obtain ⟨Z, h1, k1⟩ := hp
  obtain ⟨rs, hr, hc⟩ := flat_c k1
  have hi := mul_finv h1
  refine ⟨rs, ?_, hc⟩
  have e1 : P.x * Z * finv Z = P.x := by generalize finv Z = f at *; grobner
  have e2 : P.y * Z * finv Z = P.y := by generalize finv Z = f at *; grobner
  rw [e1, e2] at hr
  exact hr
theorem RepP.plane {ps : List Int} {P : Pt} {Z T : FF} (h : PoL ps P.x P.y Z T) : PlL (sl ps 0 10) P.x P.y := h.plane
end Go.Proofs.YtelppapkffjmpaaDoor
end
