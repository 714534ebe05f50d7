/- Merged: Nothing; the reference's sum of points, walked. What nothing and the reference's sum of points are. The reference's Many: so many times a point. A point 0 to 15 times. Sums of several points' multiples, four bits at once. -/
import Derived.Test.YtelppapkffjmpaaDoorMI
import Derived.Test.YtelppapkffjmpaaDoorMF
import Derived.Test.YtelppapkffjmpaaDoorMA
section
namespace Go.Proofs.YtelppapkffjmpaaDoor
open Go.RowKit Go.Shelf
set_option linter.unusedVariables false
set_option maxRecDepth 8000

theorem info_pnt : (Tryd.prog.info? 50).map (·.size) = some 12 := by kernel_rfl
theorem zero_pnt : (Tryd.prog.info? 50).bind (·.zero) = some (.agg (Array.replicate 12 (Value.int .u64 0))) := by kernel_rfl
set_option maxHeartbeats 2000000 in
theorem nothing_walk (cr0 bu0 cr1 : List Int) (w : World) (l_cr0 : cr0.length = 5) (l_bu0 : bu0.length = 10) (l_cr1 : cr1.length = 20)
    (hbu0 : Tryd.prog.built 44 [(1, aggI .u64 cr0)] = some (bu0.map (Value.int .u64)).toArray)
    (H0 : ∀ W, Ret 63 #[.int .u32 1] (aggI .u64 cr0) W)
    (H1 : ∀ W, Ret 34 #[aggI .u64 bu0] (aggI .u64 cr1) W) :
    Calls Tryd.prog 72 #[] w fun e w' => e = .returned (aggI .u64 cr1) ∧ Below w.heap.size w w' := by
  go_enter Tryd.func72, Tryd.ntmps72
  go_wp2_with (first
      | (with_reducible refine at_n 0 ?_; refine wpList_allocI rfl 46 rfl .u64 20 zero_point ?_; intro w1 A0 s1 b1; have BB := b1; have y1 := BB.size)
      | (with_reducible refine at_n 2 ?_; go_loud (refine wpList_val' (fun R hR => Does.buildI rfl 44 _ rfl .u64 (bu0) _ (hbu0) rfl hR) ?_))
      | (with_reducible refine at_op (o := ⟨_, .store 46 (.tmp 0) _, _, _, _, _⟩) ?_; refine wpList_storeI rfl 46 _ _ rfl 20 info_point (w.heap.size) rfl .u64 _ (cr1) rfl (A0) (rfl) (l_cr1) ?_; intro D4; replace BB := Below.setRow BB (g := w.heap.size) (by omega) ((cr1).map (Value.int .u64)).toArray; clear A0; have A0 := D4)
      | (go_at_call 63; first | ((with_reducible refine (H0 _).mono ?_); rintro e w2 ⟨rfl, b2⟩; replace A0 := A0.below b2; replace BB := below_then BB b2; have z2 := BB.size))
      | (go_at_call 34; first | ((with_reducible refine (H1 _).mono ?_); rintro e w3 ⟨rfl, b3⟩; replace A0 := A0.below b3; replace BB := below_then BB b3; have z3 := BB.size)))
  refine bodyPost_ret (results_cellM rfl _ 20 _ Tryd.underlying46 rfl info_point (w.heap.size) rfl .u64 _ A0 (l_cr1)) rfl ?_
  exact ⟨rfl, BB⟩
set_option maxHeartbeats 2000000 in
theorem rD_walk (bu0 : List Int) (w : World) (l_bu0 : bu0.length = 4)
    (hbu0 : Tryd.prog.built 36 [(0, .int .u64 8496970652267935907), (1, .int .u64 31536524315187371), (2, .int .u64 10144147576115030168), (3, .int .u64 5909686906226998899)] = some (bu0.map (Value.int .u64)).toArray) :
    Calls Tryd.prog 59 #[] w fun e w' => e = .returned (aggI .u64 bu0) ∧ Below w.heap.size w w' := by
  go_enter Tryd.func59, Tryd.ntmps59
  go_wp2_with (first
      | (with_reducible refine at_n 0 ?_; refine wpList_allocI rfl 36 rfl .u64 4 zero_num ?_; intro w1 A0 s1 b1; have BB := b1; have y1 := BB.size)
      | (with_reducible refine at_n 1 ?_; go_loud (refine wpList_val' (fun R hR => Does.buildI rfl 36 _ rfl .u64 (bu0) _ (hbu0) rfl hR) ?_))
      | (with_reducible refine at_op (o := ⟨_, .store 36 (.tmp 0) _, _, _, _, _⟩) ?_; refine wpList_storeI rfl 36 _ _ rfl 4 info_num (w.heap.size) rfl .u64 _ (bu0) rfl (A0) (rfl) (l_bu0) ?_; intro D2; replace BB := Below.setRow BB (g := w.heap.size) (by omega) ((bu0).map (Value.int .u64)).toArray; clear A0; have A0 := D2))
  refine bodyPost_ret (results_cellM rfl _ 4 _ und_num rfl info_num (w.heap.size) rfl .u64 _ A0 (l_bu0)) rfl ?_
  exact ⟨rfl, BB⟩
set_option maxHeartbeats 2000000 in
theorem rzero_walk (bu0 bu1 : List Int) (w : World) (l_bu0 : bu0.length = 4) (l_bu1 : bu1.length = 12)
    (hbu0 : Tryd.prog.built 36 [(0, .int .u64 1)] = some (bu0.map (Value.int .u64)).toArray)
    (hbu1 : Tryd.prog.built 50 [(1, aggI .u64 bu0), (2, aggI .u64 bu0)] = some (bu1.map (Value.int .u64)).toArray) :
    Calls Tryd.prog 74 #[] w fun e w' => e = .returned (aggI .u64 bu1) ∧ Below w.heap.size w w' := by
  go_enter Tryd.func74, Tryd.ntmps74
  go_wp2_with (first
      | (with_reducible refine at_n 0 ?_; refine wpList_allocI rfl 50 rfl .u64 12 zero_pnt ?_; intro w1 A0 s1 b1; have BB := b1; have y1 := BB.size)
      | (with_reducible refine at_n 1 ?_; go_loud (refine wpList_val' (fun R hR => Does.buildI rfl 36 _ rfl .u64 (bu0) _ (hbu0) rfl hR) ?_))
      | (with_reducible refine at_n 2 ?_; go_loud (refine wpList_val' (fun R hR => Does.buildI rfl 36 _ rfl .u64 (bu0) _ (hbu0) rfl hR) ?_))
      | (with_reducible refine at_n 3 ?_; go_loud (refine wpList_val' (fun R hR => Does.buildI rfl 50 _ rfl .u64 (bu1) _ (hbu1) rfl hR) ?_))
      | (with_reducible refine at_op (o := ⟨_, .store 50 (.tmp 0) _, _, _, _, _⟩) ?_; refine wpList_storeI rfl 50 _ _ rfl 12 info_pnt (w.heap.size) rfl .u64 _ (bu1) rfl (A0) (rfl) (l_bu1) ?_; intro D2; replace BB := Below.setRow BB (g := w.heap.size) (by omega) ((bu1).map (Value.int .u64)).toArray; clear A0; have A0 := D2))
  refine bodyPost_ret (results_cellM rfl _ 12 _ Tryd.underlying50 rfl info_pnt (w.heap.size) rfl .u64 _ A0 (l_bu1)) rfl ?_
  exact ⟨rfl, BB⟩
set_option maxHeartbeats 2000000 in
theorem rfirst_walk (bu0 bu1 bu2 bu3 : List Int) (w : World) (l_bu0 : bu0.length = 4) (l_bu1 : bu1.length = 4) (l_bu2 : bu2.length = 4) (l_bu3 : bu3.length = 12)
    (hbu0 : Tryd.prog.built 36 [(0, .int .u64 14507833142362363162), (1, .int .u64 7578651490590762930), (2, .int .u64 13881468655802702940), (3, .int .u64 2407515759118799870)] = some (bu0.map (Value.int .u64)).toArray)
    (hbu1 : Tryd.prog.built 36 [(0, .int .u64 7378697629483820632), (1, .int .u64 7378697629483820646), (2, .int .u64 7378697629483820646), (3, .int .u64 7378697629483820646)] = some (bu1.map (Value.int .u64)).toArray)
    (hbu2 : Tryd.prog.built 36 [(0, .int .u64 1)] = some (bu2.map (Value.int .u64)).toArray)
    (hbu3 : Tryd.prog.built 50 [(0, aggI .u64 bu0), (1, aggI .u64 bu1), (2, aggI .u64 bu2)] = some (bu3.map (Value.int .u64)).toArray) :
    Calls Tryd.prog 42 #[] w fun e w' => e = .returned (aggI .u64 bu3) ∧ Below w.heap.size w w' := by
  go_enter Tryd.func42, Tryd.ntmps42
  go_wp2_with (first
      | (with_reducible refine at_n 0 ?_; refine wpList_allocI rfl 50 rfl .u64 12 zero_pnt ?_; intro w1 A0 s1 b1; have BB := b1; have y1 := BB.size)
      | (with_reducible refine at_n 1 ?_; go_loud (refine wpList_val' (fun R hR => Does.buildI rfl 36 _ rfl .u64 (bu0) _ (hbu0) rfl hR) ?_))
      | (with_reducible refine at_n 2 ?_; go_loud (refine wpList_val' (fun R hR => Does.buildI rfl 36 _ rfl .u64 (bu1) _ (hbu1) rfl hR) ?_))
      | (with_reducible refine at_n 3 ?_; go_loud (refine wpList_val' (fun R hR => Does.buildI rfl 36 _ rfl .u64 (bu2) _ (hbu2) rfl hR) ?_))
      | (with_reducible refine at_n 4 ?_; go_loud (refine wpList_val' (fun R hR => Does.buildI rfl 50 _ rfl .u64 (bu3) _ (hbu3) rfl hR) ?_))
      | (with_reducible refine at_op (o := ⟨_, .store 50 (.tmp 0) _, _, _, _, _⟩) ?_; refine wpList_storeI rfl 50 _ _ rfl 12 info_pnt (w.heap.size) rfl .u64 _ (bu3) rfl (A0) (rfl) (l_bu3) ?_; intro D2; replace BB := Below.setRow BB (g := w.heap.size) (by omega) ((bu3).map (Value.int .u64)).toArray; clear A0; have A0 := D2))
  refine bodyPost_ret (results_cellM rfl _ 12 _ Tryd.underlying50 rfl info_pnt (w.heap.size) rfl .u64 _ A0 (l_bu3)) rfl ?_
  exact ⟨rfl, BB⟩
set_option maxHeartbeats 8000000 in
theorem rsum_walk (ps qs ps_8_4 qs_8_4 cr0 cr1 ps_0_4 qs_0_4 cr2 ps_4_4 qs_4_4 cr3 cr4 cr5 cr6 cr7 cr8 cr9 cr10 cr11 cr12 cr13 cr14 cr15 cr16 cr17 bu0 : List Int) (w : World) (l_ps : ps.length = 12) (l_qs : qs.length = 12) (l_ps_8_4 : ps_8_4.length = 4) (l_qs_8_4 : qs_8_4.length = 4) (l_cr0 : cr0.length = 4) (l_cr1 : cr1.length = 4) (l_ps_0_4 : ps_0_4.length = 4) (l_qs_0_4 : qs_0_4.length = 4) (l_cr2 : cr2.length = 4) (l_ps_4_4 : ps_4_4.length = 4) (l_qs_4_4 : qs_4_4.length = 4) (l_cr3 : cr3.length = 4) (l_cr4 : cr4.length = 4) (l_cr5 : cr5.length = 4) (l_cr6 : cr6.length = 4) (l_cr7 : cr7.length = 4) (l_cr8 : cr8.length = 4) (l_cr9 : cr9.length = 4) (l_cr10 : cr10.length = 4) (l_cr11 : cr11.length = 4) (l_cr12 : cr12.length = 4) (l_cr13 : cr13.length = 4) (l_cr14 : cr14.length = 4) (l_cr15 : cr15.length = 4) (l_cr16 : cr16.length = 4) (l_cr17 : cr17.length = 4) (l_bu0 : bu0.length = 12)
  (h_ps_8_4 : sl ps 8 4 = ps_8_4)
  (h_qs_8_4 : sl qs 8 4 = qs_8_4)
  (h_ps_0_4 : sl ps 0 4 = ps_0_4)
  (h_qs_0_4 : sl qs 0 4 = qs_0_4)
  (h_ps_4_4 : sl ps 4 4 = ps_4_4)
  (h_qs_4_4 : sl qs 4 4 = qs_4_4)
  (hbu0 : Tryd.prog.built 50 [(0, aggI .u64 cr14), (1, aggI .u64 cr16), (2, aggI .u64 cr17)] = some (bu0.map (Value.int .u64)).toArray)
  (H0 : ∀ W, Ret 57 #[aggI .u64 ps_8_4, aggI .u64 qs_8_4] (aggI .u64 cr0) W)
  (H1 : ∀ W, Ret 57 #[aggI .u64 cr0, aggI .u64 cr0] (aggI .u64 cr1) W)
  (H2 : ∀ W, Ret 57 #[aggI .u64 ps_0_4, aggI .u64 qs_0_4] (aggI .u64 cr2) W)
  (H3 : ∀ W, Ret 57 #[aggI .u64 ps_4_4, aggI .u64 qs_4_4] (aggI .u64 cr3) W)
  (H4 : ∀ W, Ret 59 #[] (aggI .u64 cr4) W)
  (H5 : ∀ W, Ret 57 #[aggI .u64 cr2, aggI .u64 cr3] (aggI .u64 cr5) W)
  (H6 : ∀ W, Ret 57 #[aggI .u64 cr4, aggI .u64 cr5] (aggI .u64 cr6) W)
  (H7 : ∀ W, Ret 35 #[aggI .u64 cr1, aggI .u64 cr6] (aggI .u64 cr7) W)
  (H8 : ∀ W, Ret 58 #[aggI .u64 cr1, aggI .u64 cr6] (aggI .u64 cr8) W)
  (H9 : ∀ W, Ret 57 #[aggI .u64 ps_0_4, aggI .u64 qs_4_4] (aggI .u64 cr9) W)
  (H10 : ∀ W, Ret 57 #[aggI .u64 ps_4_4, aggI .u64 qs_0_4] (aggI .u64 cr10) W)
  (H11 : ∀ W, Ret 58 #[aggI .u64 cr9, aggI .u64 cr10] (aggI .u64 cr11) W)
  (H12 : ∀ W, Ret 58 #[aggI .u64 cr3, aggI .u64 cr2] (aggI .u64 cr12) W)
  (H13 : ∀ W, Ret 57 #[aggI .u64 cr0, aggI .u64 cr7] (aggI .u64 cr13) W)
  (H14 : ∀ W, Ret 57 #[aggI .u64 cr13, aggI .u64 cr11] (aggI .u64 cr14) W)
  (H15 : ∀ W, Ret 57 #[aggI .u64 cr0, aggI .u64 cr8] (aggI .u64 cr15) W)
  (H16 : ∀ W, Ret 57 #[aggI .u64 cr15, aggI .u64 cr12] (aggI .u64 cr16) W)
  (H17 : ∀ W, Ret 57 #[aggI .u64 cr7, aggI .u64 cr8] (aggI .u64 cr17) W) :
  Calls Tryd.prog 31 #[aggI .u64 ps, aggI .u64 qs] w fun e w' => e = .returned (aggI .u64 bu0) ∧ Below w.heap.size w w' := by
 go_enter Tryd.func31, Tryd.ntmps31
 go_wp2_with (first
   | (with_reducible refine at_n 2 ?_; refine wpList_boxI rfl 50 _ rfl .u64 ps rfl ?_; intro w1 A2 s1 b1; have BB := b1; have y1 := BB.size)
   | (with_reducible refine at_n 3 ?_; refine wpList_boxI rfl 50 _ rfl .u64 qs rfl ?_; intro w2 A3 s2 b2; have q2_2 := A2.lt; replace A2 := A2.below b2; replace BB := below_then BB b2; have y2 := BB.size)
   | (with_reducible refine at_n 4 ?_; refine wpList_allocI rfl 50 rfl .u64 12 zero_pnt ?_; intro w3 A4 s3 b3; have q3_2 := A2.lt; have q3_3 := A3.lt; replace A2 := A2.below b3; replace A3 := A3.below b3; replace BB := below_then BB b3; have y3 := BB.size)
   | (with_reducible refine at_n 14 ?_; refine wpList_val' (fun R hR => Does.fieldA rfl 50 _ 2 rfl (off := 8) (by kernel_rfl) (w.heap.size) 0 rfl (o1 := 8) rfl hR) ?_)
   | (with_reducible refine at_n 15 ?_; refine wpList_val' (fun R hR => Does.loadM rfl 36 _ rfl 4 _ und_num rfl info_num (w.heap.size) 8 rfl .u64 (ps) (A2) (by omega) (h_ps_8_4) hR) ?_)
   | (with_reducible refine at_n 16 ?_; refine wpList_val' (fun R hR => Does.fieldA rfl 50 _ 2 rfl (off := 8) (by kernel_rfl) (w1.heap.size) 0 rfl (o1 := 8) rfl hR) ?_)
   | (with_reducible refine at_n 17 ?_; refine wpList_val' (fun R hR => Does.loadM rfl 36 _ rfl 4 _ und_num rfl info_num (w1.heap.size) 8 rfl .u64 (qs) (A3) (by omega) (h_qs_8_4) hR) ?_)
   | (with_reducible refine at_n 5 ?_; refine wpList_allocI rfl 36 rfl .u64 4 zero_num ?_; intro w5 A5 s5 b5; have q5_2 := A2.lt; have q5_3 := A3.lt; have q5_4 := A4.lt; replace A2 := A2.below b5; replace A3 := A3.below b5; replace A4 := A4.below b5; replace BB := below_then BB b5; have y5 := BB.size)
   | (with_reducible refine at_op (o := ⟨_, .store 36 (.tmp 5) _, _, _, _, _⟩) ?_; refine wpList_storeI rfl 36 _ _ rfl 4 info_num (w4.heap.size) rfl .u64 _ (cr0) rfl (A5) (rfl) (l_cr0) ?_; intro D6; replace A2 := A2.rowOther (B' := w4.heap.size) (by omega) ((cr0).map (Value.int .u64)).toArray; replace A3 := A3.rowOther (B' := w4.heap.size) (by omega) ((cr0).map (Value.int .u64)).toArray; replace A4 := A4.rowOther (B' := w4.heap.size) (by omega) ((cr0).map (Value.int .u64)).toArray; replace BB := Below.setRow BB (g := w4.heap.size) (by omega) ((cr0).map (Value.int .u64)).toArray; clear A5; have A5 := D6)
   | (with_reducible refine at_n 19 ?_; refine wpList_val' (fun R hR => Does.loadM rfl 36 _ rfl 4 _ und_num rfl info_num (w4.heap.size) 0 rfl .u64 (cr0) (A5) (by omega) (sl_all l_cr0) hR) ?_)
   | (with_reducible refine at_n 20 ?_; refine wpList_val' (fun R hR => Does.loadM rfl 36 _ rfl 4 _ und_num rfl info_num (w4.heap.size) 0 rfl .u64 (cr0) (A5) (by omega) (sl_all l_cr0) hR) ?_)
   | (with_reducible refine at_n 6 ?_; refine wpList_allocI rfl 36 rfl .u64 4 zero_num ?_; intro w8 A6 s8 b8; have q8_2 := A2.lt; have q8_3 := A3.lt; have q8_4 := A4.lt; have q8_5 := A5.lt; replace A2 := A2.below b8; replace A3 := A3.below b8; replace A4 := A4.below b8; replace A5 := A5.below b8; replace BB := below_then BB b8; have y8 := BB.size)
   | (with_reducible refine at_op (o := ⟨_, .store 36 (.tmp 6) _, _, _, _, _⟩) ?_; refine wpList_storeI rfl 36 _ _ rfl 4 info_num (w7.heap.size) rfl .u64 _ (cr1) rfl (A6) (rfl) (l_cr1) ?_; intro D9; replace A2 := A2.rowOther (B' := w7.heap.size) (by omega) ((cr1).map (Value.int .u64)).toArray; replace A3 := A3.rowOther (B' := w7.heap.size) (by omega) ((cr1).map (Value.int .u64)).toArray; replace A4 := A4.rowOther (B' := w7.heap.size) (by omega) ((cr1).map (Value.int .u64)).toArray; replace A5 := A5.rowOther (B' := w7.heap.size) (by omega) ((cr1).map (Value.int .u64)).toArray; replace BB := Below.setRow BB (g := w7.heap.size) (by omega) ((cr1).map (Value.int .u64)).toArray; clear A6; have A6 := D9)
   | (with_reducible refine at_n 22 ?_; refine wpList_val' (fun R hR => Does.fieldA rfl 50 _ 0 rfl (off := 0) (by kernel_rfl) (w.heap.size) 0 rfl (o1 := 0) rfl hR) ?_)
   | (with_reducible refine at_n 23 ?_; refine wpList_val' (fun R hR => Does.loadM rfl 36 _ rfl 4 _ und_num rfl info_num (w.heap.size) 0 rfl .u64 (ps) (A2) (by omega) (h_ps_0_4) hR) ?_)
   | (with_reducible refine at_n 24 ?_; refine wpList_val' (fun R hR => Does.fieldA rfl 50 _ 0 rfl (off := 0) (by kernel_rfl) (w1.heap.size) 0 rfl (o1 := 0) rfl hR) ?_)
   | (with_reducible refine at_n 25 ?_; refine wpList_val' (fun R hR => Does.loadM rfl 36 _ rfl 4 _ und_num rfl info_num (w1.heap.size) 0 rfl .u64 (qs) (A3) (by omega) (h_qs_0_4) hR) ?_)
   | (with_reducible refine at_n 7 ?_; refine wpList_allocI rfl 36 rfl .u64 4 zero_num ?_; intro w11 A7 s11 b11; have q11_2 := A2.lt; have q11_3 := A3.lt; have q11_4 := A4.lt; have q11_5 := A5.lt; have q11_6 := A6.lt; replace A2 := A2.below b11; replace A3 := A3.below b11; replace A4 := A4.below b11; replace A5 := A5.below b11; replace A6 := A6.below b11; replace BB := below_then BB b11; have y11 := BB.size)
   | (with_reducible refine at_op (o := ⟨_, .store 36 (.tmp 7) _, _, _, _, _⟩) ?_; refine wpList_storeI rfl 36 _ _ rfl 4 info_num (w10.heap.size) rfl .u64 _ (cr2) rfl (A7) (rfl) (l_cr2) ?_; intro D12; replace A2 := A2.rowOther (B' := w10.heap.size) (by omega) ((cr2).map (Value.int .u64)).toArray; replace A3 := A3.rowOther (B' := w10.heap.size) (by omega) ((cr2).map (Value.int .u64)).toArray; replace A4 := A4.rowOther (B' := w10.heap.size) (by omega) ((cr2).map (Value.int .u64)).toArray; replace A5 := A5.rowOther (B' := w10.heap.size) (by omega) ((cr2).map (Value.int .u64)).toArray; replace A6 := A6.rowOther (B' := w10.heap.size) (by omega) ((cr2).map (Value.int .u64)).toArray; replace BB := Below.setRow BB (g := w10.heap.size) (by omega) ((cr2).map (Value.int .u64)).toArray; clear A7; have A7 := D12)
   | (with_reducible refine at_n 27 ?_; refine wpList_val' (fun R hR => Does.fieldA rfl 50 _ 1 rfl (off := 4) (by kernel_rfl) (w.heap.size) 0 rfl (o1 := 4) rfl hR) ?_)
   | (with_reducible refine at_n 28 ?_; refine wpList_val' (fun R hR => Does.loadM rfl 36 _ rfl 4 _ und_num rfl info_num (w.heap.size) 4 rfl .u64 (ps) (A2) (by omega) (h_ps_4_4) hR) ?_)
   | (with_reducible refine at_n 29 ?_; refine wpList_val' (fun R hR => Does.fieldA rfl 50 _ 1 rfl (off := 4) (by kernel_rfl) (w1.heap.size) 0 rfl (o1 := 4) rfl hR) ?_)
   | (with_reducible refine at_n 30 ?_; refine wpList_val' (fun R hR => Does.loadM rfl 36 _ rfl 4 _ und_num rfl info_num (w1.heap.size) 4 rfl .u64 (qs) (A3) (by omega) (h_qs_4_4) hR) ?_)
   | (with_reducible refine at_n 8 ?_; refine wpList_allocI rfl 36 rfl .u64 4 zero_num ?_; intro w14 A8 s14 b14; have q14_2 := A2.lt; have q14_3 := A3.lt; have q14_4 := A4.lt; have q14_5 := A5.lt; have q14_6 := A6.lt; have q14_7 := A7.lt; replace A2 := A2.below b14; replace A3 := A3.below b14; replace A4 := A4.below b14; replace A5 := A5.below b14; replace A6 := A6.below b14; replace A7 := A7.below b14; replace BB := below_then BB b14; have y14 := BB.size)
   | (with_reducible refine at_op (o := ⟨_, .store 36 (.tmp 8) _, _, _, _, _⟩) ?_; refine wpList_storeI rfl 36 _ _ rfl 4 info_num (w13.heap.size) rfl .u64 _ (cr3) rfl (A8) (rfl) (l_cr3) ?_; intro D15; replace A2 := A2.rowOther (B' := w13.heap.size) (by omega) ((cr3).map (Value.int .u64)).toArray; replace A3 := A3.rowOther (B' := w13.heap.size) (by omega) ((cr3).map (Value.int .u64)).toArray; replace A4 := A4.rowOther (B' := w13.heap.size) (by omega) ((cr3).map (Value.int .u64)).toArray; replace A5 := A5.rowOther (B' := w13.heap.size) (by omega) ((cr3).map (Value.int .u64)).toArray; replace A6 := A6.rowOther (B' := w13.heap.size) (by omega) ((cr3).map (Value.int .u64)).toArray; replace A7 := A7.rowOther (B' := w13.heap.size) (by omega) ((cr3).map (Value.int .u64)).toArray; replace BB := Below.setRow BB (g := w13.heap.size) (by omega) ((cr3).map (Value.int .u64)).toArray; clear A8; have A8 := D15)
   | (go_at_call 57; first | ((with_reducible refine (H0 _).mono ?_); rintro e w4 ⟨rfl, b4⟩; replace A2 := A2.below b4; replace A3 := A3.below b4; replace A4 := A4.below b4; replace BB := below_then BB b4; have z4 := BB.size) | ((with_reducible refine (H1 _).mono ?_); rintro e w7 ⟨rfl, b7⟩; replace A2 := A2.below b7; replace A3 := A3.below b7; replace A4 := A4.below b7; replace A5 := A5.below b7; replace BB := below_then BB b7; have z7 := BB.size) | ((with_reducible refine (H2 _).mono ?_); rintro e w10 ⟨rfl, b10⟩; replace A2 := A2.below b10; replace A3 := A3.below b10; replace A4 := A4.below b10; replace A5 := A5.below b10; replace A6 := A6.below b10; replace BB := below_then BB b10; have z10 := BB.size) | ((with_reducible refine (H3 _).mono ?_); rintro e w13 ⟨rfl, b13⟩; replace A2 := A2.below b13; replace A3 := A3.below b13; replace A4 := A4.below b13; replace A5 := A5.below b13; replace A6 := A6.below b13; replace A7 := A7.below b13; replace BB := below_then BB b13; have z13 := BB.size)))
 refine wp_world fun Wc16 hWc => ?_
 rw [← hWc] at BB A2 A3 A4 A5 A6 A7 A8
 clear hWc
 have k16_0 := A2.lt
 have k16_1 := A3.lt
 have k16_2 := A4.lt
 have k16_3 := A5.lt
 have k16_4 := A6.lt
 have k16_5 := A7.lt
 have k16_6 := A8.lt
 refine wp_region_new [[], [], [], [1, 2, 0], [0, 3, 3], [], [5, 4, 4, 0, 1, 2, 3, 4, 5]] [some 32, some 33, some 34, some 35, some 36, some 9, none] (Wc16.heap.size) [⟨5, 6, .u64, 4, cr6⟩] (fun w' => Arr .u64 w' (w.heap.size) ps ∧ Arr .u64 w' (w1.heap.size) qs ∧ Arr .u64 w' (w2.heap.size) (List.replicate 12 0) ∧ Arr .u64 w' (w4.heap.size) cr0 ∧ Arr .u64 w' (w7.heap.size) cr1 ∧ Arr .u64 w' (w10.heap.size) cr2 ∧ Arr .u64 w' (w13.heap.size) cr3 ∧ Below Wc16.heap.size Wc16 w') (fun opn f _ => match opn with | 0 => f 0 = aggI .u64 cr4 | 1 => f 1 = aggI .u64 cr2 | 2 => f 2 = aggI .u64 cr3 | 3 => f 3 = aggI .u64 cr5 | 4 => f 4 = aggI .u64 cr6 | _ => True) (by kernel_rfl) (by kernel_rfl) (by kernel_rfl) (by kernel_rfl) rfl (by intro it h it' h' e; simp only [List.mem_cons, List.not_mem_nil, or_false] at h h'; rcases h with rfl <;> rcases h' with rfl <;> first | rfl | (simp at e)) (fun v v' hb h => ⟨h.1.below hb, h.2.1.below hb, h.2.2.1.below hb, h.2.2.2.1.below hb, h.2.2.2.2.1.below hb, h.2.2.2.2.2.1.below hb, h.2.2.2.2.2.2.1.below hb, below_then h.2.2.2.2.2.2.2 hb⟩) (fun v h => h.2.2.2.2.2.2.2.size) (fun v B cs hB h => ⟨h.1.rowOther (by omega) _, h.2.1.rowOther (by omega) _, h.2.2.1.rowOther (by omega) _, h.2.2.2.1.rowOther (by omega) _, h.2.2.2.2.1.rowOther (by omega) _, h.2.2.2.2.2.1.rowOther (by omega) _, h.2.2.2.2.2.2.1.rowOther (by omega) _, Below.setRow h.2.2.2.2.2.2.2 (by omega) _⟩) (fun _ _ _ _ h => h) ⟨A2.drew, A3.drew, A4.drew, A5.drew, A6.drew, A7.drew, A8.drew, (Below.refl _ _).drew⟩ ?_ (by intro it h; simp only [List.mem_cons, List.not_mem_nil, or_false] at h; rcases h with rfl <;> exact ⟨by simp, by simp⟩) ?_
 ·
  refine StepN.plain rfl (fun f W hG hH => ?_) ?_
  ·
   clear hH
   generalize hA : putL _ _ _ _ = A
   clear hA
   refine Does.call rfl _ _ (by go_simp) ((H4 W).mono ?_)
   rintro e w' ⟨rfl, hb'⟩
   exact ⟨_, rfl, hb', rfl⟩
  refine StepN.plain rfl (fun f W hG hH => ?_) ?_
  ·
   clear hH
   generalize hA : putL _ _ _ _ = A
   have q7 : A.eval (.tmp 7) = .pointer (some ⟨w10.heap.size, 0, none⟩) := putLn hA 7 rfl rfl rfl
   clear hA
   exact Does.loadM rfl 36 _ rfl 4 _ und_num rfl info_num (w10.heap.size) 0 q7 .u64 (cr2) (hG.2.2.2.2.2.1) (by omega) (sl_all l_cr2) ⟨Below.refl _ _, rfl⟩
  refine StepN.plain rfl (fun f W hG hH => ?_) ?_
  ·
   clear hH
   generalize hA : putL _ _ _ _ = A
   have q8 : A.eval (.tmp 8) = .pointer (some ⟨w13.heap.size, 0, none⟩) := putLn hA 8 rfl rfl rfl
   clear hA
   exact Does.loadM rfl 36 _ rfl 4 _ und_num rfl info_num (w13.heap.size) 0 q8 .u64 (cr3) (hG.2.2.2.2.2.2.1) (by omega) (sl_all l_cr3) ⟨Below.refl _ _, rfl⟩
  refine StepN.plain rfl (fun f W hG hH => ?_) ?_
  ·
   obtain ⟨d1, d2, d0, -⟩ := hH
   generalize hA : putL _ _ _ _ = A
   have q33 := putLl hA 33 d1 rfl rfl
   have r33 := slot_get q33
   have q34 := putLl hA 34 d2 rfl rfl
   have r34 := slot_get q34
   clear hA
   refine Does.call rfl _ _ (by go_simp) ((H5 W).mono ?_)
   rintro e w' ⟨rfl, hb'⟩
   exact ⟨_, rfl, hb', rfl⟩
  refine StepN.plain rfl (fun f W hG hH => ?_) ?_
  ·
   obtain ⟨d0, d3, -, -⟩ := hH
   generalize hA : putL _ _ _ _ = A
   have q32 := putLl hA 32 d0 rfl rfl
   have r32 := slot_get q32
   have q35 := putLl hA 35 d3 rfl rfl
   have r35 := slot_get q35
   clear hA
   refine Does.call rfl _ _ (by go_simp) ((H6 W).mono ?_)
   rintro e w' ⟨rfl, hb'⟩
   exact ⟨_, rfl, hb', rfl⟩
  refine StepN.alloc rfl (fun _ _ => trivial) (fun A W => ?_) ?_
  ·
   refine Does.allocI rfl 36 rfl .u64 4 zero_num ?_
   intro W1 D1 s1 b1'
   exact ⟨b1', rfl, D1⟩
  refine StepN.store rfl (fun _ _ => trivial) (fun f W B hG hH hB hZ => ?_) ?_
  ·
   obtain ⟨-, d4, -, d0, d1, d2, d3, -, -, -⟩ := hH
   generalize hA : putL _ _ _ _ = A
   have q9 : A.eval (.tmp 9) = f 5 := putLl hA 9 rfl rfl rfl
   have r9 := slot_get q9
   have q36 := putLl hA 36 d4 rfl rfl
   have r36 := slot_get q36
   clear hA
   have hB : f 5 = .pointer (some ⟨B, 0, none⟩) := hB
   rw [hB] at q9
   refine Does.storeI rfl 36 _ _ rfl 4 info_num B q9 .u64 _ (cr6) q36 hZ (by rfl) (l_cr6) ?_
   intro A9
   exact ⟨rfl, A9⟩
  exact trivial
 ·
  intro f V16 hG hH hN
  obtain ⟨d0, d1, d2, d3, d4, -, -, -⟩ : (f 0 = aggI .u64 cr4) ∧ (f 1 = aggI .u64 cr2) ∧ (f 2 = aggI .u64 cr3) ∧ (f 3 = aggI .u64 cr5) ∧ (f 4 = aggI .u64 cr6) ∧ (True) ∧ (True) ∧ True := hH
  rw [show List.range (List.length [[], [], [], [1, 2, 0], [0, 3, 3], [], [5, 4, 4, 0, 1, 2, 3, 4, 5]]) = [0, 1, 2, 3, 4, 5, 6] from rfl]
  obtain ⟨loc, hn1, hn2⟩ := hN
  obtain ⟨hN0, kN0, A9⟩ : f 5 = .pointer (some ⟨loc 5, 0, none⟩) ∧ Wc16.heap.size ≤ loc 5 ∧ Arr .u64 V16 (loc 5) cr6 := hn1 ⟨5, 6, .u64, 4, cr6⟩ (by simp) rfl
  clear hn1 hn2
  generalize loc 5 = N16_0 at *
  simp only [putL, List.getElem?_cons_zero, List.getElem?_cons_succ, Option.join, Option.bind_some, id_eq, Act.put, List.setIfInBounds_toArray, List.set_cons_zero, List.set_cons_succ, d0, d1, d2, d3, d4, hN0]
  clear d0 d1 d2 d3 d4 hN0
  clear A2 A3 A4 A5 A6 A7 A8
  obtain ⟨A2, A3, A4, A5, A6, A7, A8, BV⟩ := hG
  replace BB := below_then BB BV
  clear BV
  have zz16 := BB.size
  go_wp2_with (first
    | (with_reducible refine at_n 37 ?_; refine wpList_val' (fun R hR => Does.loadM rfl 36 _ rfl 4 _ und_num rfl info_num (w7.heap.size) 0 rfl .u64 (cr1) (A6) (by omega) (sl_all l_cr1) hR) ?_)
    | (with_reducible refine at_n 38 ?_; refine wpList_val' (fun R hR => Does.loadM rfl 36 _ rfl 4 _ und_num rfl info_num (N16_0) 0 rfl .u64 (cr6) (A9) (by omega) (sl_all l_cr6) hR) ?_)
    | (with_reducible refine at_n 10 ?_; refine wpList_allocI rfl 36 rfl .u64 4 zero_num ?_; intro w18 A10 s18 b18; have q18_2 := A2.lt; have q18_3 := A3.lt; have q18_4 := A4.lt; have q18_5 := A5.lt; have q18_6 := A6.lt; have q18_7 := A7.lt; have q18_8 := A8.lt; have q18_9 := A9.lt; replace A2 := A2.below b18; replace A3 := A3.below b18; replace A4 := A4.below b18; replace A5 := A5.below b18; replace A6 := A6.below b18; replace A7 := A7.below b18; replace A8 := A8.below b18; replace A9 := A9.below b18; replace BB := below_then BB b18; have y18 := BB.size)
    | (with_reducible refine at_op (o := ⟨_, .store 36 (.tmp 10) _, _, _, _, _⟩) ?_; refine wpList_storeI rfl 36 _ _ rfl 4 info_num (w17.heap.size) rfl .u64 _ (cr7) rfl (A10) (rfl) (l_cr7) ?_; intro D19; replace A2 := A2.rowOther (B' := w17.heap.size) (by omega) ((cr7).map (Value.int .u64)).toArray; replace A3 := A3.rowOther (B' := w17.heap.size) (by omega) ((cr7).map (Value.int .u64)).toArray; replace A4 := A4.rowOther (B' := w17.heap.size) (by omega) ((cr7).map (Value.int .u64)).toArray; replace A5 := A5.rowOther (B' := w17.heap.size) (by omega) ((cr7).map (Value.int .u64)).toArray; replace A6 := A6.rowOther (B' := w17.heap.size) (by omega) ((cr7).map (Value.int .u64)).toArray; replace A7 := A7.rowOther (B' := w17.heap.size) (by omega) ((cr7).map (Value.int .u64)).toArray; replace A8 := A8.rowOther (B' := w17.heap.size) (by omega) ((cr7).map (Value.int .u64)).toArray; replace A9 := A9.rowOther (B' := w17.heap.size) (by omega) ((cr7).map (Value.int .u64)).toArray; replace BB := Below.setRow BB (g := w17.heap.size) (by omega) ((cr7).map (Value.int .u64)).toArray; clear A10; have A10 := D19)
    | (with_reducible refine at_n 40 ?_; refine wpList_val' (fun R hR => Does.loadM rfl 36 _ rfl 4 _ und_num rfl info_num (w7.heap.size) 0 rfl .u64 (cr1) (A6) (by omega) (sl_all l_cr1) hR) ?_)
    | (with_reducible refine at_n 41 ?_; refine wpList_val' (fun R hR => Does.loadM rfl 36 _ rfl 4 _ und_num rfl info_num (N16_0) 0 rfl .u64 (cr6) (A9) (by omega) (sl_all l_cr6) hR) ?_)
    | (with_reducible refine at_n 11 ?_; refine wpList_allocI rfl 36 rfl .u64 4 zero_num ?_; intro w21 A11 s21 b21; have q21_2 := A2.lt; have q21_3 := A3.lt; have q21_4 := A4.lt; have q21_5 := A5.lt; have q21_6 := A6.lt; have q21_7 := A7.lt; have q21_8 := A8.lt; have q21_9 := A9.lt; have q21_10 := A10.lt; replace A2 := A2.below b21; replace A3 := A3.below b21; replace A4 := A4.below b21; replace A5 := A5.below b21; replace A6 := A6.below b21; replace A7 := A7.below b21; replace A8 := A8.below b21; replace A9 := A9.below b21; replace A10 := A10.below b21; replace BB := below_then BB b21; have y21 := BB.size)
    | (with_reducible refine at_op (o := ⟨_, .store 36 (.tmp 11) _, _, _, _, _⟩) ?_; refine wpList_storeI rfl 36 _ _ rfl 4 info_num (w20.heap.size) rfl .u64 _ (cr8) rfl (A11) (rfl) (l_cr8) ?_; intro D22; replace A2 := A2.rowOther (B' := w20.heap.size) (by omega) ((cr8).map (Value.int .u64)).toArray; replace A3 := A3.rowOther (B' := w20.heap.size) (by omega) ((cr8).map (Value.int .u64)).toArray; replace A4 := A4.rowOther (B' := w20.heap.size) (by omega) ((cr8).map (Value.int .u64)).toArray; replace A5 := A5.rowOther (B' := w20.heap.size) (by omega) ((cr8).map (Value.int .u64)).toArray; replace A6 := A6.rowOther (B' := w20.heap.size) (by omega) ((cr8).map (Value.int .u64)).toArray; replace A7 := A7.rowOther (B' := w20.heap.size) (by omega) ((cr8).map (Value.int .u64)).toArray; replace A8 := A8.rowOther (B' := w20.heap.size) (by omega) ((cr8).map (Value.int .u64)).toArray; replace A9 := A9.rowOther (B' := w20.heap.size) (by omega) ((cr8).map (Value.int .u64)).toArray; replace A10 := A10.rowOther (B' := w20.heap.size) (by omega) ((cr8).map (Value.int .u64)).toArray; replace BB := Below.setRow BB (g := w20.heap.size) (by omega) ((cr8).map (Value.int .u64)).toArray; clear A11; have A11 := D22)
    | (go_at_call 35; first | ((with_reducible refine (H7 _).mono ?_); rintro e w17 ⟨rfl, b17⟩; replace A2 := A2.below b17; replace A3 := A3.below b17; replace A4 := A4.below b17; replace A5 := A5.below b17; replace A6 := A6.below b17; replace A7 := A7.below b17; replace A8 := A8.below b17; replace A9 := A9.below b17; replace BB := below_then BB b17; have z17 := BB.size))
    | (go_at_call 58; first | ((with_reducible refine (H8 _).mono ?_); rintro e w20 ⟨rfl, b20⟩; replace A2 := A2.below b20; replace A3 := A3.below b20; replace A4 := A4.below b20; replace A5 := A5.below b20; replace A6 := A6.below b20; replace A7 := A7.below b20; replace A8 := A8.below b20; replace A9 := A9.below b20; replace A10 := A10.below b20; replace BB := below_then BB b20; have z20 := BB.size)))
  refine wp_world fun Wc23 hWc => ?_
  rw [← hWc] at BB A2 A3 A4 A5 A6 A7 A8 A9 A10 A11
  clear hWc
  have k23_0 := A2.lt
  have k23_1 := A3.lt
  have k23_2 := A4.lt
  have k23_3 := A5.lt
  have k23_4 := A6.lt
  have k23_5 := A7.lt
  have k23_6 := A8.lt
  have k23_7 := A9.lt
  have k23_8 := A10.lt
  have k23_9 := A11.lt
  refine wp_region_new [[], [0], [], [2], [1, 3], [], [5], [], [7], [6, 8, 4], [4, 9, 9], [], [11, 10, 10, 0, 1, 2, 3, 4, 5, 6, 7, 8, 9, 10, 11]] [some 43, some 44, some 45, some 46, some 47, some 48, some 49, some 50, some 51, some 52, some 53, some 12, none] (Wc23.heap.size) [⟨11, 12, .u64, 4, cr11⟩] (fun w' => Arr .u64 w' (w.heap.size) ps ∧ Arr .u64 w' (w1.heap.size) qs ∧ Arr .u64 w' (w2.heap.size) (List.replicate 12 0) ∧ Arr .u64 w' (w4.heap.size) cr0 ∧ Arr .u64 w' (w7.heap.size) cr1 ∧ Arr .u64 w' (w10.heap.size) cr2 ∧ Arr .u64 w' (w13.heap.size) cr3 ∧ Arr .u64 w' (N16_0) cr6 ∧ Arr .u64 w' (w17.heap.size) cr7 ∧ Arr .u64 w' (w20.heap.size) cr8 ∧ Below Wc23.heap.size Wc23 w') (fun opn f _ => match opn with | 0 => f 0 = .pointer (some ⟨w.heap.size, 0, none⟩) | 1 => f 1 = aggI .u64 ps_0_4 | 2 => f 2 = .pointer (some ⟨w1.heap.size, 4, none⟩) | 3 => f 3 = aggI .u64 qs_4_4 | 4 => f 4 = aggI .u64 cr9 | 5 => f 5 = .pointer (some ⟨w.heap.size, 4, none⟩) | 6 => f 6 = aggI .u64 ps_4_4 | 7 => f 7 = .pointer (some ⟨w1.heap.size, 0, none⟩) | 8 => f 8 = aggI .u64 qs_0_4 | 9 => f 9 = aggI .u64 cr10 | 10 => f 10 = aggI .u64 cr11 | _ => True) (by kernel_rfl) (by kernel_rfl) (by kernel_rfl) (by kernel_rfl) rfl (by intro it h it' h' e; simp only [List.mem_cons, List.not_mem_nil, or_false] at h h'; rcases h with rfl <;> rcases h' with rfl <;> first | rfl | (simp at e)) (fun v v' hb h => ⟨h.1.below hb, h.2.1.below hb, h.2.2.1.below hb, h.2.2.2.1.below hb, h.2.2.2.2.1.below hb, h.2.2.2.2.2.1.below hb, h.2.2.2.2.2.2.1.below hb, h.2.2.2.2.2.2.2.1.below hb, h.2.2.2.2.2.2.2.2.1.below hb, h.2.2.2.2.2.2.2.2.2.1.below hb, below_then h.2.2.2.2.2.2.2.2.2.2 hb⟩) (fun v h => h.2.2.2.2.2.2.2.2.2.2.size) (fun v B cs hB h => ⟨h.1.rowOther (by omega) _, h.2.1.rowOther (by omega) _, h.2.2.1.rowOther (by omega) _, h.2.2.2.1.rowOther (by omega) _, h.2.2.2.2.1.rowOther (by omega) _, h.2.2.2.2.2.1.rowOther (by omega) _, h.2.2.2.2.2.2.1.rowOther (by omega) _, h.2.2.2.2.2.2.2.1.rowOther (by omega) _, h.2.2.2.2.2.2.2.2.1.rowOther (by omega) _, h.2.2.2.2.2.2.2.2.2.1.rowOther (by omega) _, Below.setRow h.2.2.2.2.2.2.2.2.2.2 (by omega) _⟩) (fun _ _ _ _ h => h) ⟨A2.drew, A3.drew, A4.drew, A5.drew, A6.drew, A7.drew, A8.drew, A9.drew, A10.drew, A11.drew, (Below.refl _ _).drew⟩ ?_ (by intro it h; simp only [List.mem_cons, List.not_mem_nil, or_false] at h; rcases h with rfl <;> exact ⟨by simp, by simp⟩) ?_
  ·
   refine StepN.plain rfl (fun f W hG hH => ?_) ?_
   ·
    clear hH
    generalize hA : putL _ _ _ _ = A
    have q2 : A.eval (.tmp 2) = .pointer (some ⟨w.heap.size, 0, none⟩) := putLn hA 2 rfl rfl rfl
    clear hA
    exact Does.fieldA rfl 50 _ 0 rfl (off := 0) (by kernel_rfl) (w.heap.size) 0 q2 (o1 := 0) rfl ⟨Below.refl _ _, rfl⟩
   refine StepN.plain rfl (fun f W hG hH => ?_) ?_
   ·
    obtain ⟨d0, -⟩ := hH
    generalize hA : putL _ _ _ _ = A
    have q43 := putLl hA 43 d0 rfl rfl
    clear hA
    exact Does.loadM rfl 36 _ rfl 4 _ und_num rfl info_num (w.heap.size) 0 q43 .u64 (ps) (hG.1) (by omega) (h_ps_0_4) ⟨Below.refl _ _, rfl⟩
   refine StepN.plain rfl (fun f W hG hH => ?_) ?_
   ·
    clear hH
    generalize hA : putL _ _ _ _ = A
    have q3 : A.eval (.tmp 3) = .pointer (some ⟨w1.heap.size, 0, none⟩) := putLn hA 3 rfl rfl rfl
    clear hA
    exact Does.fieldA rfl 50 _ 1 rfl (off := 4) (by kernel_rfl) (w1.heap.size) 0 q3 (o1 := 4) rfl ⟨Below.refl _ _, rfl⟩
   refine StepN.plain rfl (fun f W hG hH => ?_) ?_
   ·
    obtain ⟨d2, -⟩ := hH
    generalize hA : putL _ _ _ _ = A
    have q45 := putLl hA 45 d2 rfl rfl
    clear hA
    exact Does.loadM rfl 36 _ rfl 4 _ und_num rfl info_num (w1.heap.size) 4 q45 .u64 (qs) (hG.2.1) (by omega) (h_qs_4_4) ⟨Below.refl _ _, rfl⟩
   refine StepN.plain rfl (fun f W hG hH => ?_) ?_
   ·
    obtain ⟨d1, d3, -⟩ := hH
    generalize hA : putL _ _ _ _ = A
    have q44 := putLl hA 44 d1 rfl rfl
    have r44 := slot_get q44
    have q46 := putLl hA 46 d3 rfl rfl
    have r46 := slot_get q46
    clear hA
    refine Does.call rfl _ _ (by go_simp) ((H9 W).mono ?_)
    rintro e w' ⟨rfl, hb'⟩
    exact ⟨_, rfl, hb', rfl⟩
   refine StepN.plain rfl (fun f W hG hH => ?_) ?_
   ·
    clear hH
    generalize hA : putL _ _ _ _ = A
    have q2 : A.eval (.tmp 2) = .pointer (some ⟨w.heap.size, 0, none⟩) := putLn hA 2 rfl rfl rfl
    clear hA
    exact Does.fieldA rfl 50 _ 1 rfl (off := 4) (by kernel_rfl) (w.heap.size) 0 q2 (o1 := 4) rfl ⟨Below.refl _ _, rfl⟩
   refine StepN.plain rfl (fun f W hG hH => ?_) ?_
   ·
    obtain ⟨d5, -⟩ := hH
    generalize hA : putL _ _ _ _ = A
    have q48 := putLl hA 48 d5 rfl rfl
    clear hA
    exact Does.loadM rfl 36 _ rfl 4 _ und_num rfl info_num (w.heap.size) 4 q48 .u64 (ps) (hG.1) (by omega) (h_ps_4_4) ⟨Below.refl _ _, rfl⟩
   refine StepN.plain rfl (fun f W hG hH => ?_) ?_
   ·
    clear hH
    generalize hA : putL _ _ _ _ = A
    have q3 : A.eval (.tmp 3) = .pointer (some ⟨w1.heap.size, 0, none⟩) := putLn hA 3 rfl rfl rfl
    clear hA
    exact Does.fieldA rfl 50 _ 0 rfl (off := 0) (by kernel_rfl) (w1.heap.size) 0 q3 (o1 := 0) rfl ⟨Below.refl _ _, rfl⟩
   refine StepN.plain rfl (fun f W hG hH => ?_) ?_
   ·
    obtain ⟨d7, -⟩ := hH
    generalize hA : putL _ _ _ _ = A
    have q50 := putLl hA 50 d7 rfl rfl
    clear hA
    exact Does.loadM rfl 36 _ rfl 4 _ und_num rfl info_num (w1.heap.size) 0 q50 .u64 (qs) (hG.2.1) (by omega) (h_qs_0_4) ⟨Below.refl _ _, rfl⟩
   refine StepN.plain rfl (fun f W hG hH => ?_) ?_
   ·
    obtain ⟨d6, d8, d4, -⟩ := hH
    generalize hA : putL _ _ _ _ = A
    have q49 := putLl hA 49 d6 rfl rfl
    have r49 := slot_get q49
    have q51 := putLl hA 51 d8 rfl rfl
    have r51 := slot_get q51
    clear hA
    refine Does.call rfl _ _ (by go_simp) ((H10 W).mono ?_)
    rintro e w' ⟨rfl, hb'⟩
    exact ⟨_, rfl, hb', rfl⟩
   refine StepN.plain rfl (fun f W hG hH => ?_) ?_
   ·
    obtain ⟨d4, d9, -, -⟩ := hH
    generalize hA : putL _ _ _ _ = A
    have q47 := putLl hA 47 d4 rfl rfl
    have r47 := slot_get q47
    have q52 := putLl hA 52 d9 rfl rfl
    have r52 := slot_get q52
    clear hA
    refine Does.call rfl _ _ (by go_simp) ((H11 W).mono ?_)
    rintro e w' ⟨rfl, hb'⟩
    exact ⟨_, rfl, hb', rfl⟩
   refine StepN.alloc rfl (fun _ _ => trivial) (fun A W => ?_) ?_
   ·
    refine Does.allocI rfl 36 rfl .u64 4 zero_num ?_
    intro W1 D1 s1 b1'
    exact ⟨b1', rfl, D1⟩
   refine StepN.store rfl (fun _ _ => trivial) (fun f W B hG hH hB hZ => ?_) ?_
   ·
    obtain ⟨-, d10, -, d0, d1, d2, d3, d4, d5, d6, d7, d8, d9, -, -, -⟩ := hH
    generalize hA : putL _ _ _ _ = A
    have q12 : A.eval (.tmp 12) = f 11 := putLl hA 12 rfl rfl rfl
    have r12 := slot_get q12
    have q53 := putLl hA 53 d10 rfl rfl
    have r53 := slot_get q53
    clear hA
    have hB : f 11 = .pointer (some ⟨B, 0, none⟩) := hB
    rw [hB] at q12
    refine Does.storeI rfl 36 _ _ rfl 4 info_num B q12 .u64 _ (cr11) q53 hZ (by rfl) (l_cr11) ?_
    intro A9
    exact ⟨rfl, A9⟩
   exact trivial
  ·
   intro f V23 hG hH hN
   obtain ⟨d0, d1, d2, d3, d4, d5, d6, d7, d8, d9, d10, -, -, -⟩ : (f 0 = .pointer (some ⟨w.heap.size, 0, none⟩)) ∧ (f 1 = aggI .u64 ps_0_4) ∧ (f 2 = .pointer (some ⟨w1.heap.size, 4, none⟩)) ∧ (f 3 = aggI .u64 qs_4_4) ∧ (f 4 = aggI .u64 cr9) ∧ (f 5 = .pointer (some ⟨w.heap.size, 4, none⟩)) ∧ (f 6 = aggI .u64 ps_4_4) ∧ (f 7 = .pointer (some ⟨w1.heap.size, 0, none⟩)) ∧ (f 8 = aggI .u64 qs_0_4) ∧ (f 9 = aggI .u64 cr10) ∧ (f 10 = aggI .u64 cr11) ∧ (True) ∧ (True) ∧ True := hH
   rw [show List.range (List.length [[], [0], [], [2], [1, 3], [], [5], [], [7], [6, 8, 4], [4, 9, 9], [], [11, 10, 10, 0, 1, 2, 3, 4, 5, 6, 7, 8, 9, 10, 11]]) = [0, 1, 2, 3, 4, 5, 6, 7, 8, 9, 10, 11, 12] from rfl]
   obtain ⟨loc, hn1, hn2⟩ := hN
   obtain ⟨hN0, kN0, A12⟩ : f 11 = .pointer (some ⟨loc 11, 0, none⟩) ∧ Wc23.heap.size ≤ loc 11 ∧ Arr .u64 V23 (loc 11) cr11 := hn1 ⟨11, 12, .u64, 4, cr11⟩ (by simp) rfl
   clear hn1 hn2
   generalize loc 11 = N23_0 at *
   simp only [putL, List.getElem?_cons_zero, List.getElem?_cons_succ, Option.join, Option.bind_some, id_eq, Act.put, List.setIfInBounds_toArray, List.set_cons_zero, List.set_cons_succ, d0, d1, d2, d3, d4, d5, d6, d7, d8, d9, d10, hN0]
   clear d0 d1 d2 d3 d4 d5 d6 d7 d8 d9 d10 hN0
   clear A2 A3 A4 A5 A6 A7 A8 A9 A10 A11
   obtain ⟨A2, A3, A4, A5, A6, A7, A8, A9, A10, A11, BV⟩ := hG
   replace BB := below_then BB BV
   clear BV
   have zz23 := BB.size
   go_wp2_with (first
     | (with_reducible refine at_n 54 ?_; refine wpList_val' (fun R hR => Does.loadM rfl 36 _ rfl 4 _ und_num rfl info_num (w13.heap.size) 0 rfl .u64 (cr3) (A8) (by omega) (sl_all l_cr3) hR) ?_)
     | (with_reducible refine at_n 55 ?_; refine wpList_val' (fun R hR => Does.loadM rfl 36 _ rfl 4 _ und_num rfl info_num (w10.heap.size) 0 rfl .u64 (cr2) (A7) (by omega) (sl_all l_cr2) hR) ?_)
     | (with_reducible refine at_n 13 ?_; refine wpList_allocI rfl 36 rfl .u64 4 zero_num ?_; intro w25 A13 s25 b25; have q25_2 := A2.lt; have q25_3 := A3.lt; have q25_4 := A4.lt; have q25_5 := A5.lt; have q25_6 := A6.lt; have q25_7 := A7.lt; have q25_8 := A8.lt; have q25_9 := A9.lt; have q25_10 := A10.lt; have q25_11 := A11.lt; have q25_12 := A12.lt; replace A2 := A2.below b25; replace A3 := A3.below b25; replace A4 := A4.below b25; replace A5 := A5.below b25; replace A6 := A6.below b25; replace A7 := A7.below b25; replace A8 := A8.below b25; replace A9 := A9.below b25; replace A10 := A10.below b25; replace A11 := A11.below b25; replace A12 := A12.below b25; replace BB := below_then BB b25; have y25 := BB.size)
     | (with_reducible refine at_op (o := ⟨_, .store 36 (.tmp 13) _, _, _, _, _⟩) ?_; refine wpList_storeI rfl 36 _ _ rfl 4 info_num (w24.heap.size) rfl .u64 _ (cr12) rfl (A13) (rfl) (l_cr12) ?_; intro D26; replace A2 := A2.rowOther (B' := w24.heap.size) (by omega) ((cr12).map (Value.int .u64)).toArray; replace A3 := A3.rowOther (B' := w24.heap.size) (by omega) ((cr12).map (Value.int .u64)).toArray; replace A4 := A4.rowOther (B' := w24.heap.size) (by omega) ((cr12).map (Value.int .u64)).toArray; replace A5 := A5.rowOther (B' := w24.heap.size) (by omega) ((cr12).map (Value.int .u64)).toArray; replace A6 := A6.rowOther (B' := w24.heap.size) (by omega) ((cr12).map (Value.int .u64)).toArray; replace A7 := A7.rowOther (B' := w24.heap.size) (by omega) ((cr12).map (Value.int .u64)).toArray; replace A8 := A8.rowOther (B' := w24.heap.size) (by omega) ((cr12).map (Value.int .u64)).toArray; replace A9 := A9.rowOther (B' := w24.heap.size) (by omega) ((cr12).map (Value.int .u64)).toArray; replace A10 := A10.rowOther (B' := w24.heap.size) (by omega) ((cr12).map (Value.int .u64)).toArray; replace A11 := A11.rowOther (B' := w24.heap.size) (by omega) ((cr12).map (Value.int .u64)).toArray; replace A12 := A12.rowOther (B' := w24.heap.size) (by omega) ((cr12).map (Value.int .u64)).toArray; replace BB := Below.setRow BB (g := w24.heap.size) (by omega) ((cr12).map (Value.int .u64)).toArray; clear A13; have A13 := D26)
     | (go_at_call 58; first | ((with_reducible refine (H12 _).mono ?_); rintro e w24 ⟨rfl, b24⟩; replace A2 := A2.below b24; replace A3 := A3.below b24; replace A4 := A4.below b24; replace A5 := A5.below b24; replace A6 := A6.below b24; replace A7 := A7.below b24; replace A8 := A8.below b24; replace A9 := A9.below b24; replace A10 := A10.below b24; replace A11 := A11.below b24; replace A12 := A12.below b24; replace BB := below_then BB b24; have z24 := BB.size)))
   refine wp_world fun Wc27 hWc => ?_
   rw [← hWc] at BB A2 A3 A4 A5 A6 A7 A8 A9 A10 A11 A12 A13
   clear hWc
   have k27_0 := A2.lt
   have k27_1 := A3.lt
   have k27_2 := A4.lt
   have k27_3 := A5.lt
   have k27_4 := A6.lt
   have k27_5 := A7.lt
   have k27_6 := A8.lt
   have k27_7 := A9.lt
   have k27_8 := A10.lt
   have k27_9 := A11.lt
   have k27_10 := A12.lt
   have k27_11 := A13.lt
   refine wp_region_ord [[], [], [0, 1], [], [2, 3, 2], [], [], [5, 6, 4], [], [7, 8, 7], [], [], [10, 11, 9], [4, 9, 12], [13, 12, 0, 1, 2, 3, 4, 5, 6, 7, 8, 9, 10, 11, 12, 13]] [some 57, some 58, some 59, some 60, some 61, some 62, some 63, some 64, some 65, some 66, some 67, some 68, some 69, some 70, none] 14 (fun b w' => Arr .u64 w' (w.heap.size) ps ∧ Arr .u64 w' (w1.heap.size) qs ∧ Arr .u64 w' (w2.heap.size) (if b then bu0 else List.replicate 12 0) ∧ Arr .u64 w' (w4.heap.size) cr0 ∧ Arr .u64 w' (w7.heap.size) cr1 ∧ Arr .u64 w' (w10.heap.size) cr2 ∧ Arr .u64 w' (w13.heap.size) cr3 ∧ Arr .u64 w' (N16_0) cr6 ∧ Arr .u64 w' (w17.heap.size) cr7 ∧ Arr .u64 w' (w20.heap.size) cr8 ∧ Arr .u64 w' (N23_0) cr11 ∧ Arr .u64 w' (w24.heap.size) cr12 ∧ Below w.heap.size w w') (fun opn f _ => match opn with | 0 => f 0 = aggI .u64 cr0 | 1 => f 1 = aggI .u64 cr7 | 2 => f 2 = aggI .u64 cr13 | 3 => f 3 = aggI .u64 cr11 | 4 => f 4 = aggI .u64 cr14 | 5 => f 5 = aggI .u64 cr0 | 6 => f 6 = aggI .u64 cr8 | 7 => f 7 = aggI .u64 cr15 | 8 => f 8 = aggI .u64 cr12 | 9 => f 9 = aggI .u64 cr16 | 10 => f 10 = aggI .u64 cr7 | 11 => f 11 = aggI .u64 cr8 | 12 => f 12 = aggI .u64 cr17 | 13 => f 13 = aggI .u64 bu0 | 14 => f 14 = undef | _ => True) (fun _ v v' => ∃ cs, v' = v.setRow (w2.heap.size) cs) (by kernel_rfl) (by kernel_rfl) (by kernel_rfl) (by kernel_rfl) (fun b v v' hb h => ⟨h.1.below hb, h.2.1.below hb, h.2.2.1.below hb, h.2.2.2.1.below hb, h.2.2.2.2.1.below hb, h.2.2.2.2.2.1.below hb, h.2.2.2.2.2.2.1.below hb, h.2.2.2.2.2.2.2.1.below hb, h.2.2.2.2.2.2.2.2.1.below hb, h.2.2.2.2.2.2.2.2.2.1.below hb, h.2.2.2.2.2.2.2.2.2.2.1.below hb, h.2.2.2.2.2.2.2.2.2.2.2.1.below hb, below_then h.2.2.2.2.2.2.2.2.2.2.2.2 hb⟩) (fun _ _ _ _ _ h => h) (fun _ _ _ _ _ _ _ h => h) ⟨A2.drew, A3.drew, A4.drew, A5.drew, A6.drew, A7.drew, A8.drew, A9.drew, A10.drew, A11.drew, A12.drew, A13.drew, BB.drew⟩ ?_ ?_
   ·
    refine StepL.other (k := 0) rfl (fun b f W hb hG hH => ?_) ?_
    ·
     obtain rfl := hb rfl
     clear hH
     generalize hA : putL _ _ _ _ = A
     have q5 : A.eval (.tmp 5) = .pointer (some ⟨w4.heap.size, 0, none⟩) := putLn hA 5 rfl rfl rfl
     clear hA
     exact Does.loadM rfl 36 _ rfl 4 _ und_num rfl info_num (w4.heap.size) 0 q5 .u64 (cr0) (hG.2.2.2.1) (by omega) (sl_all l_cr0) ⟨Below.refl _ _, rfl⟩
    refine StepL.other (k := 1) rfl (fun b f W hb hG hH => ?_) ?_
    ·
     obtain rfl := hb rfl
     clear hH
     generalize hA : putL _ _ _ _ = A
     have q10 : A.eval (.tmp 10) = .pointer (some ⟨w17.heap.size, 0, none⟩) := putLn hA 10 rfl rfl rfl
     clear hA
     exact Does.loadM rfl 36 _ rfl 4 _ und_num rfl info_num (w17.heap.size) 0 q10 .u64 (cr7) (hG.2.2.2.2.2.2.2.2.1) (by omega) (sl_all l_cr7) ⟨Below.refl _ _, rfl⟩
    refine StepL.other (k := 2) rfl (fun b f W hb hG hH => ?_) ?_
    ·
     obtain rfl := hb rfl
     obtain ⟨d0, d1, -⟩ := hH
     generalize hA : putL _ _ _ _ = A
     have q57 := putLl hA 57 d0 rfl rfl
     have r57 := slot_get q57
     have q58 := putLl hA 58 d1 rfl rfl
     have r58 := slot_get q58
     clear hA
     refine Does.call rfl _ _ (by go_simp) ((H13 W).mono ?_)
     rintro e w' ⟨rfl, hb'⟩
     exact ⟨_, rfl, hb', rfl⟩
    refine StepL.other (k := 3) rfl (fun b f W hb hG hH => ?_) ?_
    ·
     obtain rfl := hb rfl
     clear hH
     generalize hA : putL _ _ _ _ = A
     have q12 : A.eval (.tmp 12) = .pointer (some ⟨N23_0, 0, none⟩) := putLn hA 12 rfl rfl rfl
     clear hA
     exact Does.loadM rfl 36 _ rfl 4 _ und_num rfl info_num (N23_0) 0 q12 .u64 (cr11) (hG.2.2.2.2.2.2.2.2.2.2.1) (by omega) (sl_all l_cr11) ⟨Below.refl _ _, rfl⟩
    refine StepL.other (k := 4) rfl (fun b f W hb hG hH => ?_) ?_
    ·
     obtain rfl := hb rfl
     obtain ⟨d2, d3, -, -⟩ := hH
     generalize hA : putL _ _ _ _ = A
     have q59 := putLl hA 59 d2 rfl rfl
     have r59 := slot_get q59
     have q60 := putLl hA 60 d3 rfl rfl
     have r60 := slot_get q60
     clear hA
     refine Does.call rfl _ _ (by go_simp) ((H14 W).mono ?_)
     rintro e w' ⟨rfl, hb'⟩
     exact ⟨_, rfl, hb', rfl⟩
    refine StepL.other (k := 5) rfl (fun b f W hb hG hH => ?_) ?_
    ·
     obtain rfl := hb rfl
     clear hH
     generalize hA : putL _ _ _ _ = A
     have q5 : A.eval (.tmp 5) = .pointer (some ⟨w4.heap.size, 0, none⟩) := putLn hA 5 rfl rfl rfl
     clear hA
     exact Does.loadM rfl 36 _ rfl 4 _ und_num rfl info_num (w4.heap.size) 0 q5 .u64 (cr0) (hG.2.2.2.1) (by omega) (sl_all l_cr0) ⟨Below.refl _ _, rfl⟩
    refine StepL.other (k := 6) rfl (fun b f W hb hG hH => ?_) ?_
    ·
     obtain rfl := hb rfl
     clear hH
     generalize hA : putL _ _ _ _ = A
     have q11 : A.eval (.tmp 11) = .pointer (some ⟨w20.heap.size, 0, none⟩) := putLn hA 11 rfl rfl rfl
     clear hA
     exact Does.loadM rfl 36 _ rfl 4 _ und_num rfl info_num (w20.heap.size) 0 q11 .u64 (cr8) (hG.2.2.2.2.2.2.2.2.2.1) (by omega) (sl_all l_cr8) ⟨Below.refl _ _, rfl⟩
    refine StepL.other (k := 7) rfl (fun b f W hb hG hH => ?_) ?_
    ·
     obtain rfl := hb rfl
     obtain ⟨d5, d6, d4, -⟩ := hH
     generalize hA : putL _ _ _ _ = A
     have q62 := putLl hA 62 d5 rfl rfl
     have r62 := slot_get q62
     have q63 := putLl hA 63 d6 rfl rfl
     have r63 := slot_get q63
     clear hA
     refine Does.call rfl _ _ (by go_simp) ((H15 W).mono ?_)
     rintro e w' ⟨rfl, hb'⟩
     exact ⟨_, rfl, hb', rfl⟩
    refine StepL.other (k := 8) rfl (fun b f W hb hG hH => ?_) ?_
    ·
     obtain rfl := hb rfl
     clear hH
     generalize hA : putL _ _ _ _ = A
     have q13 : A.eval (.tmp 13) = .pointer (some ⟨w24.heap.size, 0, none⟩) := putLn hA 13 rfl rfl rfl
     clear hA
     exact Does.loadM rfl 36 _ rfl 4 _ und_num rfl info_num (w24.heap.size) 0 q13 .u64 (cr12) (hG.2.2.2.2.2.2.2.2.2.2.2.1) (by omega) (sl_all l_cr12) ⟨Below.refl _ _, rfl⟩
    refine StepL.other (k := 9) rfl (fun b f W hb hG hH => ?_) ?_
    ·
     obtain rfl := hb rfl
     obtain ⟨d7, d8, -, -⟩ := hH
     generalize hA : putL _ _ _ _ = A
     have q64 := putLl hA 64 d7 rfl rfl
     have r64 := slot_get q64
     have q65 := putLl hA 65 d8 rfl rfl
     have r65 := slot_get q65
     clear hA
     refine Does.call rfl _ _ (by go_simp) ((H16 W).mono ?_)
     rintro e w' ⟨rfl, hb'⟩
     exact ⟨_, rfl, hb', rfl⟩
    refine StepL.other (k := 10) rfl (fun b f W hb hG hH => ?_) ?_
    ·
     obtain rfl := hb rfl
     clear hH
     generalize hA : putL _ _ _ _ = A
     have q10 : A.eval (.tmp 10) = .pointer (some ⟨w17.heap.size, 0, none⟩) := putLn hA 10 rfl rfl rfl
     clear hA
     exact Does.loadM rfl 36 _ rfl 4 _ und_num rfl info_num (w17.heap.size) 0 q10 .u64 (cr7) (hG.2.2.2.2.2.2.2.2.1) (by omega) (sl_all l_cr7) ⟨Below.refl _ _, rfl⟩
    refine StepL.other (k := 11) rfl (fun b f W hb hG hH => ?_) ?_
    ·
     obtain rfl := hb rfl
     clear hH
     generalize hA : putL _ _ _ _ = A
     have q11 : A.eval (.tmp 11) = .pointer (some ⟨w20.heap.size, 0, none⟩) := putLn hA 11 rfl rfl rfl
     clear hA
     exact Does.loadM rfl 36 _ rfl 4 _ und_num rfl info_num (w20.heap.size) 0 q11 .u64 (cr8) (hG.2.2.2.2.2.2.2.2.2.1) (by omega) (sl_all l_cr8) ⟨Below.refl _ _, rfl⟩
    refine StepL.other (k := 12) rfl (fun b f W hb hG hH => ?_) ?_
    ·
     obtain rfl := hb rfl
     obtain ⟨d10, d11, d9, -⟩ := hH
     generalize hA : putL _ _ _ _ = A
     have q67 := putLl hA 67 d10 rfl rfl
     have r67 := slot_get q67
     have q68 := putLl hA 68 d11 rfl rfl
     have r68 := slot_get q68
     clear hA
     refine Does.call rfl _ _ (by go_simp) ((H17 W).mono ?_)
     rintro e w' ⟨rfl, hb'⟩
     exact ⟨_, rfl, hb', rfl⟩
    refine StepL.other (k := 13) rfl (fun b f W hb hG hH => ?_) ?_
    ·
     obtain rfl := hb rfl
     obtain ⟨d4, d9, d12, -⟩ := hH
     generalize hA : putL _ _ _ _ = A
     have q61 := putLl hA 61 d4 rfl rfl
     have r61 := slot_get q61
     have q66 := putLl hA 66 d9 rfl rfl
     have r66 := slot_get q66
     have q69 := putLl hA 69 d12 rfl rfl
     have r69 := slot_get q69
     clear hA
     exact Does.buildI rfl 50 _ rfl .u64 (bu0) _ (hbu0) (by simp [q61, q66, q69]) ⟨Below.refl _ _, rfl⟩
    refine StepL.self (k := 14) rfl (fun f W hG hH => ?_) ?_
    ·
     obtain ⟨d13, d12, d0, d1, d2, d3, d4, d5, d6, d7, d8, d9, d10, d11, -, -, -⟩ := hH
     generalize hA : putL _ _ _ _ = A
     have q4 : A.eval (.tmp 4) = .pointer (some ⟨w2.heap.size, 0, none⟩) := putLn hA 4 rfl rfl rfl
     have r4 := slot_get q4
     have q70 := putLl hA 70 d13 rfl rfl
     have r70 := slot_get q70
     clear hA
     have hZ : Arr .u64 W (w2.heap.size) (List.replicate 12 0) := hG.2.2.1
     refine Does.storeI rfl 50 _ _ rfl 12 info_pnt (w2.heap.size) q4 .u64 _ (bu0) q70 hZ (rfl) (l_bu0) ?_
     intro A9
     exact ⟨⟨_, rfl⟩, ⟨hG.1.rowOther (by omega) _, hG.2.1.rowOther (by omega) _, A9, hG.2.2.2.1.rowOther (by omega) _, hG.2.2.2.2.1.rowOther (by omega) _, hG.2.2.2.2.2.1.rowOther (by omega) _, hG.2.2.2.2.2.2.1.rowOther (by omega) _, hG.2.2.2.2.2.2.2.1.rowOther (by omega) _, hG.2.2.2.2.2.2.2.2.1.rowOther (by omega) _, hG.2.2.2.2.2.2.2.2.2.1.rowOther (by omega) _, hG.2.2.2.2.2.2.2.2.2.2.1.rowOther (by omega) _, hG.2.2.2.2.2.2.2.2.2.2.2.1.rowOther (by omega) _, Below.setRow hG.2.2.2.2.2.2.2.2.2.2.2.2 (by omega) _⟩, rfl⟩
    exact trivial
   ·
    intro f V27 hG hH
    obtain ⟨d0, d1, d2, d3, d4, d5, d6, d7, d8, d9, d10, d11, d12, d13, d14, -⟩ : (f 0 = aggI .u64 cr0) ∧ (f 1 = aggI .u64 cr7) ∧ (f 2 = aggI .u64 cr13) ∧ (f 3 = aggI .u64 cr11) ∧ (f 4 = aggI .u64 cr14) ∧ (f 5 = aggI .u64 cr0) ∧ (f 6 = aggI .u64 cr8) ∧ (f 7 = aggI .u64 cr15) ∧ (f 8 = aggI .u64 cr12) ∧ (f 9 = aggI .u64 cr16) ∧ (f 10 = aggI .u64 cr7) ∧ (f 11 = aggI .u64 cr8) ∧ (f 12 = aggI .u64 cr17) ∧ (f 13 = aggI .u64 bu0) ∧ (f 14 = undef) ∧ True := hH
    rw [show List.range (List.length [[], [], [0, 1], [], [2, 3, 2], [], [], [5, 6, 4], [], [7, 8, 7], [], [], [10, 11, 9], [4, 9, 12], [13, 12, 0, 1, 2, 3, 4, 5, 6, 7, 8, 9, 10, 11, 12, 13]]) = [0, 1, 2, 3, 4, 5, 6, 7, 8, 9, 10, 11, 12, 13, 14] from rfl]
    simp only [putL, List.getElem?_cons_zero, List.getElem?_cons_succ, Option.join, Option.bind_some, id_eq, Act.put, List.setIfInBounds_toArray, List.set_cons_zero, List.set_cons_succ, d0, d1, d2, d3, d4, d5, d6, d7, d8, d9, d10, d11, d12, d13]
    clear d0 d1 d2 d3 d4 d5 d6 d7 d8 d9 d10 d11 d12 d13 d14
    clear A2 A3 A4 A5 A6 A7 A8 A9 A10 A11 A12 A13
    obtain ⟨A2, A3, A4, A5, A6, A7, A8, A9, A10, A11, A12, A13, BV⟩ := hG
    have A4 : Arr .u64 V27 (w2.heap.size) bu0 := A4
    clear BB
    have BB := BV
    clear BV
    have zz27 := BB.size
    go_wp2
    refine bodyPost_ret (results_cellM rfl _ 12 _ Tryd.underlying50 rfl info_pnt (w2.heap.size) rfl .u64 _ A4 (l_bu0)) rfl ?_
    exact ⟨rfl, BB⟩
end Go.Proofs.YtelppapkffjmpaaDoor
end
section
namespace Go.Proofs.YtelppapkffjmpaaDoor
open Go.RowKit Go.Shelf
set_option linter.unusedVariables false
set_option maxRecDepth 8000

theorem LF.zero : LF [0, 0, 0, 0, 0] 0 := ⟨by rw [show (((0 : FF).val : Nat) : Int) = 0 by decide +kernel]; exact zero_fel⟩
/-- The words of a number modulo p. -/
structure NF (xs : List Int) (a : FF) : Prop where
  num : xs = numW 4 (a.val : Int)
theorem NF.len {xs : List Int} {a : FF} (h : NF xs a) : xs.length = 4 := by rw [h.num]; exact numW_length _ _
def nw (a : FF) : List Int := numW 4 (a.val : Int)
theorem nw_nf (a : FF) : NF (nw a) a := ⟨rfl⟩
theorem val_lt (a : FF) : 0 ≤ (a.val : Int) ∧ (a.val : Int) < pV := by
  have := a.isLt
  rw [pV_nat]; omega
theorem val_lt2 (a : FF) : 0 ≤ (a.val : Int) ∧ (a.val : Int) < 2 ^ 256 := by
  have h := val_lt a
  have := pV_lt
  omega
theorem prod_c {xs ys : List Int} {a b : FF} (hx : NF xs a) (hy : NF ys b) (W : World) : Calls Tryd.prog 57 #[aggI .u64 xs, aggI .u64 ys] W fun e w' => e = .returned (aggI .u64 (nw (a * b))) ∧ Below W.heap.size W w' := by
  rw [hx.num, hy.num]
  unfold nw
  rw [val_mul]
  exact ref_prod_v _ _ W (val_lt2 a) (val_lt2 b)
theorem rsum_c {xs ys : List Int} {a b : FF} (hx : NF xs a) (hy : NF ys b) (W : World) : Calls Tryd.prog 58 #[aggI .u64 xs, aggI .u64 ys] W fun e w' => e = .returned (aggI .u64 (nw (a + b))) ∧ Below W.heap.size W w' := by
  rw [hx.num, hy.num]
  unfold nw
  rw [val_add]
  have h1 := val_lt a
  have h2 := val_lt b
  have h3 : 2 * pV < 2 ^ 256 := by decide +kernel
  exact ref_sum_v _ _ W h1.1 h2.1 (by omega)
theorem rdiff_c {xs ys : List Int} {a b : FF} (hx : NF xs a) (hy : NF ys b) (W : World) : Calls Tryd.prog 35 #[aggI .u64 xs, aggI .u64 ys] W fun e w' => e = .returned (aggI .u64 (nw (a - b))) ∧ Below W.heap.size W w' := by
  rw [hx.num, hy.num]
  unfold nw
  rw [val_sub]
  exact ref_diff_v _ _ W (val_lt a) (val_lt b)
theorem pV2_nat : (pV - 2).toNat = pN - 2 := by decide +kernel
theorem rinv_c {xs : List Int} {a : FF} (hx : NF xs a) (W : World) : Calls Tryd.prog 61 #[aggI .u64 xs] W fun e w' => e = .returned (aggI .u64 (nw (finv a))) ∧ Below W.heap.size W w' := by
  rw [hx.num]
  have e : ((finv a).val : Int) = (a.val : Int) ^ (pV - 2).toNat % pV := by
    show ((a.val ^ (pN - 2) % pN : Nat) : Int) = _
    rw [Int.natCast_emod, Int.natCast_pow, pV_nat, ← pV_nat, pV2_nat]
  unfold nw
  rw [e]
  exact ref_invert_v _ W (val_lt2 a)
/-- The reference's point: x and y over one divisor. -/
structure PnL (ps : List Int) (X Y Z : FF) : Prop where
  len : ps.length = 12
  x : NF (sl ps 0 4) X
  y : NF (sl ps 4 4) Y
  z : NF (sl ps 8 4) Z
theorem PnL.mk3 {xs ys zs : List Int} {X Y Z : FF} (hx : NF xs X) (hy : NF ys Y) (hz : NF zs Z) : PnL (xs ++ (ys ++ zs)) X Y Z := by
  refine ⟨by simp [hx.len, hy.len, hz.len], ?_, ?_, ?_⟩
  · rw [sl_app0 hx.len]; exact hx
  · rw [show sl (xs ++ (ys ++ zs)) 4 4 = ys from (sl_appn (o := 0) hx.len).trans (sl_app0 hy.len)]; exact hy
  · rw [show sl (xs ++ (ys ++ zs)) 8 4 = zs from (sl_appn (o := 4) hx.len).trans ((sl_appn (o := 0) hy.len).trans (sl_all hz.len))]; exact hz
theorem four {xs : List Int} (h : xs.length = 4) : ∃ a b c d, xs = [a, b, c, d] := by
  match xs, h with
  | [a, b, c, d], _ => exact ⟨a, b, c, d, rfl⟩
theorem built_pnt {xs ys zs : List Int} (hx : xs.length = 4) (hy : ys.length = 4) (hz : zs.length = 4) : Tryd.prog.built 50 [(0, aggI .u64 xs), (1, aggI .u64 ys), (2, aggI .u64 zs)] = some ((xs ++ (ys ++ zs)).map (Value.int .u64)).toArray := by
  obtain ⟨a, b, c, d, rfl⟩ := four hx
  obtain ⟨a', b', c', d', rfl⟩ := four hy
  obtain ⟨e, f, g, h, rfl⟩ := four hz
  kernel_rfl
theorem built_pnt2 {ys zs : List Int} (hy : ys.length = 4) (hz : zs.length = 4) : Tryd.prog.built 50 [(1, aggI .u64 ys), (2, aggI .u64 zs)] = some (([0, 0, 0, 0] ++ (ys ++ zs)).map (Value.int .u64)).toArray := by
  obtain ⟨a', b', c', d', rfl⟩ := four hy
  obtain ⟨e, f, g, h, rfl⟩ := four hz
  kernel_rfl
theorem nf_zero : NF [0, 0, 0, 0] 0 := ⟨by decide +kernel⟩
theorem nf_one : NF [1, 0, 0, 0] 1 := ⟨by decide +kernel⟩
/-- The base point's numbers. -/
def bxF : FF := 15112221349535400772501151409588531511454012693041857206046113283949847762202
def byF : FF := 46316835694926478169428394003475163141307993866256225615783033603165251855960
def bP : Pt := ⟨bxF, byF, by unfold On; decide +kernel⟩
theorem nf_bx : NF [14507833142362363162, 7578651490590762930, 13881468655802702940, 2407515759118799870] bxF := ⟨by decide +kernel⟩
theorem nf_by : NF [7378697629483820632, 7378697629483820646, 7378697629483820646, 7378697629483820646] byF := ⟨by decide +kernel⟩
def dNl : List Int := [8496970652267935907, 31536524315187371, 10144147576115030168, 5909686906226998899]
theorem nf_d : NF dNl dF := ⟨by decide +kernel⟩
theorem rD_c (W : World) : Calls Tryd.prog 59 #[] W fun e w' => e = .returned (aggI .u64 dNl) ∧ Below W.heap.size W w' := rD_walk _ W rfl (by kernel_rfl)
/-- These are a point's numbers, times some divisor, in the reference. -/
def RepN (ps : List Int) (P : Pt) : Prop := ∃ Z : FF, Z ≠ 0 ∧ PnL ps (P.x * Z) (P.y * Z) Z
theorem RepN.len {ps : List Int} {P : Pt} (h : RepN ps P) : ps.length = 12 := by obtain ⟨Z, -, h⟩ := h; exact h.len
theorem RepN.of {ps : List Int} {P : Pt} {X Y Z : FF} (h : PnL ps X Y Z) (hz : Z ≠ 0) (hx : X = P.x * Z) (hy : Y = P.y * Z) : RepN ps P := ⟨Z, hz, by rw [← hx, ← hy]; exact h⟩
theorem rzero_c  : ∃ rs, PnL rs 0 1 1 ∧ ∀ w, Calls Tryd.prog 74 #[] w fun e w' => e = .returned (aggI .u64 rs) ∧ Below w.heap.size w w' := by
  exact ⟨_, (PnL.mk3 nf_zero nf_one nf_one), fun w => rzero_walk _ _ w (nf_one).len ((PnL.mk3 nf_zero nf_one nf_one)).len (by kernel_rfl) (built_pnt2 nf_one.len nf_one.len)⟩
theorem rfirst_c  : ∃ rs, PnL rs bxF byF 1 ∧ ∀ w, Calls Tryd.prog 42 #[] w fun e w' => e = .returned (aggI .u64 rs) ∧ Below w.heap.size w w' := by
  exact ⟨_, (PnL.mk3 nf_bx nf_by nf_one), fun w => rfirst_walk _ _ _ _ w (nf_bx).len (nf_by).len (nf_one).len ((PnL.mk3 nf_bx nf_by nf_one)).len (by kernel_rfl) (by kernel_rfl) (by kernel_rfl) (built_pnt nf_bx.len nf_by.len nf_one.len)⟩
theorem rpsum_c {ps qs : List Int} {X1 Y1 Z1 X2 Y2 Z2 : FF} (h1 : PnL ps X1 Y1 Z1) (h2 : PnL qs X2 Y2 Z2) : ∃ rs, PnL rs ((Z1 * Z2) * (((Z1 * Z2) * (Z1 * Z2)) - (dF * ((X1 * X2) * (Y1 * Y2)))) * (X1 * Y2 + Y1 * X2)) ((Z1 * Z2) * (((Z1 * Z2) * (Z1 * Z2)) + (dF * ((X1 * X2) * (Y1 * Y2)))) * ((Y1 * Y2) + (X1 * X2))) ((((Z1 * Z2) * (Z1 * Z2)) - (dF * ((X1 * X2) * (Y1 * Y2)))) * (((Z1 * Z2) * (Z1 * Z2)) + (dF * ((X1 * X2) * (Y1 * Y2))))) ∧ ∀ w, Calls Tryd.prog 31 #[aggI .u64 ps, aggI .u64 qs] w fun e w' => e = .returned (aggI .u64 rs) ∧ Below w.heap.size w w' := by
  exact ⟨_, (PnL.mk3 (nw_nf _) (nw_nf _) (nw_nf _)), fun w => rsum_walk _ _ _ _ _ _ _ _ _ _ _ _ _ _ _ _ _ _ _ _ _ _ _ _ _ _ _ w (h1).len (h2).len (h1.z).len (h2.z).len ((nw_nf _)).len ((nw_nf _)).len (h1.x).len (h2.x).len ((nw_nf _)).len (h1.y).len (h2.y).len ((nw_nf _)).len (nf_d).len ((nw_nf _)).len ((nw_nf _)).len ((nw_nf _)).len ((nw_nf _)).len ((nw_nf _)).len ((nw_nf _)).len ((nw_nf _)).len ((nw_nf _)).len ((nw_nf _)).len ((nw_nf _)).len ((nw_nf _)).len ((nw_nf _)).len ((nw_nf _)).len ((PnL.mk3 (nw_nf _) (nw_nf _) (nw_nf _))).len rfl rfl rfl rfl rfl rfl (built_pnt (nw_nf _).len (nw_nf _).len (nw_nf _).len) (prod_c h1.z h2.z) (prod_c (nw_nf _) (nw_nf _)) (prod_c h1.x h2.x) (prod_c h1.y h2.y) (rD_c) (prod_c (nw_nf _) (nw_nf _)) (prod_c nf_d (nw_nf _)) (rdiff_c (nw_nf _) (nw_nf _)) (rsum_c (nw_nf _) (nw_nf _)) (prod_c h1.x h2.y) (prod_c h1.y h2.x) (rsum_c (nw_nf _) (nw_nf _)) (rsum_c (nw_nf _) (nw_nf _)) (prod_c (nw_nf _) (nw_nf _)) (prod_c (nw_nf _) (nw_nf _)) (prod_c (nw_nf _) (nw_nf _)) (prod_c (nw_nf _) (nw_nf _)) (prod_c (nw_nf _) (nw_nf _))⟩
theorem nothing_c  : ∃ rs, PoL rs 0 1 1 (0 * 1) ∧ ∀ w, Calls Tryd.prog 72 #[] w fun e w' => e = .returned (aggI .u64 rs) ∧ Below w.heap.size w w' := by
  obtain ⟨l0, p0, c0⟩ := raised_c (PlL.mk2 LF.zero LF.one)
  exact ⟨_, p0, fun w => nothing_walk _ _ _ w (LF.one).len ((PlL.mk2 LF.zero LF.one)).len (p0).len (built_plane1 LF.one.len) (small_any) (c0)⟩
theorem rsum_r {ps qs : List Int} {P Q : Pt} (hp : RepN ps P) (hq : RepN qs Q) : ∃ rs, RepN rs (padd P Q) ∧ ∀ w, Calls Tryd.prog 31 #[aggI .u64 ps, aggI .u64 qs] w fun e w' => e = .returned (aggI .u64 rs) ∧ Below w.heap.size w w' := by
  obtain ⟨Z1, h1, k1⟩ := hp
  obtain ⟨Z2, h2, k2⟩ := hq
  obtain ⟨rs, hr, hc⟩ := rpsum_c k1 k2
  refine ⟨rs, ?_, hc⟩
  have hx := padd_x P Q
  have hy := padd_y P Q
  have hg := den1 P.on Q.on
  have hf := den2 P.on Q.on
  have hz := nz2 (nz2 h1 h2) (nz2 h1 h2)
  have ef : Z1 * Z2 * (Z1 * Z2) - dF * (P.x * Z1 * (Q.x * Z2) * (P.y * Z1 * (Q.y * Z2))) = Z1 * Z2 * (Z1 * Z2) * (1 - dF*P.x*Q.x*P.y*Q.y) := by grobner
  have eg : Z1 * Z2 * (Z1 * Z2) + dF * (P.x * Z1 * (Q.x * Z2) * (P.y * Z1 * (Q.y * Z2))) = Z1 * Z2 * (Z1 * Z2) * (1 + dF*P.x*Q.x*P.y*Q.y) := by grobner
  have e1 : P.x * Z1 * (Q.y * Z2) + P.y * Z1 * (Q.x * Z2) = Z1 * Z2 * (P.x*Q.y + Q.x*P.y) := by grobner
  have e2 : P.y * Z1 * (Q.y * Z2) + P.x * Z1 * (Q.x * Z2) = Z1 * Z2 * (P.y*Q.y + P.x*Q.x) := by grobner
  rw [ef, eg, e1, e2, ← hx, ← hy] at hr
  generalize 1 + dF*P.x*Q.x*P.y*Q.y = g at *
  generalize 1 - dF*P.x*Q.x*P.y*Q.y = f at *
  exact RepN.of hr (nz2 (nz2 hz hf) (nz2 hz hg)) (by clear hx hy ef eg e1 e2; grobner) (by clear hx hy ef eg e1 e2; grobner)
theorem rzero_r : ∃ rs, RepN rs pzero ∧ ∀ w, Calls Tryd.prog 74 #[] w fun e w' => e = .returned (aggI .u64 rs) ∧ Below w.heap.size w w' := by
  obtain ⟨rs, hr, hc⟩ := rzero_c
  exact ⟨rs, RepN.of hr (by decide +kernel) (by decide +kernel) (by decide +kernel), hc⟩
theorem rfirst_r : ∃ rs, RepN rs bP ∧ ∀ w, Calls Tryd.prog 42 #[] w fun e w' => e = .returned (aggI .u64 rs) ∧ Below w.heap.size w w' := by
  obtain ⟨rs, hr, hc⟩ := rfirst_c
  exact ⟨rs, RepN.of hr (by decide +kernel) (by decide +kernel) (by decide +kernel), hc⟩
theorem nothing_r : ∃ rs, RepP rs pzero ∧ ∀ w, Calls Tryd.prog 72 #[] w fun e w' => e = .returned (aggI .u64 rs) ∧ Below w.heap.size w w' := by
  obtain ⟨rs, hr, hc⟩ := nothing_c
  exact ⟨rs, RepP.of hr (by decide +kernel) (by decide +kernel) (by decide +kernel) (by decide +kernel), hc⟩
end Go.Proofs.YtelppapkffjmpaaDoor
end
section
namespace Go.Proofs.YtelppapkffjmpaaDoor
open Go.RowKit Go.Shelf
set_option linter.unusedVariables false
set_option maxRecDepth 8000

/-- What can be gone on with at each step can be gone on with without end. -/
theorem chain {α : Type} {Q : Nat → α → Prop} {S : Nat → α → α → Prop} (x0 : α) (h0 : Q 0 x0) (h : ∀ m x, Q m x → ∃ y, Q (m + 1) y ∧ S m x y) : ∃ f : Nat → α, f 0 = x0 ∧ ∀ m, Q m (f m) ∧ S m (f m) (f (m + 1)) := by
  let g : (m : Nat) → { x : α // Q m x } := fun m => Nat.rec ⟨x0, h0⟩ (fun k p => ⟨Classical.choose (h k p.1 p.2), (Classical.choose_spec (h k p.1 p.2)).1⟩) m
  refine ⟨fun m => (g m).1, rfl, fun m => ⟨(g m).2, ?_⟩⟩
  exact (Classical.choose_spec (h m (g m).1 (g m).2)).2
theorem smul_even {K j : Nat} (P : Pt) (h : K / 2 ^ j % 2 = 0) : smul (K / 2 ^ j) P = padd (smul (K / 2 ^ (j + 1)) P) (smul (K / 2 ^ (j + 1)) P) := by
  have e : K / 2 ^ (j + 1) = K / 2 ^ j / 2 := by rw [Nat.pow_succ, Nat.div_div_eq_div_mul]
  rw [← smul_add, e]
  congr 1
  omega
theorem smul_odd {K j : Nat} (P : Pt) (h : K / 2 ^ j % 2 = 1) : smul (K / 2 ^ j) P = padd (padd (smul (K / 2 ^ (j + 1)) P) (smul (K / 2 ^ (j + 1)) P)) P := by
  have e : K / 2 ^ (j + 1) = K / 2 ^ j / 2 := by rw [Nat.pow_succ, Nat.div_div_eq_div_mul]
  rw [← smul_add, e, show K / 2 ^ j = K / 2 ^ j / 2 + K / 2 ^ j / 2 + 1 by omega]
  have e2 : (K / 2 ^ j / 2 + K / 2 ^ j / 2 + 1) / 2 = K / 2 ^ j / 2 := by omega
  rw [e2]
  rfl
/-- What 32 bytes stand for. -/
def kB (kb : List Int) : Nat := (valB kb 32).toNat
theorem kB_lt {kb : List Int} (h : Bytes kb) : kB kb < 2 ^ 256 := by
  have := valB_32 kb h
  unfold kB
  omega
theorem bitB_kB {kb : List Int} (h : Bytes kb) (j : Nat) (hj : j < 256) : bitB kb j = ((kB kb / 2 ^ j % 2 : Nat) : Int) := by
  have h0 := (valB_32 kb h).1
  rw [bitB_val kb h 32 j (by omega)]
  unfold kB
  rw [Int.natCast_emod, Int.natCast_ediv, Int.natCast_pow, Int.toNat_of_nonneg h0]
  rfl
/-- One step: the sum with itself, and the point once more. -/
def StepR (kb ps : List Int) (m : Nat) (x y : List Int) : Prop := m < 256 → ∃ z, (∀ w, Calls Tryd.prog 31 #[aggI .u64 x, aggI .u64 x] w fun e w' => e = .returned (aggI .u64 z) ∧ Below w.heap.size w w') ∧ z.length = 12 ∧ (bitB kb (255 - m) = 0 → y = z) ∧
  (bitB kb (255 - m) = 1 → ∀ w, Calls Tryd.prog 31 #[aggI .u64 z, aggI .u64 ps] w fun e w' => e = .returned (aggI .u64 y) ∧ Below w.heap.size w w')
theorem rmany_chain {kb ps : List Int} {P : Pt} (hb : Bytes kb) (hp : RepN ps P) (x0 : List Int) (h0 : RepN x0 pzero) : ∃ f : Nat → List Int, f 0 = x0 ∧ ∀ m, (m ≤ 256 → RepN (f m) (smul (kB kb / 2 ^ (256 - m)) P)) ∧ StepR kb ps m (f m) (f (m + 1)) := by
  refine chain (Q := fun m x => m ≤ 256 → RepN x (smul (kB kb / 2 ^ (256 - m)) P)) x0 (fun _ => ?_) (fun m x hx => ?_)
  · rw [Nat.sub_zero, Nat.div_eq_of_lt (kB_lt hb)]; exact h0
  · by_cases hm : m < 256
    · have hq := hx (by omega)
      obtain ⟨z, hz, cz⟩ := rsum_r hq hq
      have e : 256 - m = 255 - m + 1 := by omega
      rw [e] at hz
      have hbit := bitB_kB hb (255 - m) (by omega)
      have h01 : kB kb / 2 ^ (255 - m) % 2 = 0 ∨ kB kb / 2 ^ (255 - m) % 2 = 1 := by omega
      have e3 : 256 - (m + 1) = 255 - m := by omega
      rcases h01 with h | h
      · rw [h] at hbit
        refine ⟨z, fun _ => by rw [e3, smul_even P h]; exact hz, fun _ => ⟨z, cz, hz.len, fun _ => rfl, fun h1 => by rw [hbit] at h1; exact absurd h1 (by decide)⟩⟩
      · rw [h] at hbit
        obtain ⟨y, hy, cy⟩ := rsum_r hz hp
        refine ⟨y, fun _ => by rw [e3, smul_odd P h]; exact hy, fun _ => ⟨z, cz, hz.len, fun h1 => by rw [hbit] at h1; exact absurd h1 (by decide), fun _ => cy⟩⟩
    · exact ⟨x, fun h => absurd h (by omega), fun h => absurd h hm⟩

set_option maxHeartbeats 4000000 in
theorem rmany_walk (kb ps zz : List Int) (f : Nat → List Int) (w : World) (hkb : Bytes kb) (hkl : kb.length = 32) (hpl : ps.length = 12) (hf0 : f 0 = zz) (hfl : RowKit.Hid (∀ m, m ≤ 256 → (f m).length = 12)) (hst : RowKit.Hid (∀ m, StepR kb ps m (f m) (f (m + 1))))
    (hz : ∀ w, Calls Tryd.prog 74 #[] w fun e w' => e = .returned (aggI .u64 zz) ∧ Below w.heap.size w w') :
    Calls Tryd.prog 39 #[aggI .u8 kb, aggI .u64 ps] w fun e w' => e = .returned (aggI .u64 (f 256)) ∧ Below w.heap.size w w' := by
  have hzl : zz.length = 12 := by rw [← hf0]; exact hfl.out 0 (by omega)
  go_enter Tryd.func39, Tryd.ntmps39
  go_wp2_with (first
    | (with_reducible refine at_n 2 ?_; refine wpList_boxI rfl 22 _ rfl .u8 kb rfl ?_; intro w1 A1 s1 b1)
    | (with_reducible refine at_n 3 ?_; refine wpList_boxI rfl 50 _ rfl .u64 ps rfl ?_; intro w2 A2 s2 b2; have X2 := A1.below b2)
    | (with_reducible refine at_n 4 ?_; refine wpList_allocI rfl 50 rfl .u64 12 zero_pnt ?_; intro w3 A3 s3 b3; have X3 := X2.below b3; have N3 := A2.below b3)
    | (go_at_call 74; refine (hz _).mono ?_; rintro e w4 ⟨rfl, b4⟩; have X4 := X3.below b4; have N4 := N3.below b4; have R4 := A3.below b4)
    | (with_reducible refine at_n 5 ?_; refine wpList_newI rfl rfl 50 5 _ rfl rfl rfl rfl .u64 12 zero_pnt info_pnt (by simp) zz (by simp) (by simp [Act.eval]) hzl ?_; intro w5 B5 h5 l5 D5 b5; have X5 := X4.below b5; have N5 := N4.below b5; have R5 := R4.below b5))
  have hs4 := b4.size
  have q1 : w2.heap.size < B5 := by omega
  go_loopw [6] (fun i wr => ∃ (m : Nat) (n : Int), m ≤ 256 ∧ n = 255 - (m : Int) ∧ i = .int .i64 n ∧ Arr .u8 wr w.heap.size kb ∧ Arr .u64 wr w1.heap.size ps ∧ Arr .u64 wr w2.heap.size (List.replicate 12 0) ∧ Arr .u64 wr B5 (f m) ∧ Below w.heap.size w wr) (fun i _ => (intOf i + 1).toNat)
  case atStart => exact ⟨0, 255, by omega, rfl, rfl, X5, N5, R5, by rw [hf0]; exact D5, below_then (below_then (below_then (below_then b1 b2) b3) b4) b5⟩
  case round =>
    obtain ⟨m, n, hm, hn, rfl, NN, X, R, D, hbel⟩ := hrel
    by_cases hlt : m < 256
    · obtain ⟨j, hj, hj5⟩ : ∃ j : Nat, 255 - m = j ∧ j < 256 := ⟨255 - m, rfl, by omega⟩
      obtain rfl : n = (j : Int) := by omega
      obtain ⟨z, cz, hz2, hs0, hs1⟩ := hst.out m hlt
      rw [hj] at hs0 hs1
      have hl1 := hfl.out m hm
      have hl3 := hfl.out (m + 1) (by omega)
      generalize hf1 : f m = x1 at *
      generalize hf3 : f (m + 1) = x3 at *
      have HF3 := Lib.hid hf3
      have HS0 := Lib.hid hs0
      have HS1 := Lib.hid hs1
      have HM := Lib.hid hj
      clear hf1 hf3 hs0 hs1 hn hj
      have hbit := u8_and_one (byte_shift (hkb.at (j / 8)) (j % 8))
      have hbd := bitB_bit kb j
      have HB : bitB kb j = bits BinOp.and IntKind.u8 (at0 kb (j / 8) / 2 ^ (j % 8)) 1 := hbit.symm
      rw [HB] at hbd
      have HB := Lib.hid HB
      clear hbit
      have c0 := NN.cell (k := j / 8) (by omega)
      have hx64 := hkb.at (j / 8)
      have e2 : (j : Int).tmod 8 = (j : Int) % 8 := rfl
      have e3 : (0 : Int) ≤ (j : Int) / 8 := by omega
      have e4 : (j : Int) / 8 < 32 := by omega
      have e8 : ((j : Int) / 8).toNat = j / 8 := by omega
      have e9 : ((j : Int) % 8).toNat = j % 8 := by omega
      have hm9 : (j : Int) < 256 := by omega
      rcases hbd with h0 | h1
      · go_wp2_with (first
    | (with_reducible refine at_n 12 ?_; refine wpList_val' (fun Q hQ => Does.loadM rfl 50 _ rfl 12 _ Tryd.underlying50 rfl info_pnt (B5) 0 rfl .u64 x1 D (by omega) (sl_all hl1) hQ) ?_)
    | (with_reducible refine at_n 13 ?_; refine wpList_val' (fun Q hQ => Does.loadM rfl 50 _ rfl 12 _ Tryd.underlying50 rfl info_pnt (B5) 0 rfl .u64 x1 D (by omega) (sl_all hl1) hQ) ?_)
    | (go_at_call 31; (with_reducible refine (cz _).mono ?_); rintro e wN ⟨rfl, bN⟩; replace X := X.below bN; replace NN := NN.below bN; replace R := R.below bN; replace D := D.below bN; replace hbel := below_then hbel bN)
    | (with_reducible refine at_op (o := ⟨_, .store 50 (.tmp 5) (.tmp 14), _, _, _, _⟩) ?_; refine wpList_storeI rfl 50 _ _ rfl 12 info_pnt (B5) rfl .u64 _ (z) rfl D (hl1) (hz2) ?_; replace X := X.rowOther (B' := B5) (by omega) ((z).map (Value.int .u64)).toArray; replace NN := NN.rowOther (B' := B5) (by omega) ((z).map (Value.int .u64)).toArray; replace R := R.rowOther (B' := B5) (by omega) ((z).map (Value.int .u64)).toArray; replace hbel := Below.setRow hbel (g := B5) (by omega) ((z).map (Value.int .u64)).toArray; clear D; intro D; have c0 := NN.cell (k := j / 8) (by omega)))
        have hs := HS0.out (by rw [HB.out, h0])
        have hmj := HM.out
        exact ⟨⟨m + 1, (j : Int) - 1, by omega, by omega, by go_num, NN, X, R, by rw [HF3.out, hs]; exact D, hbel⟩, by simp only [intOf]; omega⟩
      · have c1 := HS1.out (by rw [HB.out, h1])
        go_wp2_with (first
    | (with_reducible refine at_n 12 ?_; refine wpList_val' (fun Q hQ => Does.loadM rfl 50 _ rfl 12 _ Tryd.underlying50 rfl info_pnt (B5) 0 rfl .u64 x1 D (by omega) (sl_all hl1) hQ) ?_)
    | (with_reducible refine at_n 13 ?_; refine wpList_val' (fun Q hQ => Does.loadM rfl 50 _ rfl 12 _ Tryd.underlying50 rfl info_pnt (B5) 0 rfl .u64 x1 D (by omega) (sl_all hl1) hQ) ?_)
    | (with_reducible refine at_n 25 ?_; refine wpList_val' (fun Q hQ => Does.loadM rfl 50 _ rfl 12 _ Tryd.underlying50 rfl info_pnt (B5) 0 rfl .u64 z D (by omega) (sl_all hz2) hQ) ?_)
    | (with_reducible refine at_n 26 ?_; refine wpList_val' (fun Q hQ => Does.loadM rfl 50 _ rfl 12 _ Tryd.underlying50 rfl info_pnt (w1.heap.size) 0 rfl .u64 ps X (by omega) (sl_all hpl) hQ) ?_)
    | (go_at_call 31; first | ((with_reducible refine (cz _).mono ?_); rintro e wN ⟨rfl, bN⟩; replace X := X.below bN; replace NN := NN.below bN; replace R := R.below bN; replace D := D.below bN; replace hbel := below_then hbel bN) | ((with_reducible refine (c1 _).mono ?_); rintro e wN ⟨rfl, bN⟩; replace X := X.below bN; replace NN := NN.below bN; replace R := R.below bN; replace D := D.below bN; replace hbel := below_then hbel bN))
    | (with_reducible refine at_op (o := ⟨_, .store 50 (.tmp 5) (.tmp 14), _, _, _, _⟩) ?_; refine wpList_storeI rfl 50 _ _ rfl 12 info_pnt (B5) rfl .u64 _ (z) rfl D (hl1) (hz2) ?_; replace X := X.rowOther (B' := B5) (by omega) ((z).map (Value.int .u64)).toArray; replace NN := NN.rowOther (B' := B5) (by omega) ((z).map (Value.int .u64)).toArray; replace R := R.rowOther (B' := B5) (by omega) ((z).map (Value.int .u64)).toArray; replace hbel := Below.setRow hbel (g := B5) (by omega) ((z).map (Value.int .u64)).toArray; clear D; intro D; have c0 := NN.cell (k := j / 8) (by omega))
    | (with_reducible refine at_op (o := ⟨_, .store 50 (.tmp 5) (.tmp 27), _, _, _, _⟩) ?_; refine wpList_storeI rfl 50 _ _ rfl 12 info_pnt (B5) rfl .u64 _ (x3) rfl D (hz2) (hl3) ?_; replace X := X.rowOther (B' := B5) (by omega) ((x3).map (Value.int .u64)).toArray; replace NN := NN.rowOther (B' := B5) (by omega) ((x3).map (Value.int .u64)).toArray; replace R := R.rowOther (B' := B5) (by omega) ((x3).map (Value.int .u64)).toArray; replace hbel := Below.setRow hbel (g := B5) (by omega) ((x3).map (Value.int .u64)).toArray; clear D; intro D; have c0 := NN.cell (k := j / 8) (by omega)))
        have hmj := HM.out
        exact ⟨⟨m + 1, (j : Int) - 1, by omega, by omega, by go_num, NN, X, R, by rw [HF3.out]; exact D, hbel⟩, by simp only [intOf]; omega⟩
    · obtain rfl : m = 256 := by omega
      obtain rfl : n = -1 := by omega
      clear hn hm
      have hl := hfl.out 256 (by omega)
      obtain ⟨rr, hr⟩ : ∃ rr, f 256 = rr := ⟨_, rfl⟩
      rw [hr] at D hl
      have HR := Lib.hid hr
      clear hr hlt
      go_wp2_with (first
    | (with_reducible refine at_n 28 ?_; refine wpList_val' (fun Q hQ => Does.loadM rfl 50 _ rfl 12 _ Tryd.underlying50 rfl info_pnt (B5) 0 rfl .u64 rr D (by omega) (sl_all hl) hQ) ?_)
    | (with_reducible refine at_op (o := ⟨_, .store 50 _ _, _, _, _, _⟩) ?_; refine wpList_storeI rfl 50 _ _ rfl 12 info_pnt (w2.heap.size) rfl .u64 _ (rr) rfl (R) (rfl) (hl) ?_; intro A9))
      refine bodyPost_ret (results_cellM rfl _ 12 _ Tryd.underlying50 rfl info_pnt (w2.heap.size) rfl .u64 _ A9 hl) rfl ?_
      exact ⟨by rw [HR.out], Below.setRow hbel (by omega) _⟩
theorem rmany_r {kb ps : List Int} {P : Pt} (hkb : Bytes kb) (hkl : kb.length = 32) (hp : RepN ps P) : ∃ rs, RepN rs (smul (kB kb) P) ∧ ∀ w, Calls Tryd.prog 39 #[aggI .u8 kb, aggI .u64 ps] w fun e w' => e = .returned (aggI .u64 rs) ∧ Below w.heap.size w w' := by
  obtain ⟨zz, hz, cz⟩ := rzero_r
  obtain ⟨f, hf0, hf⟩ := rmany_chain hkb hp zz hz
  refine ⟨f 256, ?_, fun w => rmany_walk kb ps zz f w hkb hkl hp.len hf0 (Lib.hid fun m hm => ((hf m).1 hm).len) (Lib.hid fun m => (hf m).2) cz⟩
  have h := (hf 256).1 (Nat.le_refl _)
  rw [Nat.sub_self, Nat.pow_zero, Nat.div_one] at h
  exact h
end Go.Proofs.YtelppapkffjmpaaDoor
end
section
namespace Go.Proofs.YtelppapkffjmpaaDoor
open Go.RowKit Go.Shelf
set_option linter.unusedVariables false
set_option maxRecDepth 8000

theorem wrap_i64_small {x : Int} (h0 : 0 ≤ x) (h1 : x < 9223372036854775808) : IntKind.i64.wrap x = x := by
  simp [IntKind.wrap, IntKind.bits, IntKind.signed]
  omega
theorem replicate_table (n : Nat) : (List.replicate n (0 : Int)).map (Value.int .u64) = List.replicate n (Value.int .u64 0) := by simp
theorem twenty {xs : List Int} (h : xs.length = 20) : ∃ a b c d e f g h i j a' b' c' d' e' f' g' h' i' j', xs = [a, b, c, d, e, f, g, h, i, j, a', b', c', d', e', f', g', h', i', j'] := by
  match xs, h with
  | [a, b, c, d, e, f, g, h, i, j, a', b', c', d', e', f', g', h', i', j'], _ => exact ⟨a, b, c, d, e, f, g, h, i, j, a', b', c', d', e', f', g', h', i', j', rfl⟩
set_option maxRecDepth 100000 in
theorem built_table {xs : List Int} (h : xs.length = 20) : Tryd.prog.built 89 [(0, aggI .u64 xs)] = some ((xs ++ List.replicate 300 0).map (Value.int .u64)).toArray := by
  obtain ⟨a, b, c, d, e, f, g, h, i, j, a', b', c', d', e', f', g', h', i', j', rfl⟩ := twenty h
  kernel_rfl
/-- One step: the next one is put behind. -/
def StepM (ps : List Int) (k : Nat) (ts us : List Int) : Prop := k < 15 → ∃ rs, us = pt ts (20 * (k + 1)) rs ∧ rs.length = 20 ∧ ∀ w, TabC w → Calls Tryd.prog 28 #[aggI .u64 (sl ts (20 * k) 20), aggI .u64 ps] w fun e w' => e = .returned (aggI .u64 rs) ∧ Below w.heap.size w w'
/-- These are a point's first multiples. -/
def TabP (ts : List Int) (k : Nat) (P : Pt) : Prop := ts.length = 320 ∧ ∀ j, j ≤ k → RepP (sl ts (20 * j) 20) (smul j P)
theorem multiples_chain {ps : List Int} {P : Pt} (hp : RepP ps P) (t0 : List Int) (h0 : TabP t0 0 P) : ∃ f : Nat → List Int, f 0 = t0 ∧ ∀ k, (k ≤ 15 → TabP (f k) k P) ∧ StepM ps k (f k) (f (k + 1)) := by
  refine chain (Q := fun k x => k ≤ 15 → TabP x k P) t0 (fun _ => h0) (fun k x hx => ?_)
  by_cases hk : k < 15
  · have hq := hx (by omega)
    obtain ⟨rs, hr, cr⟩ := with_r (hq.2 k (Nat.le_refl _)) hp
    have hl := hq.1
    have hrl := hr.len
    refine ⟨pt x (20 * (k + 1)) rs, fun _ => ⟨by rw [pt_length (by omega)]; exact hl, fun j hj => ?_⟩, fun _ => ⟨rs, rfl, hrl, cr⟩⟩
    by_cases hjk : j = k + 1
    · subst hjk
      rw [sl_pt_same (by omega) hrl]
      exact hr
    · rw [sl_pt_before (by omega) (by omega)]
      exact hq.2 j (by omega)
  · exact ⟨x, fun h => absurd h (by omega), fun h => absurd h hk⟩
set_option maxHeartbeats 4000000 in
theorem multiples_walk (ps ns : List Int) (f : Nat → List Int) (w : World) (hT : TabC w) (l_ps : ps.length = 20) (hns : ns.length = 20) (hf0 : f 0 = ns ++ List.replicate 300 0) (hfl : RowKit.Hid (∀ m, m ≤ 15 → (f m).length = 320)) (hst : RowKit.Hid (∀ m, StepM ps m (f m) (f (m + 1))))
  (hz : ∀ w, Calls Tryd.prog 72 #[] w fun e w' => e = .returned (aggI .u64 ns) ∧ Below w.heap.size w w') :
  Calls Tryd.prog 71 #[aggI .u64 ps] w fun e w' => e = .returned (aggI .u64 (f 15)) ∧ Below w.heap.size w w' := by
 obtain ⟨t0, ht0⟩ : ∃ t0, ns ++ List.replicate 300 0 = t0 := ⟨_, rfl⟩
 have hbt := built_table hns
 have htl : t0.length = 320 := by rw [← ht0]; simp [hns]
 rw [ht0] at hbt hf0
 clear ht0
 go_enter Tryd.func71, Tryd.ntmps71
 go_wp2_with (first
  | (with_reducible refine at_n 1 ?_; refine wpList_boxI rfl 46 _ rfl .u64 ps rfl ?_; intro w1 A1 s1 b1)
  | (with_reducible refine at_n 2 ?_; refine wpList_allocI rfl 89 rfl .u64 320 zero_table ?_; intro w2 A2 s2 b2; have X2 := A1.below b2)
  | (go_at_call 72; refine (hz _).mono ?_; rintro e w3 ⟨rfl, b3⟩; have X3 := X2.below b3; have N3 := A2.below b3)
  | (with_reducible refine at_n 6 ?_; go_loud (refine wpList_val' (fun R hR => Does.buildI rfl 89 _ rfl .u64 (t0) _ (hbt) rfl hR) ?_))
  | (with_reducible refine at_n 3 ?_; refine wpList_allocI rfl 89 rfl .u64 320 zero_table ?_; intro w4 A4 s4 b4; have X4 := X3.below b4; have N4 := N3.below b4; have k1 := X3.lt; have k2 := N3.lt; have BB := below_then (below_then (below_then b1 b2) b3) b4; have k3 := b3.size)
  | (with_reducible refine at_op (o := ⟨_, .store 89 (.tmp 3) _, _, _, _, _⟩) ?_; refine wpList_storeI rfl 89 _ _ rfl 320 info_table (w3.heap.size) rfl .u64 _ (t0) rfl (A4) (by simp) (htl) ?_; intro D4; have X5 := X4.rowOther (B' := w3.heap.size) (by omega) ((t0).map (Value.int .u64)).toArray; have N5 := N4.rowOther (B' := w3.heap.size) (by omega) ((t0).map (Value.int .u64)).toArray; have B5 := Below.setRow BB (g := w3.heap.size) (by omega) ((t0).map (Value.int .u64)).toArray))
 clear A4 X4 N4 BB X3 N3 X2 A1 A2 b4 s4 b3
 generalize w3.heap.size = B3 at *
 go_loopw [7] (fun i wr => ∃ (k : Nat), k ≤ 15 ∧ i = .int .i64 k ∧ Arr .u64 wr w.heap.size ps ∧ Arr .u64 wr w1.heap.size (List.replicate 320 0) ∧ Arr .u64 wr B3 (f k) ∧ Below w.heap.size w wr) (fun i _ => 15 - (intOf i).toNat)
 case atStart => exact ⟨0, by omega, rfl, X5, N5, by rw [hf0]; exact D4, B5⟩
 case round =>
  clear X5 N5 D4 B5
  obtain ⟨k, hk, rfl, A1, A2, A3, BB⟩ := hrel
  by_cases hlt : k < 15
  ·
   obtain ⟨rs, hrs, l_rs, hw⟩ := hst.out k hlt
   have l_ts := hfl.out k hk
   generalize hf1 : f k = ts at *
   generalize hf3 : f (k + 1) = us at *
   have HF3 := Lib.hid hf3
   have HRS := Lib.hid hrs
   clear hf1 hf3 hrs
   obtain ⟨xk, hxk⟩ : ∃ x, sl ts (20 * k) 20 = x := ⟨_, rfl⟩
   rw [hxk] at hw
   have HW := fun W (h : TabC W) => hw W h
   clear hw
   have hwr : IntKind.i64.wrap ((k : Int) + 1) = (k : Int) + 1 := wrap_i64_small (by omega) (by omega)
   go_wp2
   have k61_0 := A1.lt
   have k61_1 := A2.lt
   have k61_2 := A3.lt
   refine wp_region_ord [[], [0], [], [2], [3], [], [4, 5], [1, 0, 1, 2, 3, 4, 5, 6], [7, 6, 6, 0, 1, 2, 3, 4, 5, 6]] [some 10, some 11, some 12, some 13, some 14, some 15, some 16, some 17, none] 8 (fun b w' => Arr .u64 w' (w.heap.size) ps ∧ Arr .u64 w' (w1.heap.size) (List.replicate 320 0) ∧ Arr .u64 w' (B3) (if b then (pt ts (20 * (k + 1)) rs) else ts) ∧ Below w.heap.size w w') (fun opn f _ => match opn with | 0 => f 0 = .int .i64 ((k : Int)) | 1 => f 1 = .int .i64 ((k : Int) + 1) | 2 => f 2 = .int .i64 ((k : Int)) | 3 => f 3 = .pointer (some ⟨B3, 20 * k, none⟩) | 4 => f 4 = aggI .u64 xk | 5 => f 5 = aggI .u64 ps | 6 => f 6 = aggI .u64 rs | 7 => f 7 = .pointer (some ⟨B3, 20 * (k + 1), none⟩) | 8 => f 8 = undef | _ => True) (fun _ v v' => ∃ cs, v' = v.setRow (B3) cs) (by kernel_rfl) (by kernel_rfl) (by kernel_rfl) (by kernel_rfl) (fun b v v' hb h => ⟨h.1.below hb, h.2.1.below hb, h.2.2.1.below hb, below_then h.2.2.2 hb⟩) (fun _ _ _ _ _ h => h) (fun _ _ _ _ _ _ _ h => h) ⟨A1.drew, A2.drew, A3.drew, BB.drew⟩ ?_ ?_
   ·
    refine StepL.other (k := 0) rfl (fun b f W hb hG hH => ?_) ?_
    ·
     obtain rfl := hb rfl
     clear hH
     generalize hA : putL _ _ _ _ = A
     have q4 : A.eval (.tmp 4) = .int .i64 ((k : Int)) := putLn hA 4 rfl rfl rfl
     have r4 := slot_get q4
     clear hA
     refine Does.pure rfl (.int .i64 ((k : Int))) ?_ ⟨Below.refl _ _, rfl⟩
     go_simp
    refine StepL.other (k := 1) rfl (fun b f W hb hG hH => ?_) ?_
    ·
     obtain rfl := hb rfl
     obtain ⟨d0, -⟩ := hH
     generalize hA : putL _ _ _ _ = A
     have q10 := putLl hA 10 d0 rfl rfl
     have r10 := slot_get q10
     clear hA
     refine Does.pure rfl (.int .i64 ((k : Int) + 1)) ?_ ⟨Below.refl _ _, rfl⟩
     go_simp
    refine StepL.other (k := 2) rfl (fun b f W hb hG hH => ?_) ?_
    ·
     obtain rfl := hb rfl
     clear hH
     generalize hA : putL _ _ _ _ = A
     have q4 : A.eval (.tmp 4) = .int .i64 ((k : Int)) := putLn hA 4 rfl rfl rfl
     have r4 := slot_get q4
     clear hA
     refine Does.pure rfl (.int .i64 ((k : Int))) ?_ ⟨Below.refl _ _, rfl⟩
     go_simp
    refine StepL.other (k := 3) rfl (fun b f W hb hG hH => ?_) ?_
    ·
     obtain rfl := hb rfl
     obtain ⟨d2, -⟩ := hH
     generalize hA : putL _ _ _ _ = A
     have q3 : A.eval (.tmp 3) = .pointer (some ⟨B3, 0, none⟩) := putLn hA 3 rfl rfl rfl
     have q12 := putLl hA 12 d2 rfl rfl
     clear hA
     exact Does.indexA rfl 89 _ _ rfl (n := 16) (s := 20) Tryd.underlying89 info_point B3 0 q3 .i64 ((k : Int)) q12 (by omega) (by omega) (o1 := 20 * k) (by omega) ⟨Below.refl _ _, rfl⟩
    refine StepL.other (k := 4) rfl (fun b f W hb hG hH => ?_) ?_
    ·
     obtain rfl := hb rfl
     obtain ⟨d3, -⟩ := hH
     generalize hA : putL _ _ _ _ = A
     have q13 := putLl hA 13 d3 rfl rfl
     clear hA
     exact Does.loadM rfl 46 _ rfl 20 _ Tryd.underlying46 rfl info_point (B3) (20 * k) q13 .u64 (ts) (hG.2.2.1) (by omega) (hxk) ⟨Below.refl _ _, rfl⟩
    refine StepL.other (k := 5) rfl (fun b f W hb hG hH => ?_) ?_
    ·
     obtain rfl := hb rfl
     clear hH
     generalize hA : putL _ _ _ _ = A
     have q1 : A.eval (.tmp 1) = .pointer (some ⟨w.heap.size, 0, none⟩) := putLn hA 1 rfl rfl rfl
     clear hA
     exact Does.loadM rfl 46 _ rfl 20 _ Tryd.underlying46 rfl info_point (w.heap.size) (0) q1 .u64 (ps) (hG.1) (by omega) (sl_all l_ps) ⟨Below.refl _ _, rfl⟩
    refine StepL.other (k := 6) rfl (fun b f W hb hG hH => ?_) ?_
    ·
     obtain rfl := hb rfl
     obtain ⟨d4, d5, -⟩ := hH
     generalize hA : putL _ _ _ _ = A
     have q14 := putLl hA 14 d4 rfl rfl
     have r14 := slot_get q14
     have q15 := putLl hA 15 d5 rfl rfl
     have r15 := slot_get q15
     clear hA
     refine Does.call rfl _ _ (by go_simp) ((HW W (hT.below (hG.2.2.2))).mono ?_)
     rintro e w' ⟨rfl, hb'⟩
     exact ⟨_, rfl, hb', rfl⟩
    refine StepL.other (k := 7) rfl (fun b f W hb hG hH => ?_) ?_
    ·
     obtain rfl := hb rfl
     obtain ⟨d1, d0, -, d2, d3, d4, d5, d6, -⟩ := hH
     generalize hA : putL _ _ _ _ = A
     have q3 : A.eval (.tmp 3) = .pointer (some ⟨B3, 0, none⟩) := putLn hA 3 rfl rfl rfl
     have q11 := putLl hA 11 d1 rfl rfl
     clear hA
     exact Does.indexA rfl 89 _ _ rfl (n := 16) (s := 20) Tryd.underlying89 info_point B3 0 q3 .i64 ((k : Int) + 1) q11 (by omega) (by omega) (o1 := 20 * (k + 1)) (by omega) ⟨Below.refl _ _, rfl⟩
    refine StepL.self (k := 8) rfl (fun f W hG hH => ?_) ?_
    ·
     obtain ⟨d7, d6, -, d0, d1, d2, d3, d4, d5, -, -⟩ := hH
     generalize hA : putL _ _ _ _ = A
     have q17 := putLl hA 17 d7 rfl rfl
     have r17 := slot_get q17
     have q16 := putLl hA 16 d6 rfl rfl
     have r16 := slot_get q16
     clear hA
     have hZ : Arr .u64 W (B3) ts := hG.2.2.1
     refine Does.storeM rfl 46 _ _ rfl 20 info_point (B3) (20 * (k + 1)) q17 .u64 _ (rs) q16 hZ (l_rs) (by omega) ?_
     intro A9
     exact ⟨⟨_, rfl⟩, ⟨hG.1.rowOther (by omega) _, hG.2.1.rowOther (by omega) _, A9, Below.setRow hG.2.2.2 (by omega) _⟩, rfl⟩
    exact trivial
   ·
    intro f V61 hG hH
    obtain ⟨d0, d1, d2, d3, d4, d5, d6, d7, d8, -⟩ : (f 0 = .int .i64 ((k : Int))) ∧ (f 1 = .int .i64 ((k : Int) + 1)) ∧ (f 2 = .int .i64 ((k : Int))) ∧ (f 3 = .pointer (some ⟨B3, 20 * k, none⟩)) ∧ (f 4 = aggI .u64 xk) ∧ (f 5 = aggI .u64 ps) ∧ (f 6 = aggI .u64 rs) ∧ (f 7 = .pointer (some ⟨B3, 20 * (k + 1), none⟩)) ∧ (f 8 = undef) ∧ True := hH
    rw [show List.range (List.length [[], [0], [], [2], [3], [], [4, 5], [1, 0, 1, 2, 3, 4, 5, 6], [7, 6, 6, 0, 1, 2, 3, 4, 5, 6]]) = [0, 1, 2, 3, 4, 5, 6, 7, 8] from rfl]
    simp only [putL, List.getElem?_cons_zero, List.getElem?_cons_succ, Option.join, Option.bind_some, id_eq, Act.put, List.setIfInBounds_toArray, List.set_cons_zero, List.set_cons_succ, d0, d1, d2, d3, d4, d5, d6, d7]
    clear d0 d1 d2 d3 d4 d5 d6 d7 d8
    clear A1 A2 A3
    obtain ⟨A1, A2, A3, BV⟩ := hG
    have A3 : Arr .u64 V61 (B3) (pt ts (20 * (k + 1)) rs) := A3
    clear BB
    have BB := BV
    clear BV
    have zz61 := BB.size
    go_wp2
    exact ⟨⟨k + 1, by omega, by go_num, A1, A2, by rw [HF3.out, HRS.out]; exact A3, BB⟩, by simp only [intOf]; omega⟩
  ·
   obtain rfl : k = 15 := by omega
   have hl := hfl.out 15 (by omega)
   obtain ⟨rr, hr⟩ : ∃ rr, f 15 = rr := ⟨_, rfl⟩
   rw [hr] at A3 hl
   have HR := Lib.hid hr
   clear hr hlt
   go_wp2_with (first
  | (with_reducible refine at_n 19 ?_; refine wpList_val' (fun Q hQ => Does.loadM rfl 89 _ rfl 320 _ Tryd.underlying89 rfl info_table (B3) 0 rfl .u64 rr A3 (by omega) (sl_all hl) hQ) ?_)
  | (with_reducible refine at_op (o := ⟨_, .store 89 _ _, _, _, _, _⟩) ?_; refine wpList_storeI rfl 89 _ _ rfl 320 info_table (w1.heap.size) rfl .u64 _ (rr) rfl (A2) (by simp) (hl) ?_; intro A9))
   refine bodyPost_ret (results_cellM rfl _ 320 _ Tryd.underlying89 rfl info_table (w1.heap.size) rfl .u64 _ A9 hl) rfl ?_
   exact ⟨by rw [HR.out], Below.setRow BB (by omega) _⟩
theorem multiples_r {ps : List Int} {P : Pt} (hp : RepP ps P) : ∃ ts, TabP ts 15 P ∧ ∀ w, TabC w → Calls Tryd.prog 71 #[aggI .u64 ps] w fun e w' => e = .returned (aggI .u64 ts) ∧ Below w.heap.size w w' := by
  obtain ⟨ns, hn, cn⟩ := nothing_r
  obtain ⟨f, hf0, hf⟩ := multiples_chain hp (ns ++ List.replicate 300 0) ⟨by simp [hn.len], fun j hj => by
    obtain rfl : j = 0 := by omega
    rw [Nat.mul_zero, sl_app0 hn.len]; exact hn⟩
  exact ⟨f 15, (hf 15).1 (Nat.le_refl _), fun w hT => multiples_walk ps ns f w hT hp.len hn.len hf0 (Lib.hid fun m hm => ((hf m).1 hm).1) (Lib.hid fun m => (hf m).2) cn⟩
end Go.Proofs.YtelppapkffjmpaaDoor
end
section
namespace Go.Proofs.YtelppapkffjmpaaDoor
open Go.RowKit Go.Shelf
set_option linter.unusedVariables false
set_option maxRecDepth 8000

/-- A sum of so many points. -/
def sumP : Nat → (Nat → Pt) → Pt
  | 0, _ => pzero
  | n + 1, F => padd (sumP n F) (F n)
theorem padd_swap (a b c d : Pt) : padd (padd a b) (padd c d) = padd (padd a c) (padd b d) := by
  rw [padd_assoc, ← padd_assoc b, padd_comm b c, padd_assoc c, ← padd_assoc a]
theorem sumP_add (F G : Nat → Pt) : ∀ n, sumP n (fun j => padd (F j) (G j)) = padd (sumP n F) (sumP n G)
  | 0 => (padd_zero pzero).symm
  | n + 1 => by
    show padd (sumP n (fun j => padd (F j) (G j))) (padd (F n) (G n)) = padd (padd (sumP n F) (F n)) (padd (sumP n G) (G n))
    rw [sumP_add F G n, padd_swap]
theorem sumP_congr {F G : Nat → Pt} : ∀ n, (∀ j, j < n → F j = G j) → sumP n F = sumP n G
  | 0, _ => rfl
  | n + 1, h => by
    show padd (sumP n F) (F n) = padd (sumP n G) (G n)
    rw [sumP_congr n (fun j hj => h j (by omega)), h n (by omega)]
theorem dbl4 (A : Pt) : padd (padd (padd (padd A A) (padd A A)) (padd (padd A A) (padd A A))) (padd (padd (padd A A) (padd A A)) (padd (padd A A) (padd A A))) = smul 16 A := by
  have h2 : padd A A = smul 2 A := by rw [show (2 : Nat) = 1 + 1 from rfl, smul_add, smul_one]
  have h4 : padd (smul 2 A) (smul 2 A) = smul 4 A := (smul_add 2 A 2).symm
  have h8 : padd (smul 4 A) (smul 4 A) = smul 8 A := (smul_add 4 A 4).symm
  have h16 : padd (smul 8 A) (smul 8 A) = smul 16 A := (smul_add 8 A 8).symm
  rw [h2, h4, h8, h16]
theorem smul_padd (A B : Pt) : ∀ k, smul k (padd A B) = padd (smul k A) (smul k B)
  | 0 => (padd_zero pzero).symm
  | k + 1 => by
    show padd (smul k (padd A B)) (padd A B) = padd (padd (smul k A) A) (padd (smul k B) B)
    rw [smul_padd A B k, padd_swap]
theorem smul_sumP (k : Nat) (F : Nat → Pt) : ∀ n, smul k (sumP n F) = sumP n (fun j => smul k (F j))
  | 0 => smul_zero k
  | n + 1 => by
    show smul k (padd (sumP n F) (F n)) = padd (sumP n fun j => smul k (F j)) (smul k (F n))
    rw [smul_padd, smul_sumP k F n]
/-- Four bits of a number, the at-th from below. -/
def nib (kb : List Int) (at_ : Nat) : Int := at0 kb (at_ / 2) / 2 ^ (4 * (at_ % 2)) % 16
theorem nib_ok (kb : List Int) (at_ : Nat) : 0 ≤ nib kb at_ ∧ nib kb at_ < 16 := by unfold nib; omega
theorem bit4 (X : Nat) : X % 16 = X % 2 + 2 * (X / 2 % 2) + 4 * (X / 4 % 2) + 8 * (X / 8 % 2) := by omega
theorem nib_kB {kb : List Int} (h : Bytes kb) (t : Nat) (ht : t < 64) : nib kb t = ((kB kb / 16 ^ t % 16 : Nat) : Int) := by
  have e16 : (16 : Nat) ^ t = 2 ^ (4 * t) := by rw [show (16 : Nat) = 2 ^ 4 from rfl, ← Nat.pow_mul]
  rw [e16]
  have hb := fun i (hi : i < 4) => bitB_kB h (4 * t + i) (by omega)
  have hd : ∀ i, i < 4 → bitB kb (4 * t + i) = at0 kb (t / 2) / 2 ^ (4 * (t % 2)) / 2 ^ i % 2 := by
    intro i hi
    unfold bitB
    rw [show (4 * t + i) / 8 = t / 2 by omega, show (4 * t + i) % 8 = 4 * (t % 2) + i by omega, Int.pow_add, Int.ediv_ediv_of_nonneg (Int.le_of_lt (pow_pos2 _))]
  have hk : ∀ i, kB kb / 2 ^ (4 * t + i) = kB kb / 2 ^ (4 * t) / 2 ^ i := fun i => by rw [Nat.pow_add, Nat.div_div_eq_div_mul]
  have h0 := hb 0 (by omega); have h1 := hb 1 (by omega); have h2 := hb 2 (by omega); have h3 := hb 3 (by omega)
  rw [hd 0 (by omega), hk] at h0
  rw [hd 1 (by omega), hk] at h1
  rw [hd 2 (by omega), hk] at h2
  rw [hd 3 (by omega), hk] at h3
  unfold nib
  have hx := h.at (t / 2)
  have hn : 0 ≤ at0 kb (t / 2) / 2 ^ (4 * (t % 2)) := Int.ediv_nonneg hx.1 (Int.le_of_lt (pow_pos2 _))
  generalize at0 kb (t / 2) / 2 ^ (4 * (t % 2)) = y at *
  generalize kB kb / 2 ^ (4 * t) = X at *
  simp only [Int.reducePow, Nat.reducePow] at *
  omega
theorem smul_nib {K t : Nat} (P : Pt) : padd (smul 16 (smul (K / 16 ^ (t + 1)) P)) (smul (K / 16 ^ t % 16) P) = smul (K / 16 ^ t) P := by
  rw [← smul_mul, ← smul_add]
  congr 1
  rw [Nat.pow_succ, ← Nat.div_div_eq_div_mul]
  omega
/-- One turn: four times twice as much, then each point's table. -/
def StepT (n : Nat) (tms : List Int) (ts : Nat → List Int) (i : Nat) (x y : List Int) : Prop := i < 64 → ∃ d a : Nat → List Int, d 0 = x ∧ a 0 = d 4 ∧ y = a n ∧ (∀ c, c ≤ 4 → (d c).length = 20) ∧ (∀ j, j ≤ n → (a j).length = 20) ∧
  (∀ c, c < 4 → ∀ w, Calls Tryd.prog 73 #[aggI .u64 (d c)] w fun e w' => e = .returned (aggI .u64 (d (c + 1))) ∧ Below w.heap.size w w') ∧
  (∀ j, j < n → ∀ w, TabC w → Calls Tryd.prog 28 #[aggI .u64 (a j), aggI .u64 (sl (ts j) (20 * (nib (sl tms (32 * j) 32) (63 - i)).toNat) 20)] w fun e w' => e = .returned (aggI .u64 (a (j + 1))) ∧ Below w.heap.size w w')
set_option maxHeartbeats 1000000 in
theorem many_chain {n : Nat} {tms : List Int} {ts : Nat → List Int} {P : Nat → Pt} (ht : ∀ j, j < n → TabP (ts j) 15 (P j)) (hb : ∀ j, j < n → Bytes (sl tms (32 * j) 32)) (x0 : List Int) (h0 : RepP x0 pzero) :
    ∃ f : Nat → List Int, f 0 = x0 ∧ ∀ i, (i ≤ 64 → RepP (f i) (sumP n fun j => smul (kB (sl tms (32 * j) 32) / 16 ^ (64 - i)) (P j))) ∧ StepT n tms ts i (f i) (f (i + 1)) := by
  refine chain (Q := fun i x => i ≤ 64 → RepP x (sumP n fun j => smul (kB (sl tms (32 * j) 32) / 16 ^ (64 - i)) (P j))) x0 (fun _ => ?_) (fun i x hx => ?_)
  · have e : (sumP n fun j => smul (kB (sl tms (32 * j) 32) / 16 ^ (64 - 0)) (P j)) = pzero := by
      rw [sumP_congr (G := fun _ => pzero) n (fun j hj => by
        rw [Nat.div_eq_of_lt (by have := kB_lt (hb j hj); rw [show (16 : Nat) ^ (64 - 0) = 2 ^ 256 by decide]; exact this)]; rfl)]
      clear h0 ht hb
      induction n with
      | zero => rfl
      | succ n ih => show padd (sumP n fun _ => pzero) pzero = pzero; rw [ih, padd_zero]
    rw [e]; exact h0
  · by_cases hi : i < 64
    · have hq := hx (by omega)
      obtain ⟨d1, r1, c1⟩ := doubled_r hq
      obtain ⟨d2, r2, c2⟩ := doubled_r r1
      obtain ⟨d3, r3, c3⟩ := doubled_r r2
      obtain ⟨d4, r4, c4⟩ := doubled_r r3
      rw [dbl4] at r4
      have hin := chain (Q := fun j a => j ≤ n → RepP a (padd (smul 16 (sumP n fun j => smul (kB (sl tms (32 * j) 32) / 16 ^ (64 - i)) (P j))) (sumP j fun j => smul (kB (sl tms (32 * j) 32) / 16 ^ (63 - i) % 16) (P j))))
        (S := fun j a b => j < n → ∀ w, TabC w → Calls Tryd.prog 28 #[aggI .u64 a, aggI .u64 (sl (ts j) (20 * (nib (sl tms (32 * j) 32) (63 - i)).toNat) 20)] w fun e w' => e = .returned (aggI .u64 b) ∧ Below w.heap.size w w')
        d4 (fun _ => by show RepP d4 (padd _ pzero); rw [padd_zero]; exact r4) (fun j a ha => by
          by_cases hj : j < n
          · have hv := nib_kB (hb j hj) (63 - i) (by omega)
            have hlt := nib_ok (sl tms (32 * j) 32) (63 - i)
            have hr := (ht j hj).2 (nib (sl tms (32 * j) 32) (63 - i)).toNat (by omega)
            have ev : (nib (sl tms (32 * j) 32) (63 - i)).toNat = kB (sl tms (32 * j) 32) / 16 ^ (63 - i) % 16 := by rw [hv]; exact Int.toNat_natCast _
            obtain ⟨b, rb, cb⟩ := with_r (ha (by omega)) hr
            rw [ev, padd_assoc] at rb
            exact ⟨b, fun _ => rb, fun _ => cb⟩
          · exact ⟨a, fun h => absurd h (by omega), fun h => absurd h hj⟩)
      obtain ⟨a, ha0, ha⟩ := hin
      have hfin := (ha n).1 (Nat.le_refl _)
      rw [smul_sumP, ← sumP_add] at hfin
      refine ⟨a n, fun _ => ?_, fun _ => ⟨fun c => match c with | 0 => x | 1 => d1 | 2 => d2 | 3 => d3 | _ => d4, a, rfl, ha0, rfl, ?_, fun j hj => ((ha j).1 hj).len, ?_, fun j hj => (ha j).2 hj⟩⟩
      · rw [sumP_congr (G := fun j => smul (kB (sl tms (32 * j) 32) / 16 ^ (63 - i)) (P j)) n (fun j hj => by
          have h := smul_nib (K := kB (sl tms (32 * j) 32)) (t := 63 - i) (P j)
          rw [show 63 - i + 1 = 64 - i by omega] at h
          exact h)] at hfin
        rw [show 64 - (i + 1) = 63 - i by omega]
        exact hfin
      · intro c hc
        match c, hc with
        | 0, _ => exact hq.len
        | 1, _ => exact r1.len
        | 2, _ => exact r2.len
        | 3, _ => exact r3.len
        | 4, _ => exact r4.len
        | c + 5, h => omega
      · intro c hc
        match c, hc with
        | 0, _ => exact c1
        | 1, _ => exact c2
        | 2, _ => exact c3
        | 3, _ => exact c4
        | c + 4, h => omega
    · exact ⟨x, fun h => absurd h (by omega), fun h => absurd h hi⟩
end Go.Proofs.YtelppapkffjmpaaDoor
end
