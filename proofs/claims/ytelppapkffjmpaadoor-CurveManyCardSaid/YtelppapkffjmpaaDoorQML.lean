/- Merged: The bytes of a point; a point told by its bytes: walked. The row's condition on the three variables, as the walks want it. -/
import Derived.Test.YtelppapkffjmpaaDoorRows
import Derived.Lib.LaidTab
import Derived.ChangeSame
import Derived.Stop.LaidErr
import Derived.MakeChecks
import Derived.Test.YtelppapkffjmpaaDoorQMI
import Derived.Test.YtelppapkffjmpaaDoorQMA
import Derived.Test.YtelppapkffjmpaaDoorQMF
import Derived.Test.YtelppapkffjmpaaDoorQME
section
namespace Go.Proofs.YtelppapkffjmpaaDoor
open Go.RowKit Go.Shelf
set_option linter.unusedVariables false
set_option maxRecDepth 8000

/-- What load reads of the package's variables. -/
structure TabD (w : World) : Prop where
  g0 : Rd .u64 w 0 bLn
  g1 : Rd .u64 w 1 dLn
  r : Tab w
theorem TabD.below {w w' : World} (h : TabD w) (hb : Below w.heap.size w w') : TabD w' := ⟨h.g0.below hb, h.g1.below hb, h.r.below hb⟩
set_option maxHeartbeats 2000000 in
theorem pbytes_t (ps ps_5_5 cr0 ps_0_5 cr0_set31 : List Int) (cr0_at31 yb : Int) (w : World) (l_ps : ps.length = 10) (l_ps_5_5 : ps_5_5.length = 5) (l_cr0 : cr0.length = 32) (l_ps_0_5 : ps_0_5.length = 5) (l_cr0_set31 : cr0_set31.length = 32)
    (h_ps_5_5 : sl ps 5 5 = ps_5_5)
    (h_ps_0_5 : sl ps 0 5 = ps_0_5)
    (h_cr0_at31 : at0 cr0 31 = cr0_at31)
    (h_cr0_set31 : List.set cr0 31 (yb) = cr0_set31)
    (hor : bits BinOp.or IntKind.u8 cr0_at31 128 = yb)
    (H0 : ∀ W, Ret 75 #[aggI .u64 ps_5_5] (aggI .u8 cr0) W)
    (H1 : ∀ W, Ret 76 #[aggI .u64 ps_0_5] (.bool true) W) :
    Calls Tryd.prog 41 #[aggI .u64 ps] w fun e w' => e = .returned (aggI .u8 cr0_set31) ∧ Below w.heap.size w w' := by
  go_enter Tryd.func41, Tryd.ntmps41
  go_wp2_with (first
      | (with_reducible refine at_n 1 ?_; refine wpList_boxI rfl 44 _ rfl .u64 ps rfl ?_; intro w1 A1 s1 b1; have BB := b1; have y1 := BB.size)
      | (with_reducible refine at_n 2 ?_; refine wpList_allocI rfl 22 rfl .u8 32 zero_a32 ?_; intro w2 A2 s2 b2; have q2_1 := A1.lt; replace A1 := A1.below b2; replace BB := below_then BB b2; have y2 := BB.size)
      | (with_reducible refine at_n 4 ?_; refine wpList_val' (fun R hR => Does.fieldA rfl 44 _ 1 rfl (off := 5) (by kernel_rfl) (w.heap.size) 0 rfl (o1 := 5) rfl hR) ?_)
      | (with_reducible refine at_n 5 ?_; refine wpList_val' (fun R hR => Does.loadM rfl 42 _ rfl 5 _ und_limbs rfl info_limbs (w.heap.size) 5 rfl .u64 (ps) (A1) (by omega) (h_ps_5_5) hR) ?_)
      | (with_reducible refine at_n 3 ?_; refine wpList_allocI rfl 22 rfl .u8 32 zero_a32 ?_; intro w4 A3 s4 b4; have q4_1 := A1.lt; have q4_2 := A2.lt; replace A1 := A1.below b4; replace A2 := A2.below b4; replace BB := below_then BB b4; have y4 := BB.size)
      | (with_reducible refine at_op (o := ⟨_, .store 22 (.tmp 3) _, _, _, _, _⟩) ?_; refine wpList_storeI rfl 22 _ _ rfl 32 info_a32 (w3.heap.size) rfl .u8 _ (cr0) rfl (A3) (rfl) (l_cr0) ?_; intro D5; replace A1 := A1.rowOther (B' := w3.heap.size) (by omega) ((cr0).map (Value.int .u8)).toArray; replace A2 := A2.rowOther (B' := w3.heap.size) (by omega) ((cr0).map (Value.int .u8)).toArray; replace BB := Below.setRow BB (g := w3.heap.size) (by omega) ((cr0).map (Value.int .u8)).toArray; clear A3; have A3 := D5)
      | (with_reducible refine at_n 7 ?_; refine wpList_val' (fun R hR => Does.fieldA rfl 44 _ 0 rfl (off := 0) (by kernel_rfl) (w.heap.size) 0 rfl (o1 := 0) rfl hR) ?_)
      | (with_reducible refine at_n 8 ?_; refine wpList_val' (fun R hR => Does.loadM rfl 42 _ rfl 5 _ und_limbs rfl info_limbs (w.heap.size) 0 rfl .u64 (ps) (A1) (by omega) (h_ps_0_5) hR) ?_)
      | (with_reducible refine at_n 11 ?_; refine wpList_val' (fun R hR => Does.loadC rfl 5 _ rfl _ Tryd.underlying5 rfl (w3.heap.size) 31 rfl .u8 (cr0) (A3) (by rw [l_cr0]; decide) (h_cr0_at31) hR) ?_)
      | (with_reducible refine at_op (o := ⟨_, .store 5 (.tmp 13) _, _, _, _, _⟩) ?_; refine wpList_storeC rfl 5 _ _ rfl (by kernel_rfl) (w3.heap.size) 31 rfl .u8 _ rfl (cr0) cr0_set31 (A3) (by rw [l_cr0]; decide) (by first | exact h_cr0_set31 | (simp only [hor]; exact h_cr0_set31)) ?_; intro w7 D7 O7 L7; replace A1 := O7 _ _ _ (by omega) A1; replace A2 := O7 _ _ _ (by omega) A2; replace BB := L7 _ _ BB (by omega); have z7 := BB.size; clear O7 L7 A3; have A3 := D7)
      | (with_reducible refine at_n 14 ?_; refine wpList_val' (fun R hR => Does.loadM rfl 22 _ rfl 32 _ und_a32 rfl info_a32 (w3.heap.size) 0 rfl .u8 (cr0_set31) (A3) (by omega) (sl_all l_cr0_set31) hR) ?_)
      | (with_reducible refine at_op (o := ⟨_, .store 22 (.tmp 2) _, _, _, _, _⟩) ?_; refine wpList_storeI rfl 22 _ _ rfl 32 info_a32 (w1.heap.size) rfl .u8 _ (cr0_set31) rfl (A2) (rfl) (l_cr0_set31) ?_; intro D8; replace A1 := A1.rowOther (B' := w1.heap.size) (by omega) ((cr0_set31).map (Value.int .u8)).toArray; replace A3 := A3.rowOther (B' := w1.heap.size) (by omega) ((cr0_set31).map (Value.int .u8)).toArray; replace BB := Below.setRow BB (g := w1.heap.size) (by omega) ((cr0_set31).map (Value.int .u8)).toArray; clear A2; have A2 := D8)
      | (go_at_call 75; first | ((with_reducible refine (H0 _).mono ?_); rintro e w3 ⟨rfl, b3⟩; replace A1 := A1.below b3; replace A2 := A2.below b3; replace BB := below_then BB b3; have z3 := BB.size))
      | (go_at_call 76; first | ((with_reducible refine (H1 _).mono ?_); rintro e w6 ⟨rfl, b6⟩; replace A1 := A1.below b6; replace A2 := A2.below b6; replace A3 := A3.below b6; replace BB := below_then BB b6; have z6 := BB.size)))
  refine bodyPost_ret (results_cellM rfl _ 32 _ und_a32 rfl info_a32 (w1.heap.size) rfl .u8 _ A2 (l_cr0_set31)) rfl ?_
  exact ⟨rfl, BB⟩
set_option maxHeartbeats 2000000 in
theorem pbytes_f (ps ps_5_5 cr0 ps_0_5 : List Int) (w : World) (l_ps : ps.length = 10) (l_ps_5_5 : ps_5_5.length = 5) (l_cr0 : cr0.length = 32) (l_ps_0_5 : ps_0_5.length = 5)
    (h_ps_5_5 : sl ps 5 5 = ps_5_5)
    (h_ps_0_5 : sl ps 0 5 = ps_0_5)
    (H0 : ∀ W, Ret 75 #[aggI .u64 ps_5_5] (aggI .u8 cr0) W)
    (H1 : ∀ W, Ret 76 #[aggI .u64 ps_0_5] (.bool false) W) :
    Calls Tryd.prog 41 #[aggI .u64 ps] w fun e w' => e = .returned (aggI .u8 cr0) ∧ Below w.heap.size w w' := by
  go_enter Tryd.func41, Tryd.ntmps41
  go_wp2_with (first
      | (with_reducible refine at_n 1 ?_; refine wpList_boxI rfl 44 _ rfl .u64 ps rfl ?_; intro w1 A1 s1 b1; have BB := b1; have y1 := BB.size)
      | (with_reducible refine at_n 2 ?_; refine wpList_allocI rfl 22 rfl .u8 32 zero_a32 ?_; intro w2 A2 s2 b2; have q2_1 := A1.lt; replace A1 := A1.below b2; replace BB := below_then BB b2; have y2 := BB.size)
      | (with_reducible refine at_n 4 ?_; refine wpList_val' (fun R hR => Does.fieldA rfl 44 _ 1 rfl (off := 5) (by kernel_rfl) (w.heap.size) 0 rfl (o1 := 5) rfl hR) ?_)
      | (with_reducible refine at_n 5 ?_; refine wpList_val' (fun R hR => Does.loadM rfl 42 _ rfl 5 _ und_limbs rfl info_limbs (w.heap.size) 5 rfl .u64 (ps) (A1) (by omega) (h_ps_5_5) hR) ?_)
      | (with_reducible refine at_n 3 ?_; refine wpList_allocI rfl 22 rfl .u8 32 zero_a32 ?_; intro w4 A3 s4 b4; have q4_1 := A1.lt; have q4_2 := A2.lt; replace A1 := A1.below b4; replace A2 := A2.below b4; replace BB := below_then BB b4; have y4 := BB.size)
      | (with_reducible refine at_op (o := ⟨_, .store 22 (.tmp 3) _, _, _, _, _⟩) ?_; refine wpList_storeI rfl 22 _ _ rfl 32 info_a32 (w3.heap.size) rfl .u8 _ (cr0) rfl (A3) (rfl) (l_cr0) ?_; intro D5; replace A1 := A1.rowOther (B' := w3.heap.size) (by omega) ((cr0).map (Value.int .u8)).toArray; replace A2 := A2.rowOther (B' := w3.heap.size) (by omega) ((cr0).map (Value.int .u8)).toArray; replace BB := Below.setRow BB (g := w3.heap.size) (by omega) ((cr0).map (Value.int .u8)).toArray; clear A3; have A3 := D5)
      | (with_reducible refine at_n 7 ?_; refine wpList_val' (fun R hR => Does.fieldA rfl 44 _ 0 rfl (off := 0) (by kernel_rfl) (w.heap.size) 0 rfl (o1 := 0) rfl hR) ?_)
      | (with_reducible refine at_n 8 ?_; refine wpList_val' (fun R hR => Does.loadM rfl 42 _ rfl 5 _ und_limbs rfl info_limbs (w.heap.size) 0 rfl .u64 (ps) (A1) (by omega) (h_ps_0_5) hR) ?_)
      | (with_reducible refine at_n 14 ?_; refine wpList_val' (fun R hR => Does.loadM rfl 22 _ rfl 32 _ und_a32 rfl info_a32 (w3.heap.size) 0 rfl .u8 (cr0) (A3) (by omega) (sl_all l_cr0) hR) ?_)
      | (with_reducible refine at_op (o := ⟨_, .store 22 (.tmp 2) _, _, _, _, _⟩) ?_; refine wpList_storeI rfl 22 _ _ rfl 32 info_a32 (w1.heap.size) rfl .u8 _ (cr0) rfl (A2) (rfl) (l_cr0) ?_; intro D7; replace A1 := A1.rowOther (B' := w1.heap.size) (by omega) ((cr0).map (Value.int .u8)).toArray; replace A3 := A3.rowOther (B' := w1.heap.size) (by omega) ((cr0).map (Value.int .u8)).toArray; replace BB := Below.setRow BB (g := w1.heap.size) (by omega) ((cr0).map (Value.int .u8)).toArray; clear A2; have A2 := D7)
      | (go_at_call 75; first | ((with_reducible refine (H0 _).mono ?_); rintro e w3 ⟨rfl, b3⟩; replace A1 := A1.below b3; replace A2 := A2.below b3; replace BB := below_then BB b3; have z3 := BB.size))
      | (go_at_call 76; first | ((with_reducible refine (H1 _).mono ?_); rintro e w6 ⟨rfl, b6⟩; replace A1 := A1.below b6; replace A2 := A2.below b6; replace A3 := A3.below b6; replace BB := below_then BB b6; have z6 := BB.size)))
  refine bodyPost_ret (results_cellM rfl _ 32 _ und_a32 rfl info_a32 (w1.heap.size) rfl .u8 _ A2 (l_cr0)) rfl ?_
  exact ⟨rfl, BB⟩
set_option maxHeartbeats 2000000 in
theorem load_nt (xb xb_set31 bu0 : List Int) (xb_at31 yb : Int) (w : World) (l_xb : xb.length = 32) (l_xb_set31 : xb_set31.length = 32) (l_bu0 : bu0.length = 20)
    (h_xb_at31 : at0 xb 31 = xb_at31)
    (h_xb_set31 : List.set xb 31 (yb) = xb_set31)
    (hand : bits BinOp.and IntKind.u8 xb_at31 128 = 128)
    (hlow : bits BinOp.and IntKind.u8 xb_at31 127 = yb)
    (hbu0 : Tryd.prog.built 46 [] = some (bu0.map (Value.int .u64)).toArray)
    (H0 : ∀ W, Ret 66 #[aggI .u8 xb_set31] (.bool false) W) :
    Calls Tryd.prog 36 #[aggI .u8 xb] w fun e w' => e = .returned (.tuple #[aggI .u64 bu0, .bool false]) ∧ Below w.heap.size w w' := by
  go_enter Tryd.func36, Tryd.ntmps36
  go_wp2_with (first
      | (with_reducible refine at_n 1 ?_; refine wpList_boxI rfl 22 _ rfl .u8 xb rfl ?_; intro w1 A1 s1 b1; have BB := b1; have y1 := BB.size)
      | (with_reducible refine at_n 2 ?_; refine wpList_allocI rfl 46 rfl .u64 20 zero_point ?_; intro w2 A2 s2 b2; have q2_1 := A1.lt; replace A1 := A1.below b2; replace BB := below_then BB b2; have y2 := BB.size)
      | (with_reducible refine at_n 12 ?_; refine wpList_val' (fun R hR => Does.loadC rfl 5 _ rfl _ Tryd.underlying5 rfl (w.heap.size) 31 rfl .u8 (xb) (A1) (by rw [l_xb]; decide) (h_xb_at31) hR) ?_)
      | (with_reducible refine at_n 16 ?_; refine wpList_val' (fun R hR => Does.loadC rfl 5 _ rfl _ Tryd.underlying5 rfl (w.heap.size) 31 rfl .u8 (xb) (A1) (by rw [l_xb]; decide) (h_xb_at31) hR) ?_)
      | (with_reducible refine at_op (o := ⟨_, .store 5 (.tmp 18) _, _, _, _, _⟩) ?_; refine wpList_storeC rfl 5 _ _ rfl (by kernel_rfl) (w.heap.size) 31 rfl .u8 _ rfl (xb) xb_set31 (A1) (by rw [l_xb]; decide) (by first | exact h_xb_set31 | (simp only [hand, hlow]; exact h_xb_set31)) ?_; intro w3 D3 O3 L3; replace A2 := O3 _ _ _ (by omega) A2; replace BB := L3 _ _ BB (by omega); have z3 := BB.size; clear O3 L3 A1; have A1 := D3)
      | (with_reducible refine at_n 19 ?_; refine wpList_val' (fun R hR => Does.loadM rfl 22 _ rfl 32 _ und_a32 rfl info_a32 (w.heap.size) 0 rfl .u8 (xb_set31) (A1) (by omega) (sl_all l_xb_set31) hR) ?_)
      | (with_reducible refine at_n 22 ?_; go_loud (refine wpList_val' (fun R hR => Does.buildI rfl 46 _ rfl .u64 (bu0) _ (hbu0) rfl hR) ?_))
      | (with_reducible refine at_op (o := ⟨_, .store 46 (.tmp 2) _, _, _, _, _⟩) ?_; refine wpList_storeI rfl 46 _ _ rfl 20 info_point (w1.heap.size) rfl .u64 _ (bu0) rfl (A2) (rfl) (l_bu0) ?_; intro D5; replace A1 := A1.rowOther (B' := w1.heap.size) (by omega) ((bu0).map (Value.int .u64)).toArray; replace BB := Below.setRow BB (g := w1.heap.size) (by omega) ((bu0).map (Value.int .u64)).toArray; clear A2; have A2 := D5)
      | (go_at_call 66; first | ((with_reducible refine (H0 _).mono ?_); rintro e w4 ⟨rfl, b4⟩; replace A1 := A1.below b4; replace A2 := A2.below b4; replace BB := below_then BB b4; have z4 := BB.size)))
  refine bodyPost_ret (results_cell_tmpM rfl _ 20 _ Tryd.underlying46 rfl info_point (w1.heap.size) rfl .u64 _ A2 (l_bu0)) rfl ?_
  exact ⟨rfl, BB⟩
set_option maxHeartbeats 2000000 in
theorem load_zt (xb xb_set31 cr1 cr2 cr3 cr4 cr5 cr6 cr7 cr8 rx bu0 : List Int) (xb_at31 yb : Int) (w : World) (hT : TabD w)
  (l_xb : xb.length = 32) (l_xb_set31 : xb_set31.length = 32) (l_cr1 : cr1.length = 5) (l_cr2 : cr2.length = 5) (l_cr3 : cr3.length = 5) (l_cr4 : cr4.length = 5) (l_cr5 : cr5.length = 5) (l_cr6 : cr6.length = 5) (l_cr7 : cr7.length = 5) (l_cr8 : cr8.length = 5) (l_rx : rx.length = 5) (l_bu0 : bu0.length = 20)
  (h_xb_at31 : at0 xb 31 = xb_at31)
  (h_xb_set31 : List.set xb 31 (yb) = xb_set31)
  (hand : bits BinOp.and IntKind.u8 xb_at31 128 = 128)
  (hlow : bits BinOp.and IntKind.u8 xb_at31 127 = yb)
  (hbu0 : Tryd.prog.built 46 [] = some (bu0.map (Value.int .u64)).toArray)
  (H0 : ∀ W, Ret 66 #[aggI .u8 xb_set31] (.bool true) W)
  (H1 : ∀ W, Ret 67 #[aggI .u8 xb_set31] (aggI .u64 cr1) W)
  (H2 : ∀ W, Ret 49 #[aggI .u64 cr1, aggI .u64 cr1] (aggI .u64 cr2) W)
  (H3 : ∀ W, Ret 63 #[.int .u32 1] (aggI .u64 cr3) W)
  (H4 : ∀ W, Ret 53 #[aggI .u64 cr2, aggI .u64 cr3] (aggI .u64 cr4) W)
  (H5 : ∀ W, Ret 49 #[aggI .u64 cr2, aggI .u64 dLn] (aggI .u64 cr5) W)
  (H6 : ∀ W, Ret 51 #[aggI .u64 cr5, aggI .u64 cr3] (aggI .u64 cr6) W)
  (H7 : ∀ W, Ret 68 #[aggI .u64 cr6] (aggI .u64 cr7) W)
  (H8 : ∀ W, Ret 49 #[aggI .u64 cr4, aggI .u64 cr7] (aggI .u64 cr8) W)
  (H9 : ∀ W, TabD W → Ret 69 #[aggI .u64 cr8] (.tuple #[aggI .u64 rx, .bool false]) W) :
  Calls Tryd.prog 36 #[aggI .u8 xb] w fun e w' => e = .returned (.tuple #[aggI .u64 bu0, .bool false]) ∧ Below w.heap.size w w' := by
 go_enter Tryd.func36, Tryd.ntmps36
 go_wp2_with (first
   | (with_reducible refine at_n 1 ?_; refine wpList_boxI rfl 22 _ rfl .u8 xb rfl ?_; intro w1 A1 s1 b1; have BB := b1; have y1 := BB.size)
   | (with_reducible refine at_n 2 ?_; refine wpList_allocI rfl 46 rfl .u64 20 zero_point ?_; intro w2 A2 s2 b2; have q2_1 := A1.lt; replace A1 := A1.below b2; replace BB := below_then BB b2; have y2 := BB.size)
   | (with_reducible refine at_n 12 ?_; refine wpList_val' (fun R hR => Does.loadC rfl 5 _ rfl _ Tryd.underlying5 rfl (w.heap.size) 31 rfl .u8 (xb) (A1) (by rw [l_xb]; decide) (h_xb_at31) hR) ?_)
   | (with_reducible refine at_n 16 ?_; refine wpList_val' (fun R hR => Does.loadC rfl 5 _ rfl _ Tryd.underlying5 rfl (w.heap.size) 31 rfl .u8 (xb) (A1) (by rw [l_xb]; decide) (h_xb_at31) hR) ?_)
   | (with_reducible refine at_op (o := ⟨_, .store 5 (.tmp 18) _, _, _, _, _⟩) ?_; refine wpList_storeC rfl 5 _ _ rfl (by kernel_rfl) (w.heap.size) 31 rfl .u8 _ rfl (xb) xb_set31 (A1) (by rw [l_xb]; decide) (by first | exact h_xb_set31 | (simp only [hand, hlow]; exact h_xb_set31)) ?_; intro w3 D3 O3 L3; replace A2 := O3 _ _ _ (by omega) A2; replace BB := L3 _ _ BB (by omega); have z3 := BB.size; clear O3 L3 A1; have A1 := D3)
   | (with_reducible refine at_n 19 ?_; refine wpList_val' (fun R hR => Does.loadM rfl 22 _ rfl 32 _ und_a32 rfl info_a32 (w.heap.size) 0 rfl .u8 (xb_set31) (A1) (by omega) (sl_all l_xb_set31) hR) ?_)
   | (with_reducible refine at_n 23 ?_; refine wpList_val' (fun R hR => Does.loadM rfl 22 _ rfl 32 _ und_a32 rfl info_a32 (w.heap.size) 0 rfl .u8 (xb_set31) (A1) (by omega) (sl_all l_xb_set31) hR) ?_)
   | (with_reducible refine at_n 5 ?_; refine wpList_allocI rfl 42 rfl .u64 5 zero_limbs ?_; intro w6 A5 s6 b6; have q6_1 := A1.lt; have q6_2 := A2.lt; replace A1 := A1.below b6; replace A2 := A2.below b6; replace BB := below_then BB b6; have y6 := BB.size)
   | (with_reducible refine at_op (o := ⟨_, .store 42 (.tmp 5) _, _, _, _, _⟩) ?_; refine wpList_storeI rfl 42 _ _ rfl 5 info_limbs (w5.heap.size) rfl .u64 _ (cr1) rfl (A5) (rfl) (l_cr1) ?_; intro D7; replace A1 := A1.rowOther (B' := w5.heap.size) (by omega) ((cr1).map (Value.int .u64)).toArray; replace A2 := A2.rowOther (B' := w5.heap.size) (by omega) ((cr1).map (Value.int .u64)).toArray; replace BB := Below.setRow BB (g := w5.heap.size) (by omega) ((cr1).map (Value.int .u64)).toArray; clear A5; have A5 := D7)
   | (with_reducible refine at_n 25 ?_; refine wpList_val' (fun R hR => Does.loadM rfl 42 _ rfl 5 _ und_limbs rfl info_limbs (w5.heap.size) 0 rfl .u64 (cr1) (A5) (by omega) (sl_all l_cr1) hR) ?_)
   | (with_reducible refine at_n 26 ?_; refine wpList_val' (fun R hR => Does.loadM rfl 42 _ rfl 5 _ und_limbs rfl info_limbs (w5.heap.size) 0 rfl .u64 (cr1) (A5) (by omega) (sl_all l_cr1) hR) ?_)
   | (with_reducible refine at_n 6 ?_; refine wpList_allocI rfl 42 rfl .u64 5 zero_limbs ?_; intro w9 A6 s9 b9; have q9_1 := A1.lt; have q9_2 := A2.lt; have q9_5 := A5.lt; replace A1 := A1.below b9; replace A2 := A2.below b9; replace A5 := A5.below b9; replace BB := below_then BB b9; have y9 := BB.size)
   | (with_reducible refine at_op (o := ⟨_, .store 42 (.tmp 6) _, _, _, _, _⟩) ?_; refine wpList_storeI rfl 42 _ _ rfl 5 info_limbs (w8.heap.size) rfl .u64 _ (cr2) rfl (A6) (rfl) (l_cr2) ?_; intro D10; replace A1 := A1.rowOther (B' := w8.heap.size) (by omega) ((cr2).map (Value.int .u64)).toArray; replace A2 := A2.rowOther (B' := w8.heap.size) (by omega) ((cr2).map (Value.int .u64)).toArray; replace A5 := A5.rowOther (B' := w8.heap.size) (by omega) ((cr2).map (Value.int .u64)).toArray; replace BB := Below.setRow BB (g := w8.heap.size) (by omega) ((cr2).map (Value.int .u64)).toArray; clear A6; have A6 := D10)
   | (with_reducible refine at_n 7 ?_; refine wpList_allocI rfl 42 rfl .u64 5 zero_limbs ?_; intro w12 A7 s12 b12; have q12_1 := A1.lt; have q12_2 := A2.lt; have q12_5 := A5.lt; have q12_6 := A6.lt; replace A1 := A1.below b12; replace A2 := A2.below b12; replace A5 := A5.below b12; replace A6 := A6.below b12; replace BB := below_then BB b12; have y12 := BB.size)
   | (with_reducible refine at_op (o := ⟨_, .store 42 (.tmp 7) _, _, _, _, _⟩) ?_; refine wpList_storeI rfl 42 _ _ rfl 5 info_limbs (w11.heap.size) rfl .u64 _ (cr3) rfl (A7) (rfl) (l_cr3) ?_; intro D13; replace A1 := A1.rowOther (B' := w11.heap.size) (by omega) ((cr3).map (Value.int .u64)).toArray; replace A2 := A2.rowOther (B' := w11.heap.size) (by omega) ((cr3).map (Value.int .u64)).toArray; replace A5 := A5.rowOther (B' := w11.heap.size) (by omega) ((cr3).map (Value.int .u64)).toArray; replace A6 := A6.rowOther (B' := w11.heap.size) (by omega) ((cr3).map (Value.int .u64)).toArray; replace BB := Below.setRow BB (g := w11.heap.size) (by omega) ((cr3).map (Value.int .u64)).toArray; clear A7; have A7 := D13)
   | (go_at_call 66; first | ((with_reducible refine (H0 _).mono ?_); rintro e w4 ⟨rfl, b4⟩; replace A1 := A1.below b4; replace A2 := A2.below b4; replace BB := below_then BB b4; have z4 := BB.size))
   | (go_at_call 67; first | ((with_reducible refine (H1 _).mono ?_); rintro e w5 ⟨rfl, b5⟩; replace A1 := A1.below b5; replace A2 := A2.below b5; replace BB := below_then BB b5; have z5 := BB.size))
   | (go_at_call 49; first | ((with_reducible refine (H2 _).mono ?_); rintro e w8 ⟨rfl, b8⟩; replace A1 := A1.below b8; replace A2 := A2.below b8; replace A5 := A5.below b8; replace BB := below_then BB b8; have z8 := BB.size))
   | (go_at_call 63; first | ((with_reducible refine (H3 _).mono ?_); rintro e w11 ⟨rfl, b11⟩; replace A1 := A1.below b11; replace A2 := A2.below b11; replace A5 := A5.below b11; replace A6 := A6.below b11; replace BB := below_then BB b11; have z11 := BB.size)))
 refine wp_world fun Wc14 hWc => ?_
 rw [← hWc] at BB A1 A2 A5 A6 A7
 clear hWc
 have k14_0 := A1.lt
 have k14_1 := A2.lt
 have k14_2 := A5.lt
 have k14_3 := A6.lt
 have k14_4 := A7.lt
 refine wp_region_new [[], [], [0, 1], [], [], [3, 4, 2], [], [5, 6, 5], [7, 7], [2, 8, 8], [9, 9], [10], [11], [11], [], [14, 12, 10, 0, 1, 2, 3, 4, 5, 6, 7, 8, 9, 10, 11, 12, 14], [13, 15, 0, 1, 2, 3, 4, 5, 6, 7, 8, 9, 10, 11, 12, 13, 14, 15]] [some 30, some 31, some 32, some 33, some 34, some 35, some 36, some 37, some 38, some 39, some 40, some 29, some 41, some 42, some 8, none, some 9] (Wc14.heap.size) [⟨14, 15, .u64, 5, rx⟩] (fun w' => Arr .u8 w' (w.heap.size) xb_set31 ∧ Arr .u64 w' (w1.heap.size) (List.replicate 20 0) ∧ Arr .u64 w' (w5.heap.size) cr1 ∧ Arr .u64 w' (w8.heap.size) cr2 ∧ Arr .u64 w' (w11.heap.size) cr3 ∧ Below Wc14.heap.size Wc14 w') (fun opn f _ => match opn with | 0 => f 0 = aggI .u64 cr2 | 1 => f 1 = aggI .u64 cr3 | 2 => f 2 = aggI .u64 cr4 | 3 => f 3 = aggI .u64 cr2 | 4 => f 4 = aggI .u64 dLn | 5 => f 5 = aggI .u64 cr5 | 6 => f 6 = aggI .u64 cr3 | 7 => f 7 = aggI .u64 cr6 | 8 => f 8 = aggI .u64 cr7 | 9 => f 9 = aggI .u64 cr8 | 10 => f 10 = .tuple #[aggI .u64 rx, .bool false] | 11 => f 11 = .tuple #[aggI .u64 rx, .bool false] | 12 => f 12 = aggI .u64 rx | 13 => f 13 = .bool false | 16 => f 16 = .bool false | _ => True) (by kernel_rfl) (by kernel_rfl) (by kernel_rfl) (by kernel_rfl) rfl (by intro it h it' h' e; simp only [List.mem_cons, List.not_mem_nil, or_false] at h h'; rcases h with rfl <;> rcases h' with rfl <;> first | rfl | (simp at e)) (fun v v' hb h => ⟨h.1.below hb, h.2.1.below hb, h.2.2.1.below hb, h.2.2.2.1.below hb, h.2.2.2.2.1.below hb, below_then h.2.2.2.2.2 hb⟩) (fun v h => h.2.2.2.2.2.size) (fun v B cs hB h => ⟨h.1.rowOther (by omega) _, h.2.1.rowOther (by omega) _, h.2.2.1.rowOther (by omega) _, h.2.2.2.1.rowOther (by omega) _, h.2.2.2.2.1.rowOther (by omega) _, Below.setRow h.2.2.2.2.2 (by omega) _⟩) (fun _ _ _ _ h => h) ⟨A1.drew, A2.drew, A5.drew, A6.drew, A7.drew, (Below.refl _ _).drew⟩ ?_ (by intro it h; simp only [List.mem_cons, List.not_mem_nil, or_false] at h; rcases h with rfl <;> exact ⟨by simp, by simp⟩) ?_
 ·
  refine StepN.plain rfl (fun f W hG hH => ?_) ?_
  ·
   clear hH
   generalize hA : putL _ _ _ _ = A
   have q6 : A.eval (.tmp 6) = .pointer (some ⟨w8.heap.size, 0, none⟩) := putLn hA 6 rfl rfl rfl
   clear hA
   exact Does.loadM rfl 42 _ rfl 5 _ und_limbs rfl info_limbs (w8.heap.size) (0) q6 .u64 (cr2) (hG.2.2.2.1) (by omega) (sl_all l_cr2) ⟨Below.refl _ _, rfl⟩
  refine StepN.plain rfl (fun f W hG hH => ?_) ?_
  ·
   clear hH
   generalize hA : putL _ _ _ _ = A
   have q7 : A.eval (.tmp 7) = .pointer (some ⟨w11.heap.size, 0, none⟩) := putLn hA 7 rfl rfl rfl
   clear hA
   exact Does.loadM rfl 42 _ rfl 5 _ und_limbs rfl info_limbs (w11.heap.size) (0) q7 .u64 (cr3) (hG.2.2.2.2.1) (by omega) (sl_all l_cr3) ⟨Below.refl _ _, rfl⟩
  refine StepN.plain rfl (fun f W hG hH => ?_) ?_
  ·
   obtain ⟨d0, d1, -⟩ := hH
   generalize hA : putL _ _ _ _ = A
   have q30 := putLl hA 30 d0 rfl rfl
   have r30 := slot_get q30
   have q31 := putLl hA 31 d1 rfl rfl
   have r31 := slot_get q31
   clear hA
   refine Does.call rfl _ _ (by go_simp) ((H4 W).mono ?_)
   rintro e w' ⟨rfl, hb'⟩
   exact ⟨_, rfl, hb', rfl⟩
  refine StepN.plain rfl (fun f W hG hH => ?_) ?_
  ·
   clear hH
   generalize hA : putL _ _ _ _ = A
   have q6 : A.eval (.tmp 6) = .pointer (some ⟨w8.heap.size, 0, none⟩) := putLn hA 6 rfl rfl rfl
   clear hA
   exact Does.loadM rfl 42 _ rfl 5 _ und_limbs rfl info_limbs (w8.heap.size) (0) q6 .u64 (cr2) (hG.2.2.2.1) (by omega) (sl_all l_cr2) ⟨Below.refl _ _, rfl⟩
  refine StepN.plain rfl (fun f W hG hH => ?_) ?_
  ·
   clear hH
   generalize hA : putL _ _ _ _ = A
   clear hA
   exact Does.loadG rfl 42 _ rfl 5 _ und_limbs rfl info_limbs 1 0 rfl .u64 (dLn) ((hT.below (below_then BB hG.2.2.2.2.2)).g1) (by rw [l_dLn]; decide) (sl_all l_dLn) ⟨Below.refl _ _, rfl⟩
  refine StepN.plain rfl (fun f W hG hH => ?_) ?_
  ·
   obtain ⟨d3, d4, d2, -⟩ := hH
   generalize hA : putL _ _ _ _ = A
   have q33 := putLl hA 33 d3 rfl rfl
   have r33 := slot_get q33
   have q34 := putLl hA 34 d4 rfl rfl
   have r34 := slot_get q34
   clear hA
   refine Does.call rfl _ _ (by go_simp) ((H5 W).mono ?_)
   rintro e w' ⟨rfl, hb'⟩
   exact ⟨_, rfl, hb', rfl⟩
  refine StepN.plain rfl (fun f W hG hH => ?_) ?_
  ·
   clear hH
   generalize hA : putL _ _ _ _ = A
   have q7 : A.eval (.tmp 7) = .pointer (some ⟨w11.heap.size, 0, none⟩) := putLn hA 7 rfl rfl rfl
   clear hA
   exact Does.loadM rfl 42 _ rfl 5 _ und_limbs rfl info_limbs (w11.heap.size) (0) q7 .u64 (cr3) (hG.2.2.2.2.1) (by omega) (sl_all l_cr3) ⟨Below.refl _ _, rfl⟩
  refine StepN.plain rfl (fun f W hG hH => ?_) ?_
  ·
   obtain ⟨d5, d6, -, -⟩ := hH
   generalize hA : putL _ _ _ _ = A
   have q35 := putLl hA 35 d5 rfl rfl
   have r35 := slot_get q35
   have q36 := putLl hA 36 d6 rfl rfl
   have r36 := slot_get q36
   clear hA
   refine Does.call rfl _ _ (by go_simp) ((H6 W).mono ?_)
   rintro e w' ⟨rfl, hb'⟩
   exact ⟨_, rfl, hb', rfl⟩
  refine StepN.plain rfl (fun f W hG hH => ?_) ?_
  ·
   obtain ⟨d7, -, -⟩ := hH
   generalize hA : putL _ _ _ _ = A
   have q37 := putLl hA 37 d7 rfl rfl
   have r37 := slot_get q37
   clear hA
   refine Does.call rfl _ _ (by go_simp) ((H7 W).mono ?_)
   rintro e w' ⟨rfl, hb'⟩
   exact ⟨_, rfl, hb', rfl⟩
  refine StepN.plain rfl (fun f W hG hH => ?_) ?_
  ·
   obtain ⟨d2, d8, -, -⟩ := hH
   generalize hA : putL _ _ _ _ = A
   have q32 := putLl hA 32 d2 rfl rfl
   have r32 := slot_get q32
   have q38 := putLl hA 38 d8 rfl rfl
   have r38 := slot_get q38
   clear hA
   refine Does.call rfl _ _ (by go_simp) ((H8 W).mono ?_)
   rintro e w' ⟨rfl, hb'⟩
   exact ⟨_, rfl, hb', rfl⟩
  refine StepN.plain rfl (fun f W hG hH => ?_) ?_
  ·
   obtain ⟨d9, -, -⟩ := hH
   generalize hA : putL _ _ _ _ = A
   have q39 := putLl hA 39 d9 rfl rfl
   have r39 := slot_get q39
   clear hA
   refine Does.call rfl _ _ (by go_simp) ((H9 W (hT.below (below_then BB hG.2.2.2.2.2))).mono ?_)
   rintro e w' ⟨rfl, hb'⟩
   exact ⟨_, rfl, hb', rfl⟩
  refine StepN.plain rfl (fun f W hG hH => ?_) ?_
  ·
   obtain ⟨d10, -⟩ := hH
   generalize hA : putL _ _ _ _ = A
   have q40 := putLl hA 40 d10 rfl rfl
   have r40 := slot_get q40
   clear hA
   refine Does.pure rfl (.tuple #[aggI .u64 rx, .bool false]) ?_ ⟨Below.refl _ _, rfl⟩
   go_simp
  refine StepN.plain rfl (fun f W hG hH => ?_) ?_
  ·
   obtain ⟨d11, -⟩ := hH
   generalize hA : putL _ _ _ _ = A
   have q29 := putLl hA 29 d11 rfl rfl
   have r29 := slot_get q29
   clear hA
   refine Does.pure rfl (aggI .u64 rx) ?_ ⟨Below.refl _ _, rfl⟩
   go_simp
  refine StepN.plain rfl (fun f W hG hH => ?_) ?_
  ·
   obtain ⟨d11, -⟩ := hH
   generalize hA : putL _ _ _ _ = A
   have q29 := putLl hA 29 d11 rfl rfl
   have r29 := slot_get q29
   clear hA
   refine Does.pure rfl (.bool false) ?_ ⟨Below.refl _ _, rfl⟩
   go_simp
  refine StepN.alloc rfl (fun _ _ => trivial) (fun A W => ?_) ?_
  ·
   refine Does.allocI rfl 42 rfl .u64 5 zero_limbs ?_
   intro W1 D1 s1 b1'
   exact ⟨b1', rfl, D1⟩
  refine StepN.store rfl (fun _ _ => trivial) (fun f W B hG hH hB hZ => ?_) ?_
  ·
   obtain ⟨-, d12, d10, d0, d1, d2, d3, d4, d5, d6, d7, d8, d9, -, d11, -, -, -⟩ := hH
   generalize hA : putL _ _ _ _ = A
   have q8 : A.eval (.tmp 8) = f 14 := putLl hA 8 rfl rfl rfl
   have r8 := slot_get q8
   have q41 := putLl hA 41 d12 rfl rfl
   have r41 := slot_get q41
   clear hA
   have hB : f 14 = .pointer (some ⟨B, 0, none⟩) := hB
   rw [hB] at q8
   refine Does.storeI rfl 42 _ _ rfl 5 info_limbs B q8 .u64 _ (rx) q41 hZ (by rfl) (l_rx) ?_
   intro A9
   exact ⟨rfl, A9⟩
  refine StepN.plain rfl (fun f W hG hH => ?_) ?_
  ·
   obtain ⟨d13, -, d0, d1, d2, d3, d4, d5, d6, d7, d8, d9, d10, d11, d12, -, -, -, -⟩ := hH
   generalize hA : putL _ _ _ _ = A
   have q42 := putLl hA 42 d13 rfl rfl
   have r42 := slot_get q42
   clear hA
   refine Does.pure rfl (.bool false) ?_ ⟨Below.refl _ _, rfl⟩
   go_simp
  exact trivial
 ·
  intro f V14 hG hH hN
  obtain ⟨d0, d1, d2, d3, d4, d5, d6, d7, d8, d9, d10, d11, d12, d13, -, -, d16, -⟩ : (f 0 = aggI .u64 cr2) ∧ (f 1 = aggI .u64 cr3) ∧ (f 2 = aggI .u64 cr4) ∧ (f 3 = aggI .u64 cr2) ∧ (f 4 = aggI .u64 dLn) ∧ (f 5 = aggI .u64 cr5) ∧ (f 6 = aggI .u64 cr3) ∧ (f 7 = aggI .u64 cr6) ∧ (f 8 = aggI .u64 cr7) ∧ (f 9 = aggI .u64 cr8) ∧ (f 10 = .tuple #[aggI .u64 rx, .bool false]) ∧ (f 11 = .tuple #[aggI .u64 rx, .bool false]) ∧ (f 12 = aggI .u64 rx) ∧ (f 13 = .bool false) ∧ (True) ∧ (True) ∧ (f 16 = .bool false) ∧ True := hH
  rw [show List.range (List.length [[], [], [0, 1], [], [], [3, 4, 2], [], [5, 6, 5], [7, 7], [2, 8, 8], [9, 9], [10], [11], [11], [], [14, 12, 10, 0, 1, 2, 3, 4, 5, 6, 7, 8, 9, 10, 11, 12, 14], [13, 15, 0, 1, 2, 3, 4, 5, 6, 7, 8, 9, 10, 11, 12, 13, 14, 15]]) = [0, 1, 2, 3, 4, 5, 6, 7, 8, 9, 10, 11, 12, 13, 14, 15, 16] from rfl]
  obtain ⟨loc, hn1, hn2⟩ := hN
  obtain ⟨hN0, kN0, A8⟩ : f 14 = .pointer (some ⟨loc 14, 0, none⟩) ∧ Wc14.heap.size ≤ loc 14 ∧ Arr .u64 V14 (loc 14) rx := hn1 ⟨14, 15, .u64, 5, rx⟩ (by simp) rfl
  clear hn1 hn2
  generalize loc 14 = N14_0 at *
  simp only [putL, List.getElem?_cons_zero, List.getElem?_cons_succ, Option.join, Option.bind_some, id_eq, Act.put, List.setIfInBounds_toArray, List.set_cons_zero, List.set_cons_succ, d0, d1, d2, d3, d4, d5, d6, d7, d8, d9, d10, d11, d12, d13, d16, hN0]
  clear d0 d1 d2 d3 d4 d5 d6 d7 d8 d9 d10 d11 d12 d13 d16 hN0
  clear A1 A2 A5 A6 A7
  obtain ⟨A1, A2, A5, A6, A7, BV⟩ := hG
  replace BB := below_then BB BV
  clear BV
  have zz14 := BB.size
  go_wp2_with (first
    | (with_reducible refine at_n 53 ?_; go_loud (refine wpList_val' (fun R hR => Does.buildI rfl 46 _ rfl .u64 (bu0) _ (hbu0) rfl hR) ?_))
    | (with_reducible refine at_op (o := ⟨_, .store 46 (.tmp 2) _, _, _, _, _⟩) ?_; refine wpList_storeI rfl 46 _ _ rfl 20 info_point (w1.heap.size) rfl .u64 _ (bu0) rfl (A2) (rfl) (l_bu0) ?_; intro D15; replace A1 := A1.rowOther (B' := w1.heap.size) (by omega) ((bu0).map (Value.int .u64)).toArray; replace A5 := A5.rowOther (B' := w1.heap.size) (by omega) ((bu0).map (Value.int .u64)).toArray; replace A6 := A6.rowOther (B' := w1.heap.size) (by omega) ((bu0).map (Value.int .u64)).toArray; replace A7 := A7.rowOther (B' := w1.heap.size) (by omega) ((bu0).map (Value.int .u64)).toArray; replace A8 := A8.rowOther (B' := w1.heap.size) (by omega) ((bu0).map (Value.int .u64)).toArray; replace BB := Below.setRow BB (g := w1.heap.size) (by omega) ((bu0).map (Value.int .u64)).toArray; clear A2; have A2 := D15))
  refine bodyPost_ret (results_cell_tmpM rfl _ 20 _ Tryd.underlying46 rfl info_point (w1.heap.size) rfl .u64 _ A2 (l_bu0)) rfl ?_
  exact ⟨rfl, BB⟩
set_option maxHeartbeats 2000000 in
theorem load_nf (xb xb_set31 bu0 : List Int) (xb_at31 yb : Int) (w : World) (l_xb : xb.length = 32) (l_xb_set31 : xb_set31.length = 32) (l_bu0 : bu0.length = 20)
    (h_xb_at31 : at0 xb 31 = xb_at31)
    (h_xb_set31 : List.set xb 31 (yb) = xb_set31)
    (hand : bits BinOp.and IntKind.u8 xb_at31 128 = 0)
    (hlow : bits BinOp.and IntKind.u8 xb_at31 127 = yb)
    (hbu0 : Tryd.prog.built 46 [] = some (bu0.map (Value.int .u64)).toArray)
    (H0 : ∀ W, Ret 66 #[aggI .u8 xb_set31] (.bool false) W) :
    Calls Tryd.prog 36 #[aggI .u8 xb] w fun e w' => e = .returned (.tuple #[aggI .u64 bu0, .bool false]) ∧ Below w.heap.size w w' := by
  go_enter Tryd.func36, Tryd.ntmps36
  go_wp2_with (first
      | (with_reducible refine at_n 1 ?_; refine wpList_boxI rfl 22 _ rfl .u8 xb rfl ?_; intro w1 A1 s1 b1; have BB := b1; have y1 := BB.size)
      | (with_reducible refine at_n 2 ?_; refine wpList_allocI rfl 46 rfl .u64 20 zero_point ?_; intro w2 A2 s2 b2; have q2_1 := A1.lt; replace A1 := A1.below b2; replace BB := below_then BB b2; have y2 := BB.size)
      | (with_reducible refine at_n 12 ?_; refine wpList_val' (fun R hR => Does.loadC rfl 5 _ rfl _ Tryd.underlying5 rfl (w.heap.size) 31 rfl .u8 (xb) (A1) (by rw [l_xb]; decide) (h_xb_at31) hR) ?_)
      | (with_reducible refine at_n 16 ?_; refine wpList_val' (fun R hR => Does.loadC rfl 5 _ rfl _ Tryd.underlying5 rfl (w.heap.size) 31 rfl .u8 (xb) (A1) (by rw [l_xb]; decide) (h_xb_at31) hR) ?_)
      | (with_reducible refine at_op (o := ⟨_, .store 5 (.tmp 18) _, _, _, _, _⟩) ?_; refine wpList_storeC rfl 5 _ _ rfl (by kernel_rfl) (w.heap.size) 31 rfl .u8 _ rfl (xb) xb_set31 (A1) (by rw [l_xb]; decide) (by first | exact h_xb_set31 | (simp only [hand, hlow]; exact h_xb_set31)) ?_; intro w3 D3 O3 L3; replace A2 := O3 _ _ _ (by omega) A2; replace BB := L3 _ _ BB (by omega); have z3 := BB.size; clear O3 L3 A1; have A1 := D3)
      | (with_reducible refine at_n 19 ?_; refine wpList_val' (fun R hR => Does.loadM rfl 22 _ rfl 32 _ und_a32 rfl info_a32 (w.heap.size) 0 rfl .u8 (xb_set31) (A1) (by omega) (sl_all l_xb_set31) hR) ?_)
      | (with_reducible refine at_n 22 ?_; go_loud (refine wpList_val' (fun R hR => Does.buildI rfl 46 _ rfl .u64 (bu0) _ (hbu0) rfl hR) ?_))
      | (with_reducible refine at_op (o := ⟨_, .store 46 (.tmp 2) _, _, _, _, _⟩) ?_; refine wpList_storeI rfl 46 _ _ rfl 20 info_point (w1.heap.size) rfl .u64 _ (bu0) rfl (A2) (rfl) (l_bu0) ?_; intro D5; replace A1 := A1.rowOther (B' := w1.heap.size) (by omega) ((bu0).map (Value.int .u64)).toArray; replace BB := Below.setRow BB (g := w1.heap.size) (by omega) ((bu0).map (Value.int .u64)).toArray; clear A2; have A2 := D5)
      | (go_at_call 66; first | ((with_reducible refine (H0 _).mono ?_); rintro e w4 ⟨rfl, b4⟩; replace A1 := A1.below b4; replace A2 := A2.below b4; replace BB := below_then BB b4; have z4 := BB.size)))
  refine bodyPost_ret (results_cell_tmpM rfl _ 20 _ Tryd.underlying46 rfl info_point (w1.heap.size) rfl .u64 _ A2 (l_bu0)) rfl ?_
  exact ⟨rfl, BB⟩
set_option maxHeartbeats 2000000 in
theorem load_zf (xb xb_set31 cr1 cr2 cr3 cr4 cr5 cr6 cr7 cr8 rx bu0 : List Int) (xb_at31 yb : Int) (w : World) (hT : TabD w)
  (l_xb : xb.length = 32) (l_xb_set31 : xb_set31.length = 32) (l_cr1 : cr1.length = 5) (l_cr2 : cr2.length = 5) (l_cr3 : cr3.length = 5) (l_cr4 : cr4.length = 5) (l_cr5 : cr5.length = 5) (l_cr6 : cr6.length = 5) (l_cr7 : cr7.length = 5) (l_cr8 : cr8.length = 5) (l_rx : rx.length = 5) (l_bu0 : bu0.length = 20)
  (h_xb_at31 : at0 xb 31 = xb_at31)
  (h_xb_set31 : List.set xb 31 (yb) = xb_set31)
  (hand : bits BinOp.and IntKind.u8 xb_at31 128 = 0)
  (hlow : bits BinOp.and IntKind.u8 xb_at31 127 = yb)
  (hbu0 : Tryd.prog.built 46 [] = some (bu0.map (Value.int .u64)).toArray)
  (H0 : ∀ W, Ret 66 #[aggI .u8 xb_set31] (.bool true) W)
  (H1 : ∀ W, Ret 67 #[aggI .u8 xb_set31] (aggI .u64 cr1) W)
  (H2 : ∀ W, Ret 49 #[aggI .u64 cr1, aggI .u64 cr1] (aggI .u64 cr2) W)
  (H3 : ∀ W, Ret 63 #[.int .u32 1] (aggI .u64 cr3) W)
  (H4 : ∀ W, Ret 53 #[aggI .u64 cr2, aggI .u64 cr3] (aggI .u64 cr4) W)
  (H5 : ∀ W, Ret 49 #[aggI .u64 cr2, aggI .u64 dLn] (aggI .u64 cr5) W)
  (H6 : ∀ W, Ret 51 #[aggI .u64 cr5, aggI .u64 cr3] (aggI .u64 cr6) W)
  (H7 : ∀ W, Ret 68 #[aggI .u64 cr6] (aggI .u64 cr7) W)
  (H8 : ∀ W, Ret 49 #[aggI .u64 cr4, aggI .u64 cr7] (aggI .u64 cr8) W)
  (H9 : ∀ W, TabD W → Ret 69 #[aggI .u64 cr8] (.tuple #[aggI .u64 rx, .bool false]) W) :
  Calls Tryd.prog 36 #[aggI .u8 xb] w fun e w' => e = .returned (.tuple #[aggI .u64 bu0, .bool false]) ∧ Below w.heap.size w w' := by
 go_enter Tryd.func36, Tryd.ntmps36
 go_wp2_with (first
   | (with_reducible refine at_n 1 ?_; refine wpList_boxI rfl 22 _ rfl .u8 xb rfl ?_; intro w1 A1 s1 b1; have BB := b1; have y1 := BB.size)
   | (with_reducible refine at_n 2 ?_; refine wpList_allocI rfl 46 rfl .u64 20 zero_point ?_; intro w2 A2 s2 b2; have q2_1 := A1.lt; replace A1 := A1.below b2; replace BB := below_then BB b2; have y2 := BB.size)
   | (with_reducible refine at_n 12 ?_; refine wpList_val' (fun R hR => Does.loadC rfl 5 _ rfl _ Tryd.underlying5 rfl (w.heap.size) 31 rfl .u8 (xb) (A1) (by rw [l_xb]; decide) (h_xb_at31) hR) ?_)
   | (with_reducible refine at_n 16 ?_; refine wpList_val' (fun R hR => Does.loadC rfl 5 _ rfl _ Tryd.underlying5 rfl (w.heap.size) 31 rfl .u8 (xb) (A1) (by rw [l_xb]; decide) (h_xb_at31) hR) ?_)
   | (with_reducible refine at_op (o := ⟨_, .store 5 (.tmp 18) _, _, _, _, _⟩) ?_; refine wpList_storeC rfl 5 _ _ rfl (by kernel_rfl) (w.heap.size) 31 rfl .u8 _ rfl (xb) xb_set31 (A1) (by rw [l_xb]; decide) (by first | exact h_xb_set31 | (simp only [hand, hlow]; exact h_xb_set31)) ?_; intro w3 D3 O3 L3; replace A2 := O3 _ _ _ (by omega) A2; replace BB := L3 _ _ BB (by omega); have z3 := BB.size; clear O3 L3 A1; have A1 := D3)
   | (with_reducible refine at_n 19 ?_; refine wpList_val' (fun R hR => Does.loadM rfl 22 _ rfl 32 _ und_a32 rfl info_a32 (w.heap.size) 0 rfl .u8 (xb_set31) (A1) (by omega) (sl_all l_xb_set31) hR) ?_)
   | (with_reducible refine at_n 23 ?_; refine wpList_val' (fun R hR => Does.loadM rfl 22 _ rfl 32 _ und_a32 rfl info_a32 (w.heap.size) 0 rfl .u8 (xb_set31) (A1) (by omega) (sl_all l_xb_set31) hR) ?_)
   | (with_reducible refine at_n 5 ?_; refine wpList_allocI rfl 42 rfl .u64 5 zero_limbs ?_; intro w6 A5 s6 b6; have q6_1 := A1.lt; have q6_2 := A2.lt; replace A1 := A1.below b6; replace A2 := A2.below b6; replace BB := below_then BB b6; have y6 := BB.size)
   | (with_reducible refine at_op (o := ⟨_, .store 42 (.tmp 5) _, _, _, _, _⟩) ?_; refine wpList_storeI rfl 42 _ _ rfl 5 info_limbs (w5.heap.size) rfl .u64 _ (cr1) rfl (A5) (rfl) (l_cr1) ?_; intro D7; replace A1 := A1.rowOther (B' := w5.heap.size) (by omega) ((cr1).map (Value.int .u64)).toArray; replace A2 := A2.rowOther (B' := w5.heap.size) (by omega) ((cr1).map (Value.int .u64)).toArray; replace BB := Below.setRow BB (g := w5.heap.size) (by omega) ((cr1).map (Value.int .u64)).toArray; clear A5; have A5 := D7)
   | (with_reducible refine at_n 25 ?_; refine wpList_val' (fun R hR => Does.loadM rfl 42 _ rfl 5 _ und_limbs rfl info_limbs (w5.heap.size) 0 rfl .u64 (cr1) (A5) (by omega) (sl_all l_cr1) hR) ?_)
   | (with_reducible refine at_n 26 ?_; refine wpList_val' (fun R hR => Does.loadM rfl 42 _ rfl 5 _ und_limbs rfl info_limbs (w5.heap.size) 0 rfl .u64 (cr1) (A5) (by omega) (sl_all l_cr1) hR) ?_)
   | (with_reducible refine at_n 6 ?_; refine wpList_allocI rfl 42 rfl .u64 5 zero_limbs ?_; intro w9 A6 s9 b9; have q9_1 := A1.lt; have q9_2 := A2.lt; have q9_5 := A5.lt; replace A1 := A1.below b9; replace A2 := A2.below b9; replace A5 := A5.below b9; replace BB := below_then BB b9; have y9 := BB.size)
   | (with_reducible refine at_op (o := ⟨_, .store 42 (.tmp 6) _, _, _, _, _⟩) ?_; refine wpList_storeI rfl 42 _ _ rfl 5 info_limbs (w8.heap.size) rfl .u64 _ (cr2) rfl (A6) (rfl) (l_cr2) ?_; intro D10; replace A1 := A1.rowOther (B' := w8.heap.size) (by omega) ((cr2).map (Value.int .u64)).toArray; replace A2 := A2.rowOther (B' := w8.heap.size) (by omega) ((cr2).map (Value.int .u64)).toArray; replace A5 := A5.rowOther (B' := w8.heap.size) (by omega) ((cr2).map (Value.int .u64)).toArray; replace BB := Below.setRow BB (g := w8.heap.size) (by omega) ((cr2).map (Value.int .u64)).toArray; clear A6; have A6 := D10)
   | (with_reducible refine at_n 7 ?_; refine wpList_allocI rfl 42 rfl .u64 5 zero_limbs ?_; intro w12 A7 s12 b12; have q12_1 := A1.lt; have q12_2 := A2.lt; have q12_5 := A5.lt; have q12_6 := A6.lt; replace A1 := A1.below b12; replace A2 := A2.below b12; replace A5 := A5.below b12; replace A6 := A6.below b12; replace BB := below_then BB b12; have y12 := BB.size)
   | (with_reducible refine at_op (o := ⟨_, .store 42 (.tmp 7) _, _, _, _, _⟩) ?_; refine wpList_storeI rfl 42 _ _ rfl 5 info_limbs (w11.heap.size) rfl .u64 _ (cr3) rfl (A7) (rfl) (l_cr3) ?_; intro D13; replace A1 := A1.rowOther (B' := w11.heap.size) (by omega) ((cr3).map (Value.int .u64)).toArray; replace A2 := A2.rowOther (B' := w11.heap.size) (by omega) ((cr3).map (Value.int .u64)).toArray; replace A5 := A5.rowOther (B' := w11.heap.size) (by omega) ((cr3).map (Value.int .u64)).toArray; replace A6 := A6.rowOther (B' := w11.heap.size) (by omega) ((cr3).map (Value.int .u64)).toArray; replace BB := Below.setRow BB (g := w11.heap.size) (by omega) ((cr3).map (Value.int .u64)).toArray; clear A7; have A7 := D13)
   | (go_at_call 66; first | ((with_reducible refine (H0 _).mono ?_); rintro e w4 ⟨rfl, b4⟩; replace A1 := A1.below b4; replace A2 := A2.below b4; replace BB := below_then BB b4; have z4 := BB.size))
   | (go_at_call 67; first | ((with_reducible refine (H1 _).mono ?_); rintro e w5 ⟨rfl, b5⟩; replace A1 := A1.below b5; replace A2 := A2.below b5; replace BB := below_then BB b5; have z5 := BB.size))
   | (go_at_call 49; first | ((with_reducible refine (H2 _).mono ?_); rintro e w8 ⟨rfl, b8⟩; replace A1 := A1.below b8; replace A2 := A2.below b8; replace A5 := A5.below b8; replace BB := below_then BB b8; have z8 := BB.size))
   | (go_at_call 63; first | ((with_reducible refine (H3 _).mono ?_); rintro e w11 ⟨rfl, b11⟩; replace A1 := A1.below b11; replace A2 := A2.below b11; replace A5 := A5.below b11; replace A6 := A6.below b11; replace BB := below_then BB b11; have z11 := BB.size)))
 refine wp_world fun Wc14 hWc => ?_
 rw [← hWc] at BB A1 A2 A5 A6 A7
 clear hWc
 have k14_0 := A1.lt
 have k14_1 := A2.lt
 have k14_2 := A5.lt
 have k14_3 := A6.lt
 have k14_4 := A7.lt
 refine wp_region_new [[], [], [0, 1], [], [], [3, 4, 2], [], [5, 6, 5], [7, 7], [2, 8, 8], [9, 9], [10], [11], [11], [], [14, 12, 10, 0, 1, 2, 3, 4, 5, 6, 7, 8, 9, 10, 11, 12, 14], [13, 15, 0, 1, 2, 3, 4, 5, 6, 7, 8, 9, 10, 11, 12, 13, 14, 15]] [some 30, some 31, some 32, some 33, some 34, some 35, some 36, some 37, some 38, some 39, some 40, some 29, some 41, some 42, some 8, none, some 9] (Wc14.heap.size) [⟨14, 15, .u64, 5, rx⟩] (fun w' => Arr .u8 w' (w.heap.size) xb_set31 ∧ Arr .u64 w' (w1.heap.size) (List.replicate 20 0) ∧ Arr .u64 w' (w5.heap.size) cr1 ∧ Arr .u64 w' (w8.heap.size) cr2 ∧ Arr .u64 w' (w11.heap.size) cr3 ∧ Below Wc14.heap.size Wc14 w') (fun opn f _ => match opn with | 0 => f 0 = aggI .u64 cr2 | 1 => f 1 = aggI .u64 cr3 | 2 => f 2 = aggI .u64 cr4 | 3 => f 3 = aggI .u64 cr2 | 4 => f 4 = aggI .u64 dLn | 5 => f 5 = aggI .u64 cr5 | 6 => f 6 = aggI .u64 cr3 | 7 => f 7 = aggI .u64 cr6 | 8 => f 8 = aggI .u64 cr7 | 9 => f 9 = aggI .u64 cr8 | 10 => f 10 = .tuple #[aggI .u64 rx, .bool false] | 11 => f 11 = .tuple #[aggI .u64 rx, .bool false] | 12 => f 12 = aggI .u64 rx | 13 => f 13 = .bool false | 16 => f 16 = .bool false | _ => True) (by kernel_rfl) (by kernel_rfl) (by kernel_rfl) (by kernel_rfl) rfl (by intro it h it' h' e; simp only [List.mem_cons, List.not_mem_nil, or_false] at h h'; rcases h with rfl <;> rcases h' with rfl <;> first | rfl | (simp at e)) (fun v v' hb h => ⟨h.1.below hb, h.2.1.below hb, h.2.2.1.below hb, h.2.2.2.1.below hb, h.2.2.2.2.1.below hb, below_then h.2.2.2.2.2 hb⟩) (fun v h => h.2.2.2.2.2.size) (fun v B cs hB h => ⟨h.1.rowOther (by omega) _, h.2.1.rowOther (by omega) _, h.2.2.1.rowOther (by omega) _, h.2.2.2.1.rowOther (by omega) _, h.2.2.2.2.1.rowOther (by omega) _, Below.setRow h.2.2.2.2.2 (by omega) _⟩) (fun _ _ _ _ h => h) ⟨A1.drew, A2.drew, A5.drew, A6.drew, A7.drew, (Below.refl _ _).drew⟩ ?_ (by intro it h; simp only [List.mem_cons, List.not_mem_nil, or_false] at h; rcases h with rfl <;> exact ⟨by simp, by simp⟩) ?_
 ·
  refine StepN.plain rfl (fun f W hG hH => ?_) ?_
  ·
   clear hH
   generalize hA : putL _ _ _ _ = A
   have q6 : A.eval (.tmp 6) = .pointer (some ⟨w8.heap.size, 0, none⟩) := putLn hA 6 rfl rfl rfl
   clear hA
   exact Does.loadM rfl 42 _ rfl 5 _ und_limbs rfl info_limbs (w8.heap.size) (0) q6 .u64 (cr2) (hG.2.2.2.1) (by omega) (sl_all l_cr2) ⟨Below.refl _ _, rfl⟩
  refine StepN.plain rfl (fun f W hG hH => ?_) ?_
  ·
   clear hH
   generalize hA : putL _ _ _ _ = A
   have q7 : A.eval (.tmp 7) = .pointer (some ⟨w11.heap.size, 0, none⟩) := putLn hA 7 rfl rfl rfl
   clear hA
   exact Does.loadM rfl 42 _ rfl 5 _ und_limbs rfl info_limbs (w11.heap.size) (0) q7 .u64 (cr3) (hG.2.2.2.2.1) (by omega) (sl_all l_cr3) ⟨Below.refl _ _, rfl⟩
  refine StepN.plain rfl (fun f W hG hH => ?_) ?_
  ·
   obtain ⟨d0, d1, -⟩ := hH
   generalize hA : putL _ _ _ _ = A
   have q30 := putLl hA 30 d0 rfl rfl
   have r30 := slot_get q30
   have q31 := putLl hA 31 d1 rfl rfl
   have r31 := slot_get q31
   clear hA
   refine Does.call rfl _ _ (by go_simp) ((H4 W).mono ?_)
   rintro e w' ⟨rfl, hb'⟩
   exact ⟨_, rfl, hb', rfl⟩
  refine StepN.plain rfl (fun f W hG hH => ?_) ?_
  ·
   clear hH
   generalize hA : putL _ _ _ _ = A
   have q6 : A.eval (.tmp 6) = .pointer (some ⟨w8.heap.size, 0, none⟩) := putLn hA 6 rfl rfl rfl
   clear hA
   exact Does.loadM rfl 42 _ rfl 5 _ und_limbs rfl info_limbs (w8.heap.size) (0) q6 .u64 (cr2) (hG.2.2.2.1) (by omega) (sl_all l_cr2) ⟨Below.refl _ _, rfl⟩
  refine StepN.plain rfl (fun f W hG hH => ?_) ?_
  ·
   clear hH
   generalize hA : putL _ _ _ _ = A
   clear hA
   exact Does.loadG rfl 42 _ rfl 5 _ und_limbs rfl info_limbs 1 0 rfl .u64 (dLn) ((hT.below (below_then BB hG.2.2.2.2.2)).g1) (by rw [l_dLn]; decide) (sl_all l_dLn) ⟨Below.refl _ _, rfl⟩
  refine StepN.plain rfl (fun f W hG hH => ?_) ?_
  ·
   obtain ⟨d3, d4, d2, -⟩ := hH
   generalize hA : putL _ _ _ _ = A
   have q33 := putLl hA 33 d3 rfl rfl
   have r33 := slot_get q33
   have q34 := putLl hA 34 d4 rfl rfl
   have r34 := slot_get q34
   clear hA
   refine Does.call rfl _ _ (by go_simp) ((H5 W).mono ?_)
   rintro e w' ⟨rfl, hb'⟩
   exact ⟨_, rfl, hb', rfl⟩
  refine StepN.plain rfl (fun f W hG hH => ?_) ?_
  ·
   clear hH
   generalize hA : putL _ _ _ _ = A
   have q7 : A.eval (.tmp 7) = .pointer (some ⟨w11.heap.size, 0, none⟩) := putLn hA 7 rfl rfl rfl
   clear hA
   exact Does.loadM rfl 42 _ rfl 5 _ und_limbs rfl info_limbs (w11.heap.size) (0) q7 .u64 (cr3) (hG.2.2.2.2.1) (by omega) (sl_all l_cr3) ⟨Below.refl _ _, rfl⟩
  refine StepN.plain rfl (fun f W hG hH => ?_) ?_
  ·
   obtain ⟨d5, d6, -, -⟩ := hH
   generalize hA : putL _ _ _ _ = A
   have q35 := putLl hA 35 d5 rfl rfl
   have r35 := slot_get q35
   have q36 := putLl hA 36 d6 rfl rfl
   have r36 := slot_get q36
   clear hA
   refine Does.call rfl _ _ (by go_simp) ((H6 W).mono ?_)
   rintro e w' ⟨rfl, hb'⟩
   exact ⟨_, rfl, hb', rfl⟩
  refine StepN.plain rfl (fun f W hG hH => ?_) ?_
  ·
   obtain ⟨d7, -, -⟩ := hH
   generalize hA : putL _ _ _ _ = A
   have q37 := putLl hA 37 d7 rfl rfl
   have r37 := slot_get q37
   clear hA
   refine Does.call rfl _ _ (by go_simp) ((H7 W).mono ?_)
   rintro e w' ⟨rfl, hb'⟩
   exact ⟨_, rfl, hb', rfl⟩
  refine StepN.plain rfl (fun f W hG hH => ?_) ?_
  ·
   obtain ⟨d2, d8, -, -⟩ := hH
   generalize hA : putL _ _ _ _ = A
   have q32 := putLl hA 32 d2 rfl rfl
   have r32 := slot_get q32
   have q38 := putLl hA 38 d8 rfl rfl
   have r38 := slot_get q38
   clear hA
   refine Does.call rfl _ _ (by go_simp) ((H8 W).mono ?_)
   rintro e w' ⟨rfl, hb'⟩
   exact ⟨_, rfl, hb', rfl⟩
  refine StepN.plain rfl (fun f W hG hH => ?_) ?_
  ·
   obtain ⟨d9, -, -⟩ := hH
   generalize hA : putL _ _ _ _ = A
   have q39 := putLl hA 39 d9 rfl rfl
   have r39 := slot_get q39
   clear hA
   refine Does.call rfl _ _ (by go_simp) ((H9 W (hT.below (below_then BB hG.2.2.2.2.2))).mono ?_)
   rintro e w' ⟨rfl, hb'⟩
   exact ⟨_, rfl, hb', rfl⟩
  refine StepN.plain rfl (fun f W hG hH => ?_) ?_
  ·
   obtain ⟨d10, -⟩ := hH
   generalize hA : putL _ _ _ _ = A
   have q40 := putLl hA 40 d10 rfl rfl
   have r40 := slot_get q40
   clear hA
   refine Does.pure rfl (.tuple #[aggI .u64 rx, .bool false]) ?_ ⟨Below.refl _ _, rfl⟩
   go_simp
  refine StepN.plain rfl (fun f W hG hH => ?_) ?_
  ·
   obtain ⟨d11, -⟩ := hH
   generalize hA : putL _ _ _ _ = A
   have q29 := putLl hA 29 d11 rfl rfl
   have r29 := slot_get q29
   clear hA
   refine Does.pure rfl (aggI .u64 rx) ?_ ⟨Below.refl _ _, rfl⟩
   go_simp
  refine StepN.plain rfl (fun f W hG hH => ?_) ?_
  ·
   obtain ⟨d11, -⟩ := hH
   generalize hA : putL _ _ _ _ = A
   have q29 := putLl hA 29 d11 rfl rfl
   have r29 := slot_get q29
   clear hA
   refine Does.pure rfl (.bool false) ?_ ⟨Below.refl _ _, rfl⟩
   go_simp
  refine StepN.alloc rfl (fun _ _ => trivial) (fun A W => ?_) ?_
  ·
   refine Does.allocI rfl 42 rfl .u64 5 zero_limbs ?_
   intro W1 D1 s1 b1'
   exact ⟨b1', rfl, D1⟩
  refine StepN.store rfl (fun _ _ => trivial) (fun f W B hG hH hB hZ => ?_) ?_
  ·
   obtain ⟨-, d12, d10, d0, d1, d2, d3, d4, d5, d6, d7, d8, d9, -, d11, -, -, -⟩ := hH
   generalize hA : putL _ _ _ _ = A
   have q8 : A.eval (.tmp 8) = f 14 := putLl hA 8 rfl rfl rfl
   have r8 := slot_get q8
   have q41 := putLl hA 41 d12 rfl rfl
   have r41 := slot_get q41
   clear hA
   have hB : f 14 = .pointer (some ⟨B, 0, none⟩) := hB
   rw [hB] at q8
   refine Does.storeI rfl 42 _ _ rfl 5 info_limbs B q8 .u64 _ (rx) q41 hZ (by rfl) (l_rx) ?_
   intro A9
   exact ⟨rfl, A9⟩
  refine StepN.plain rfl (fun f W hG hH => ?_) ?_
  ·
   obtain ⟨d13, -, d0, d1, d2, d3, d4, d5, d6, d7, d8, d9, d10, d11, d12, -, -, -, -⟩ := hH
   generalize hA : putL _ _ _ _ = A
   have q42 := putLl hA 42 d13 rfl rfl
   have r42 := slot_get q42
   clear hA
   refine Does.pure rfl (.bool false) ?_ ⟨Below.refl _ _, rfl⟩
   go_simp
  exact trivial
 ·
  intro f V14 hG hH hN
  obtain ⟨d0, d1, d2, d3, d4, d5, d6, d7, d8, d9, d10, d11, d12, d13, -, -, d16, -⟩ : (f 0 = aggI .u64 cr2) ∧ (f 1 = aggI .u64 cr3) ∧ (f 2 = aggI .u64 cr4) ∧ (f 3 = aggI .u64 cr2) ∧ (f 4 = aggI .u64 dLn) ∧ (f 5 = aggI .u64 cr5) ∧ (f 6 = aggI .u64 cr3) ∧ (f 7 = aggI .u64 cr6) ∧ (f 8 = aggI .u64 cr7) ∧ (f 9 = aggI .u64 cr8) ∧ (f 10 = .tuple #[aggI .u64 rx, .bool false]) ∧ (f 11 = .tuple #[aggI .u64 rx, .bool false]) ∧ (f 12 = aggI .u64 rx) ∧ (f 13 = .bool false) ∧ (True) ∧ (True) ∧ (f 16 = .bool false) ∧ True := hH
  rw [show List.range (List.length [[], [], [0, 1], [], [], [3, 4, 2], [], [5, 6, 5], [7, 7], [2, 8, 8], [9, 9], [10], [11], [11], [], [14, 12, 10, 0, 1, 2, 3, 4, 5, 6, 7, 8, 9, 10, 11, 12, 14], [13, 15, 0, 1, 2, 3, 4, 5, 6, 7, 8, 9, 10, 11, 12, 13, 14, 15]]) = [0, 1, 2, 3, 4, 5, 6, 7, 8, 9, 10, 11, 12, 13, 14, 15, 16] from rfl]
  obtain ⟨loc, hn1, hn2⟩ := hN
  obtain ⟨hN0, kN0, A8⟩ : f 14 = .pointer (some ⟨loc 14, 0, none⟩) ∧ Wc14.heap.size ≤ loc 14 ∧ Arr .u64 V14 (loc 14) rx := hn1 ⟨14, 15, .u64, 5, rx⟩ (by simp) rfl
  clear hn1 hn2
  generalize loc 14 = N14_0 at *
  simp only [putL, List.getElem?_cons_zero, List.getElem?_cons_succ, Option.join, Option.bind_some, id_eq, Act.put, List.setIfInBounds_toArray, List.set_cons_zero, List.set_cons_succ, d0, d1, d2, d3, d4, d5, d6, d7, d8, d9, d10, d11, d12, d13, d16, hN0]
  clear d0 d1 d2 d3 d4 d5 d6 d7 d8 d9 d10 d11 d12 d13 d16 hN0
  clear A1 A2 A5 A6 A7
  obtain ⟨A1, A2, A5, A6, A7, BV⟩ := hG
  replace BB := below_then BB BV
  clear BV
  have zz14 := BB.size
  go_wp2_with (first
    | (with_reducible refine at_n 53 ?_; go_loud (refine wpList_val' (fun R hR => Does.buildI rfl 46 _ rfl .u64 (bu0) _ (hbu0) rfl hR) ?_))
    | (with_reducible refine at_op (o := ⟨_, .store 46 (.tmp 2) _, _, _, _, _⟩) ?_; refine wpList_storeI rfl 46 _ _ rfl 20 info_point (w1.heap.size) rfl .u64 _ (bu0) rfl (A2) (rfl) (l_bu0) ?_; intro D15; replace A1 := A1.rowOther (B' := w1.heap.size) (by omega) ((bu0).map (Value.int .u64)).toArray; replace A5 := A5.rowOther (B' := w1.heap.size) (by omega) ((bu0).map (Value.int .u64)).toArray; replace A6 := A6.rowOther (B' := w1.heap.size) (by omega) ((bu0).map (Value.int .u64)).toArray; replace A7 := A7.rowOther (B' := w1.heap.size) (by omega) ((bu0).map (Value.int .u64)).toArray; replace A8 := A8.rowOther (B' := w1.heap.size) (by omega) ((bu0).map (Value.int .u64)).toArray; replace BB := Below.setRow BB (g := w1.heap.size) (by omega) ((bu0).map (Value.int .u64)).toArray; clear A2; have A2 := D15))
  refine bodyPost_ret (results_cell_tmpM rfl _ 20 _ Tryd.underlying46 rfl info_point (w1.heap.size) rfl .u64 _ A2 (l_bu0)) rfl ?_
  exact ⟨rfl, BB⟩
set_option maxHeartbeats 2000000 in
theorem load_0 (xb xb_set31 cr1 cr2 cr3 cr4 cr5 cr6 cr7 cr8 rx bu0 bu1 : List Int) (xb_at31 yb : Int) (w : World) (hT : TabD w)
  (l_xb : xb.length = 32) (l_xb_set31 : xb_set31.length = 32) (l_cr1 : cr1.length = 5) (l_cr2 : cr2.length = 5) (l_cr3 : cr3.length = 5) (l_cr4 : cr4.length = 5) (l_cr5 : cr5.length = 5) (l_cr6 : cr6.length = 5) (l_cr7 : cr7.length = 5) (l_cr8 : cr8.length = 5) (l_rx : rx.length = 5) (l_bu0 : bu0.length = 5) (l_bu1 : bu1.length = 20)
  (h_xb_at31 : at0 xb 31 = xb_at31)
  (h_xb_set31 : List.set xb 31 (yb) = xb_set31)
  (hand : bits BinOp.and IntKind.u8 xb_at31 128 = 128)
  (hlow : bits BinOp.and IntKind.u8 xb_at31 127 = yb)
  (hbu0 : Tryd.prog.built 42 [] = some (bu0.map (Value.int .u64)).toArray)
  (hbu1 : Tryd.prog.built 46 [] = some (bu1.map (Value.int .u64)).toArray)
  (H0 : ∀ W, Ret 66 #[aggI .u8 xb_set31] (.bool true) W)
  (H1 : ∀ W, Ret 67 #[aggI .u8 xb_set31] (aggI .u64 cr1) W)
  (H2 : ∀ W, Ret 49 #[aggI .u64 cr1, aggI .u64 cr1] (aggI .u64 cr2) W)
  (H3 : ∀ W, Ret 63 #[.int .u32 1] (aggI .u64 cr3) W)
  (H4 : ∀ W, Ret 53 #[aggI .u64 cr2, aggI .u64 cr3] (aggI .u64 cr4) W)
  (H5 : ∀ W, Ret 49 #[aggI .u64 cr2, aggI .u64 dLn] (aggI .u64 cr5) W)
  (H6 : ∀ W, Ret 51 #[aggI .u64 cr5, aggI .u64 cr3] (aggI .u64 cr6) W)
  (H7 : ∀ W, Ret 68 #[aggI .u64 cr6] (aggI .u64 cr7) W)
  (H8 : ∀ W, Ret 49 #[aggI .u64 cr4, aggI .u64 cr7] (aggI .u64 cr8) W)
  (H9 : ∀ W, TabD W → Ret 69 #[aggI .u64 cr8] (.tuple #[aggI .u64 rx, .bool true]) W)
  (H10 : ∀ W, Ret 70 #[aggI .u64 rx, aggI .u64 bu0] (.bool true) W) :
  Calls Tryd.prog 36 #[aggI .u8 xb] w fun e w' => e = .returned (.tuple #[aggI .u64 bu1, .bool false]) ∧ Below w.heap.size w w' := by
 go_enter Tryd.func36, Tryd.ntmps36
 go_wp2_with (first
   | (with_reducible refine at_n 1 ?_; refine wpList_boxI rfl 22 _ rfl .u8 xb rfl ?_; intro w1 A1 s1 b1; have BB := b1; have y1 := BB.size)
   | (with_reducible refine at_n 2 ?_; refine wpList_allocI rfl 46 rfl .u64 20 zero_point ?_; intro w2 A2 s2 b2; have q2_1 := A1.lt; replace A1 := A1.below b2; replace BB := below_then BB b2; have y2 := BB.size)
   | (with_reducible refine at_n 12 ?_; refine wpList_val' (fun R hR => Does.loadC rfl 5 _ rfl _ Tryd.underlying5 rfl (w.heap.size) 31 rfl .u8 (xb) (A1) (by rw [l_xb]; decide) (h_xb_at31) hR) ?_)
   | (with_reducible refine at_n 16 ?_; refine wpList_val' (fun R hR => Does.loadC rfl 5 _ rfl _ Tryd.underlying5 rfl (w.heap.size) 31 rfl .u8 (xb) (A1) (by rw [l_xb]; decide) (h_xb_at31) hR) ?_)
   | (with_reducible refine at_op (o := ⟨_, .store 5 (.tmp 18) _, _, _, _, _⟩) ?_; refine wpList_storeC rfl 5 _ _ rfl (by kernel_rfl) (w.heap.size) 31 rfl .u8 _ rfl (xb) xb_set31 (A1) (by rw [l_xb]; decide) (by first | exact h_xb_set31 | (simp only [hand, hlow]; exact h_xb_set31)) ?_; intro w3 D3 O3 L3; replace A2 := O3 _ _ _ (by omega) A2; replace BB := L3 _ _ BB (by omega); have z3 := BB.size; clear O3 L3 A1; have A1 := D3)
   | (with_reducible refine at_n 19 ?_; refine wpList_val' (fun R hR => Does.loadM rfl 22 _ rfl 32 _ und_a32 rfl info_a32 (w.heap.size) 0 rfl .u8 (xb_set31) (A1) (by omega) (sl_all l_xb_set31) hR) ?_)
   | (with_reducible refine at_n 23 ?_; refine wpList_val' (fun R hR => Does.loadM rfl 22 _ rfl 32 _ und_a32 rfl info_a32 (w.heap.size) 0 rfl .u8 (xb_set31) (A1) (by omega) (sl_all l_xb_set31) hR) ?_)
   | (with_reducible refine at_n 5 ?_; refine wpList_allocI rfl 42 rfl .u64 5 zero_limbs ?_; intro w6 A5 s6 b6; have q6_1 := A1.lt; have q6_2 := A2.lt; replace A1 := A1.below b6; replace A2 := A2.below b6; replace BB := below_then BB b6; have y6 := BB.size)
   | (with_reducible refine at_op (o := ⟨_, .store 42 (.tmp 5) _, _, _, _, _⟩) ?_; refine wpList_storeI rfl 42 _ _ rfl 5 info_limbs (w5.heap.size) rfl .u64 _ (cr1) rfl (A5) (rfl) (l_cr1) ?_; intro D7; replace A1 := A1.rowOther (B' := w5.heap.size) (by omega) ((cr1).map (Value.int .u64)).toArray; replace A2 := A2.rowOther (B' := w5.heap.size) (by omega) ((cr1).map (Value.int .u64)).toArray; replace BB := Below.setRow BB (g := w5.heap.size) (by omega) ((cr1).map (Value.int .u64)).toArray; clear A5; have A5 := D7)
   | (with_reducible refine at_n 25 ?_; refine wpList_val' (fun R hR => Does.loadM rfl 42 _ rfl 5 _ und_limbs rfl info_limbs (w5.heap.size) 0 rfl .u64 (cr1) (A5) (by omega) (sl_all l_cr1) hR) ?_)
   | (with_reducible refine at_n 26 ?_; refine wpList_val' (fun R hR => Does.loadM rfl 42 _ rfl 5 _ und_limbs rfl info_limbs (w5.heap.size) 0 rfl .u64 (cr1) (A5) (by omega) (sl_all l_cr1) hR) ?_)
   | (with_reducible refine at_n 6 ?_; refine wpList_allocI rfl 42 rfl .u64 5 zero_limbs ?_; intro w9 A6 s9 b9; have q9_1 := A1.lt; have q9_2 := A2.lt; have q9_5 := A5.lt; replace A1 := A1.below b9; replace A2 := A2.below b9; replace A5 := A5.below b9; replace BB := below_then BB b9; have y9 := BB.size)
   | (with_reducible refine at_op (o := ⟨_, .store 42 (.tmp 6) _, _, _, _, _⟩) ?_; refine wpList_storeI rfl 42 _ _ rfl 5 info_limbs (w8.heap.size) rfl .u64 _ (cr2) rfl (A6) (rfl) (l_cr2) ?_; intro D10; replace A1 := A1.rowOther (B' := w8.heap.size) (by omega) ((cr2).map (Value.int .u64)).toArray; replace A2 := A2.rowOther (B' := w8.heap.size) (by omega) ((cr2).map (Value.int .u64)).toArray; replace A5 := A5.rowOther (B' := w8.heap.size) (by omega) ((cr2).map (Value.int .u64)).toArray; replace BB := Below.setRow BB (g := w8.heap.size) (by omega) ((cr2).map (Value.int .u64)).toArray; clear A6; have A6 := D10)
   | (with_reducible refine at_n 7 ?_; refine wpList_allocI rfl 42 rfl .u64 5 zero_limbs ?_; intro w12 A7 s12 b12; have q12_1 := A1.lt; have q12_2 := A2.lt; have q12_5 := A5.lt; have q12_6 := A6.lt; replace A1 := A1.below b12; replace A2 := A2.below b12; replace A5 := A5.below b12; replace A6 := A6.below b12; replace BB := below_then BB b12; have y12 := BB.size)
   | (with_reducible refine at_op (o := ⟨_, .store 42 (.tmp 7) _, _, _, _, _⟩) ?_; refine wpList_storeI rfl 42 _ _ rfl 5 info_limbs (w11.heap.size) rfl .u64 _ (cr3) rfl (A7) (rfl) (l_cr3) ?_; intro D13; replace A1 := A1.rowOther (B' := w11.heap.size) (by omega) ((cr3).map (Value.int .u64)).toArray; replace A2 := A2.rowOther (B' := w11.heap.size) (by omega) ((cr3).map (Value.int .u64)).toArray; replace A5 := A5.rowOther (B' := w11.heap.size) (by omega) ((cr3).map (Value.int .u64)).toArray; replace A6 := A6.rowOther (B' := w11.heap.size) (by omega) ((cr3).map (Value.int .u64)).toArray; replace BB := Below.setRow BB (g := w11.heap.size) (by omega) ((cr3).map (Value.int .u64)).toArray; clear A7; have A7 := D13)
   | (go_at_call 66; first | ((with_reducible refine (H0 _).mono ?_); rintro e w4 ⟨rfl, b4⟩; replace A1 := A1.below b4; replace A2 := A2.below b4; replace BB := below_then BB b4; have z4 := BB.size))
   | (go_at_call 67; first | ((with_reducible refine (H1 _).mono ?_); rintro e w5 ⟨rfl, b5⟩; replace A1 := A1.below b5; replace A2 := A2.below b5; replace BB := below_then BB b5; have z5 := BB.size))
   | (go_at_call 49; first | ((with_reducible refine (H2 _).mono ?_); rintro e w8 ⟨rfl, b8⟩; replace A1 := A1.below b8; replace A2 := A2.below b8; replace A5 := A5.below b8; replace BB := below_then BB b8; have z8 := BB.size))
   | (go_at_call 63; first | ((with_reducible refine (H3 _).mono ?_); rintro e w11 ⟨rfl, b11⟩; replace A1 := A1.below b11; replace A2 := A2.below b11; replace A5 := A5.below b11; replace A6 := A6.below b11; replace BB := below_then BB b11; have z11 := BB.size)))
 refine wp_world fun Wc14 hWc => ?_
 rw [← hWc] at BB A1 A2 A5 A6 A7
 clear hWc
 have k14_0 := A1.lt
 have k14_1 := A2.lt
 have k14_2 := A5.lt
 have k14_3 := A6.lt
 have k14_4 := A7.lt
 refine wp_region_new [[], [], [0, 1], [], [], [3, 4, 2], [], [5, 6, 5], [7, 7], [2, 8, 8], [9, 9], [10], [11], [11], [], [14, 12, 10, 0, 1, 2, 3, 4, 5, 6, 7, 8, 9, 10, 11, 12, 14], [13, 15, 0, 1, 2, 3, 4, 5, 6, 7, 8, 9, 10, 11, 12, 13, 14, 15]] [some 30, some 31, some 32, some 33, some 34, some 35, some 36, some 37, some 38, some 39, some 40, some 29, some 41, some 42, some 8, none, some 9] (Wc14.heap.size) [⟨14, 15, .u64, 5, rx⟩] (fun w' => Arr .u8 w' (w.heap.size) xb_set31 ∧ Arr .u64 w' (w1.heap.size) (List.replicate 20 0) ∧ Arr .u64 w' (w5.heap.size) cr1 ∧ Arr .u64 w' (w8.heap.size) cr2 ∧ Arr .u64 w' (w11.heap.size) cr3 ∧ Below Wc14.heap.size Wc14 w') (fun opn f _ => match opn with | 0 => f 0 = aggI .u64 cr2 | 1 => f 1 = aggI .u64 cr3 | 2 => f 2 = aggI .u64 cr4 | 3 => f 3 = aggI .u64 cr2 | 4 => f 4 = aggI .u64 dLn | 5 => f 5 = aggI .u64 cr5 | 6 => f 6 = aggI .u64 cr3 | 7 => f 7 = aggI .u64 cr6 | 8 => f 8 = aggI .u64 cr7 | 9 => f 9 = aggI .u64 cr8 | 10 => f 10 = .tuple #[aggI .u64 rx, .bool true] | 11 => f 11 = .tuple #[aggI .u64 rx, .bool true] | 12 => f 12 = aggI .u64 rx | 13 => f 13 = .bool true | 16 => f 16 = .bool true | _ => True) (by kernel_rfl) (by kernel_rfl) (by kernel_rfl) (by kernel_rfl) rfl (by intro it h it' h' e; simp only [List.mem_cons, List.not_mem_nil, or_false] at h h'; rcases h with rfl <;> rcases h' with rfl <;> first | rfl | (simp at e)) (fun v v' hb h => ⟨h.1.below hb, h.2.1.below hb, h.2.2.1.below hb, h.2.2.2.1.below hb, h.2.2.2.2.1.below hb, below_then h.2.2.2.2.2 hb⟩) (fun v h => h.2.2.2.2.2.size) (fun v B cs hB h => ⟨h.1.rowOther (by omega) _, h.2.1.rowOther (by omega) _, h.2.2.1.rowOther (by omega) _, h.2.2.2.1.rowOther (by omega) _, h.2.2.2.2.1.rowOther (by omega) _, Below.setRow h.2.2.2.2.2 (by omega) _⟩) (fun _ _ _ _ h => h) ⟨A1.drew, A2.drew, A5.drew, A6.drew, A7.drew, (Below.refl _ _).drew⟩ ?_ (by intro it h; simp only [List.mem_cons, List.not_mem_nil, or_false] at h; rcases h with rfl <;> exact ⟨by simp, by simp⟩) ?_
 ·
  refine StepN.plain rfl (fun f W hG hH => ?_) ?_
  ·
   clear hH
   generalize hA : putL _ _ _ _ = A
   have q6 : A.eval (.tmp 6) = .pointer (some ⟨w8.heap.size, 0, none⟩) := putLn hA 6 rfl rfl rfl
   clear hA
   exact Does.loadM rfl 42 _ rfl 5 _ und_limbs rfl info_limbs (w8.heap.size) (0) q6 .u64 (cr2) (hG.2.2.2.1) (by omega) (sl_all l_cr2) ⟨Below.refl _ _, rfl⟩
  refine StepN.plain rfl (fun f W hG hH => ?_) ?_
  ·
   clear hH
   generalize hA : putL _ _ _ _ = A
   have q7 : A.eval (.tmp 7) = .pointer (some ⟨w11.heap.size, 0, none⟩) := putLn hA 7 rfl rfl rfl
   clear hA
   exact Does.loadM rfl 42 _ rfl 5 _ und_limbs rfl info_limbs (w11.heap.size) (0) q7 .u64 (cr3) (hG.2.2.2.2.1) (by omega) (sl_all l_cr3) ⟨Below.refl _ _, rfl⟩
  refine StepN.plain rfl (fun f W hG hH => ?_) ?_
  ·
   obtain ⟨d0, d1, -⟩ := hH
   generalize hA : putL _ _ _ _ = A
   have q30 := putLl hA 30 d0 rfl rfl
   have r30 := slot_get q30
   have q31 := putLl hA 31 d1 rfl rfl
   have r31 := slot_get q31
   clear hA
   refine Does.call rfl _ _ (by go_simp) ((H4 W).mono ?_)
   rintro e w' ⟨rfl, hb'⟩
   exact ⟨_, rfl, hb', rfl⟩
  refine StepN.plain rfl (fun f W hG hH => ?_) ?_
  ·
   clear hH
   generalize hA : putL _ _ _ _ = A
   have q6 : A.eval (.tmp 6) = .pointer (some ⟨w8.heap.size, 0, none⟩) := putLn hA 6 rfl rfl rfl
   clear hA
   exact Does.loadM rfl 42 _ rfl 5 _ und_limbs rfl info_limbs (w8.heap.size) (0) q6 .u64 (cr2) (hG.2.2.2.1) (by omega) (sl_all l_cr2) ⟨Below.refl _ _, rfl⟩
  refine StepN.plain rfl (fun f W hG hH => ?_) ?_
  ·
   clear hH
   generalize hA : putL _ _ _ _ = A
   clear hA
   exact Does.loadG rfl 42 _ rfl 5 _ und_limbs rfl info_limbs 1 0 rfl .u64 (dLn) ((hT.below (below_then BB hG.2.2.2.2.2)).g1) (by rw [l_dLn]; decide) (sl_all l_dLn) ⟨Below.refl _ _, rfl⟩
  refine StepN.plain rfl (fun f W hG hH => ?_) ?_
  ·
   obtain ⟨d3, d4, d2, -⟩ := hH
   generalize hA : putL _ _ _ _ = A
   have q33 := putLl hA 33 d3 rfl rfl
   have r33 := slot_get q33
   have q34 := putLl hA 34 d4 rfl rfl
   have r34 := slot_get q34
   clear hA
   refine Does.call rfl _ _ (by go_simp) ((H5 W).mono ?_)
   rintro e w' ⟨rfl, hb'⟩
   exact ⟨_, rfl, hb', rfl⟩
  refine StepN.plain rfl (fun f W hG hH => ?_) ?_
  ·
   clear hH
   generalize hA : putL _ _ _ _ = A
   have q7 : A.eval (.tmp 7) = .pointer (some ⟨w11.heap.size, 0, none⟩) := putLn hA 7 rfl rfl rfl
   clear hA
   exact Does.loadM rfl 42 _ rfl 5 _ und_limbs rfl info_limbs (w11.heap.size) (0) q7 .u64 (cr3) (hG.2.2.2.2.1) (by omega) (sl_all l_cr3) ⟨Below.refl _ _, rfl⟩
  refine StepN.plain rfl (fun f W hG hH => ?_) ?_
  ·
   obtain ⟨d5, d6, -, -⟩ := hH
   generalize hA : putL _ _ _ _ = A
   have q35 := putLl hA 35 d5 rfl rfl
   have r35 := slot_get q35
   have q36 := putLl hA 36 d6 rfl rfl
   have r36 := slot_get q36
   clear hA
   refine Does.call rfl _ _ (by go_simp) ((H6 W).mono ?_)
   rintro e w' ⟨rfl, hb'⟩
   exact ⟨_, rfl, hb', rfl⟩
  refine StepN.plain rfl (fun f W hG hH => ?_) ?_
  ·
   obtain ⟨d7, -, -⟩ := hH
   generalize hA : putL _ _ _ _ = A
   have q37 := putLl hA 37 d7 rfl rfl
   have r37 := slot_get q37
   clear hA
   refine Does.call rfl _ _ (by go_simp) ((H7 W).mono ?_)
   rintro e w' ⟨rfl, hb'⟩
   exact ⟨_, rfl, hb', rfl⟩
  refine StepN.plain rfl (fun f W hG hH => ?_) ?_
  ·
   obtain ⟨d2, d8, -, -⟩ := hH
   generalize hA : putL _ _ _ _ = A
   have q32 := putLl hA 32 d2 rfl rfl
   have r32 := slot_get q32
   have q38 := putLl hA 38 d8 rfl rfl
   have r38 := slot_get q38
   clear hA
   refine Does.call rfl _ _ (by go_simp) ((H8 W).mono ?_)
   rintro e w' ⟨rfl, hb'⟩
   exact ⟨_, rfl, hb', rfl⟩
  refine StepN.plain rfl (fun f W hG hH => ?_) ?_
  ·
   obtain ⟨d9, -, -⟩ := hH
   generalize hA : putL _ _ _ _ = A
   have q39 := putLl hA 39 d9 rfl rfl
   have r39 := slot_get q39
   clear hA
   refine Does.call rfl _ _ (by go_simp) ((H9 W (hT.below (below_then BB hG.2.2.2.2.2))).mono ?_)
   rintro e w' ⟨rfl, hb'⟩
   exact ⟨_, rfl, hb', rfl⟩
  refine StepN.plain rfl (fun f W hG hH => ?_) ?_
  ·
   obtain ⟨d10, -⟩ := hH
   generalize hA : putL _ _ _ _ = A
   have q40 := putLl hA 40 d10 rfl rfl
   have r40 := slot_get q40
   clear hA
   refine Does.pure rfl (.tuple #[aggI .u64 rx, .bool true]) ?_ ⟨Below.refl _ _, rfl⟩
   go_simp
  refine StepN.plain rfl (fun f W hG hH => ?_) ?_
  ·
   obtain ⟨d11, -⟩ := hH
   generalize hA : putL _ _ _ _ = A
   have q29 := putLl hA 29 d11 rfl rfl
   have r29 := slot_get q29
   clear hA
   refine Does.pure rfl (aggI .u64 rx) ?_ ⟨Below.refl _ _, rfl⟩
   go_simp
  refine StepN.plain rfl (fun f W hG hH => ?_) ?_
  ·
   obtain ⟨d11, -⟩ := hH
   generalize hA : putL _ _ _ _ = A
   have q29 := putLl hA 29 d11 rfl rfl
   have r29 := slot_get q29
   clear hA
   refine Does.pure rfl (.bool true) ?_ ⟨Below.refl _ _, rfl⟩
   go_simp
  refine StepN.alloc rfl (fun _ _ => trivial) (fun A W => ?_) ?_
  ·
   refine Does.allocI rfl 42 rfl .u64 5 zero_limbs ?_
   intro W1 D1 s1 b1'
   exact ⟨b1', rfl, D1⟩
  refine StepN.store rfl (fun _ _ => trivial) (fun f W B hG hH hB hZ => ?_) ?_
  ·
   obtain ⟨-, d12, d10, d0, d1, d2, d3, d4, d5, d6, d7, d8, d9, -, d11, -, -, -⟩ := hH
   generalize hA : putL _ _ _ _ = A
   have q8 : A.eval (.tmp 8) = f 14 := putLl hA 8 rfl rfl rfl
   have r8 := slot_get q8
   have q41 := putLl hA 41 d12 rfl rfl
   have r41 := slot_get q41
   clear hA
   have hB : f 14 = .pointer (some ⟨B, 0, none⟩) := hB
   rw [hB] at q8
   refine Does.storeI rfl 42 _ _ rfl 5 info_limbs B q8 .u64 _ (rx) q41 hZ (by rfl) (l_rx) ?_
   intro A9
   exact ⟨rfl, A9⟩
  refine StepN.plain rfl (fun f W hG hH => ?_) ?_
  ·
   obtain ⟨d13, -, d0, d1, d2, d3, d4, d5, d6, d7, d8, d9, d10, d11, d12, -, -, -, -⟩ := hH
   generalize hA : putL _ _ _ _ = A
   have q42 := putLl hA 42 d13 rfl rfl
   have r42 := slot_get q42
   clear hA
   refine Does.pure rfl (.bool true) ?_ ⟨Below.refl _ _, rfl⟩
   go_simp
  exact trivial
 ·
  intro f V14 hG hH hN
  obtain ⟨d0, d1, d2, d3, d4, d5, d6, d7, d8, d9, d10, d11, d12, d13, -, -, d16, -⟩ : (f 0 = aggI .u64 cr2) ∧ (f 1 = aggI .u64 cr3) ∧ (f 2 = aggI .u64 cr4) ∧ (f 3 = aggI .u64 cr2) ∧ (f 4 = aggI .u64 dLn) ∧ (f 5 = aggI .u64 cr5) ∧ (f 6 = aggI .u64 cr3) ∧ (f 7 = aggI .u64 cr6) ∧ (f 8 = aggI .u64 cr7) ∧ (f 9 = aggI .u64 cr8) ∧ (f 10 = .tuple #[aggI .u64 rx, .bool true]) ∧ (f 11 = .tuple #[aggI .u64 rx, .bool true]) ∧ (f 12 = aggI .u64 rx) ∧ (f 13 = .bool true) ∧ (True) ∧ (True) ∧ (f 16 = .bool true) ∧ True := hH
  rw [show List.range (List.length [[], [], [0, 1], [], [], [3, 4, 2], [], [5, 6, 5], [7, 7], [2, 8, 8], [9, 9], [10], [11], [11], [], [14, 12, 10, 0, 1, 2, 3, 4, 5, 6, 7, 8, 9, 10, 11, 12, 14], [13, 15, 0, 1, 2, 3, 4, 5, 6, 7, 8, 9, 10, 11, 12, 13, 14, 15]]) = [0, 1, 2, 3, 4, 5, 6, 7, 8, 9, 10, 11, 12, 13, 14, 15, 16] from rfl]
  obtain ⟨loc, hn1, hn2⟩ := hN
  obtain ⟨hN0, kN0, A8⟩ : f 14 = .pointer (some ⟨loc 14, 0, none⟩) ∧ Wc14.heap.size ≤ loc 14 ∧ Arr .u64 V14 (loc 14) rx := hn1 ⟨14, 15, .u64, 5, rx⟩ (by simp) rfl
  clear hn1 hn2
  generalize loc 14 = N14_0 at *
  simp only [putL, List.getElem?_cons_zero, List.getElem?_cons_succ, Option.join, Option.bind_some, id_eq, Act.put, List.setIfInBounds_toArray, List.set_cons_zero, List.set_cons_succ, d0, d1, d2, d3, d4, d5, d6, d7, d8, d9, d10, d11, d12, d13, d16, hN0]
  clear d0 d1 d2 d3 d4 d5 d6 d7 d8 d9 d10 d11 d12 d13 d16 hN0
  clear A1 A2 A5 A6 A7
  obtain ⟨A1, A2, A5, A6, A7, BV⟩ := hG
  replace BB := below_then BB BV
  clear BV
  have zz14 := BB.size
  go_wp2_with (first
    | (with_reducible refine at_n 48 ?_; refine wpList_val' (fun R hR => Does.loadM rfl 42 _ rfl 5 _ und_limbs rfl info_limbs (N14_0) 0 rfl .u64 (rx) (A8) (by omega) (sl_all l_rx) hR) ?_)
    | (with_reducible refine at_n 49 ?_; go_loud (refine wpList_val' (fun R hR => Does.buildI rfl 42 _ rfl .u64 (bu0) _ (hbu0) rfl hR) ?_))
    | (with_reducible refine at_n 53 ?_; go_loud (refine wpList_val' (fun R hR => Does.buildI rfl 46 _ rfl .u64 (bu1) _ (hbu1) rfl hR) ?_))
    | (with_reducible refine at_op (o := ⟨_, .store 46 (.tmp 2) _, _, _, _, _⟩) ?_; refine wpList_storeI rfl 46 _ _ rfl 20 info_point (w1.heap.size) rfl .u64 _ (bu1) rfl (A2) (rfl) (l_bu1) ?_; intro D16; replace A1 := A1.rowOther (B' := w1.heap.size) (by omega) ((bu1).map (Value.int .u64)).toArray; replace A5 := A5.rowOther (B' := w1.heap.size) (by omega) ((bu1).map (Value.int .u64)).toArray; replace A6 := A6.rowOther (B' := w1.heap.size) (by omega) ((bu1).map (Value.int .u64)).toArray; replace A7 := A7.rowOther (B' := w1.heap.size) (by omega) ((bu1).map (Value.int .u64)).toArray; replace A8 := A8.rowOther (B' := w1.heap.size) (by omega) ((bu1).map (Value.int .u64)).toArray; replace BB := Below.setRow BB (g := w1.heap.size) (by omega) ((bu1).map (Value.int .u64)).toArray; clear A2; have A2 := D16)
    | (go_at_call 70; first | ((with_reducible refine (H10 _).mono ?_); rintro e w15 ⟨rfl, b15⟩; replace A1 := A1.below b15; replace A2 := A2.below b15; replace A5 := A5.below b15; replace A6 := A6.below b15; replace A7 := A7.below b15; replace A8 := A8.below b15; replace BB := below_then BB b15; have z15 := BB.size)))
  refine bodyPost_ret (results_cell_tmpM rfl _ 20 _ Tryd.underlying46 rfl info_point (w1.heap.size) rfl .u64 _ A2 (l_bu1)) rfl ?_
  exact ⟨rfl, BB⟩
set_option maxHeartbeats 2000000 in
theorem load_t (xb xb_set31 cr1 cr2 cr3 cr4 cr5 cr6 cr7 cr8 rx bu0 bu1 cr11 cr12 : List Int) (xb_at31 yb : Int) (w : World) (hT : TabD w)
  (l_xb : xb.length = 32) (l_xb_set31 : xb_set31.length = 32) (l_cr1 : cr1.length = 5) (l_cr2 : cr2.length = 5) (l_cr3 : cr3.length = 5) (l_cr4 : cr4.length = 5) (l_cr5 : cr5.length = 5) (l_cr6 : cr6.length = 5) (l_cr7 : cr7.length = 5) (l_cr8 : cr8.length = 5) (l_rx : rx.length = 5) (l_bu0 : bu0.length = 5) (l_bu1 : bu1.length = 10) (l_cr11 : cr11.length = 10) (l_cr12 : cr12.length = 20)
  (h_xb_at31 : at0 xb 31 = xb_at31)
  (h_xb_set31 : List.set xb 31 (yb) = xb_set31)
  (hand : bits BinOp.and IntKind.u8 xb_at31 128 = 128)
  (hlow : bits BinOp.and IntKind.u8 xb_at31 127 = yb)
  (hbu0 : Tryd.prog.built 42 [] = some (bu0.map (Value.int .u64)).toArray)
  (hbu1 : Tryd.prog.built 44 [(0, aggI .u64 rx), (1, aggI .u64 cr1)] = some (bu1.map (Value.int .u64)).toArray)
  (H0 : ∀ W, Ret 66 #[aggI .u8 xb_set31] (.bool true) W)
  (H1 : ∀ W, Ret 67 #[aggI .u8 xb_set31] (aggI .u64 cr1) W)
  (H2 : ∀ W, Ret 49 #[aggI .u64 cr1, aggI .u64 cr1] (aggI .u64 cr2) W)
  (H3 : ∀ W, Ret 63 #[.int .u32 1] (aggI .u64 cr3) W)
  (H4 : ∀ W, Ret 53 #[aggI .u64 cr2, aggI .u64 cr3] (aggI .u64 cr4) W)
  (H5 : ∀ W, Ret 49 #[aggI .u64 cr2, aggI .u64 dLn] (aggI .u64 cr5) W)
  (H6 : ∀ W, Ret 51 #[aggI .u64 cr5, aggI .u64 cr3] (aggI .u64 cr6) W)
  (H7 : ∀ W, Ret 68 #[aggI .u64 cr6] (aggI .u64 cr7) W)
  (H8 : ∀ W, Ret 49 #[aggI .u64 cr4, aggI .u64 cr7] (aggI .u64 cr8) W)
  (H9 : ∀ W, TabD W → Ret 69 #[aggI .u64 cr8] (.tuple #[aggI .u64 rx, .bool true]) W)
  (H10 : ∀ W, Ret 70 #[aggI .u64 rx, aggI .u64 bu0] (.bool false) W)
  (H11 : ∀ W, Ret 33 #[aggI .u64 bu1] (aggI .u64 cr11) W)
  (H12 : ∀ W, Ret 34 #[aggI .u64 cr11] (aggI .u64 cr12) W) :
  Calls Tryd.prog 36 #[aggI .u8 xb] w fun e w' => e = .returned (.tuple #[aggI .u64 cr12, .bool true]) ∧ Below w.heap.size w w' := by
 go_enter Tryd.func36, Tryd.ntmps36
 go_wp2_with (first
   | (with_reducible refine at_n 1 ?_; refine wpList_boxI rfl 22 _ rfl .u8 xb rfl ?_; intro w1 A1 s1 b1; have BB := b1; have y1 := BB.size)
   | (with_reducible refine at_n 2 ?_; refine wpList_allocI rfl 46 rfl .u64 20 zero_point ?_; intro w2 A2 s2 b2; have q2_1 := A1.lt; replace A1 := A1.below b2; replace BB := below_then BB b2; have y2 := BB.size)
   | (with_reducible refine at_n 12 ?_; refine wpList_val' (fun R hR => Does.loadC rfl 5 _ rfl _ Tryd.underlying5 rfl (w.heap.size) 31 rfl .u8 (xb) (A1) (by rw [l_xb]; decide) (h_xb_at31) hR) ?_)
   | (with_reducible refine at_n 16 ?_; refine wpList_val' (fun R hR => Does.loadC rfl 5 _ rfl _ Tryd.underlying5 rfl (w.heap.size) 31 rfl .u8 (xb) (A1) (by rw [l_xb]; decide) (h_xb_at31) hR) ?_)
   | (with_reducible refine at_op (o := ⟨_, .store 5 (.tmp 18) _, _, _, _, _⟩) ?_; refine wpList_storeC rfl 5 _ _ rfl (by kernel_rfl) (w.heap.size) 31 rfl .u8 _ rfl (xb) xb_set31 (A1) (by rw [l_xb]; decide) (by first | exact h_xb_set31 | (simp only [hand, hlow]; exact h_xb_set31)) ?_; intro w3 D3 O3 L3; replace A2 := O3 _ _ _ (by omega) A2; replace BB := L3 _ _ BB (by omega); have z3 := BB.size; clear O3 L3 A1; have A1 := D3)
   | (with_reducible refine at_n 19 ?_; refine wpList_val' (fun R hR => Does.loadM rfl 22 _ rfl 32 _ und_a32 rfl info_a32 (w.heap.size) 0 rfl .u8 (xb_set31) (A1) (by omega) (sl_all l_xb_set31) hR) ?_)
   | (with_reducible refine at_n 23 ?_; refine wpList_val' (fun R hR => Does.loadM rfl 22 _ rfl 32 _ und_a32 rfl info_a32 (w.heap.size) 0 rfl .u8 (xb_set31) (A1) (by omega) (sl_all l_xb_set31) hR) ?_)
   | (with_reducible refine at_n 5 ?_; refine wpList_allocI rfl 42 rfl .u64 5 zero_limbs ?_; intro w6 A5 s6 b6; have q6_1 := A1.lt; have q6_2 := A2.lt; replace A1 := A1.below b6; replace A2 := A2.below b6; replace BB := below_then BB b6; have y6 := BB.size)
   | (with_reducible refine at_op (o := ⟨_, .store 42 (.tmp 5) _, _, _, _, _⟩) ?_; refine wpList_storeI rfl 42 _ _ rfl 5 info_limbs (w5.heap.size) rfl .u64 _ (cr1) rfl (A5) (rfl) (l_cr1) ?_; intro D7; replace A1 := A1.rowOther (B' := w5.heap.size) (by omega) ((cr1).map (Value.int .u64)).toArray; replace A2 := A2.rowOther (B' := w5.heap.size) (by omega) ((cr1).map (Value.int .u64)).toArray; replace BB := Below.setRow BB (g := w5.heap.size) (by omega) ((cr1).map (Value.int .u64)).toArray; clear A5; have A5 := D7)
   | (with_reducible refine at_n 25 ?_; refine wpList_val' (fun R hR => Does.loadM rfl 42 _ rfl 5 _ und_limbs rfl info_limbs (w5.heap.size) 0 rfl .u64 (cr1) (A5) (by omega) (sl_all l_cr1) hR) ?_)
   | (with_reducible refine at_n 26 ?_; refine wpList_val' (fun R hR => Does.loadM rfl 42 _ rfl 5 _ und_limbs rfl info_limbs (w5.heap.size) 0 rfl .u64 (cr1) (A5) (by omega) (sl_all l_cr1) hR) ?_)
   | (with_reducible refine at_n 6 ?_; refine wpList_allocI rfl 42 rfl .u64 5 zero_limbs ?_; intro w9 A6 s9 b9; have q9_1 := A1.lt; have q9_2 := A2.lt; have q9_5 := A5.lt; replace A1 := A1.below b9; replace A2 := A2.below b9; replace A5 := A5.below b9; replace BB := below_then BB b9; have y9 := BB.size)
   | (with_reducible refine at_op (o := ⟨_, .store 42 (.tmp 6) _, _, _, _, _⟩) ?_; refine wpList_storeI rfl 42 _ _ rfl 5 info_limbs (w8.heap.size) rfl .u64 _ (cr2) rfl (A6) (rfl) (l_cr2) ?_; intro D10; replace A1 := A1.rowOther (B' := w8.heap.size) (by omega) ((cr2).map (Value.int .u64)).toArray; replace A2 := A2.rowOther (B' := w8.heap.size) (by omega) ((cr2).map (Value.int .u64)).toArray; replace A5 := A5.rowOther (B' := w8.heap.size) (by omega) ((cr2).map (Value.int .u64)).toArray; replace BB := Below.setRow BB (g := w8.heap.size) (by omega) ((cr2).map (Value.int .u64)).toArray; clear A6; have A6 := D10)
   | (with_reducible refine at_n 7 ?_; refine wpList_allocI rfl 42 rfl .u64 5 zero_limbs ?_; intro w12 A7 s12 b12; have q12_1 := A1.lt; have q12_2 := A2.lt; have q12_5 := A5.lt; have q12_6 := A6.lt; replace A1 := A1.below b12; replace A2 := A2.below b12; replace A5 := A5.below b12; replace A6 := A6.below b12; replace BB := below_then BB b12; have y12 := BB.size)
   | (with_reducible refine at_op (o := ⟨_, .store 42 (.tmp 7) _, _, _, _, _⟩) ?_; refine wpList_storeI rfl 42 _ _ rfl 5 info_limbs (w11.heap.size) rfl .u64 _ (cr3) rfl (A7) (rfl) (l_cr3) ?_; intro D13; replace A1 := A1.rowOther (B' := w11.heap.size) (by omega) ((cr3).map (Value.int .u64)).toArray; replace A2 := A2.rowOther (B' := w11.heap.size) (by omega) ((cr3).map (Value.int .u64)).toArray; replace A5 := A5.rowOther (B' := w11.heap.size) (by omega) ((cr3).map (Value.int .u64)).toArray; replace A6 := A6.rowOther (B' := w11.heap.size) (by omega) ((cr3).map (Value.int .u64)).toArray; replace BB := Below.setRow BB (g := w11.heap.size) (by omega) ((cr3).map (Value.int .u64)).toArray; clear A7; have A7 := D13)
   | (go_at_call 66; first | ((with_reducible refine (H0 _).mono ?_); rintro e w4 ⟨rfl, b4⟩; replace A1 := A1.below b4; replace A2 := A2.below b4; replace BB := below_then BB b4; have z4 := BB.size))
   | (go_at_call 67; first | ((with_reducible refine (H1 _).mono ?_); rintro e w5 ⟨rfl, b5⟩; replace A1 := A1.below b5; replace A2 := A2.below b5; replace BB := below_then BB b5; have z5 := BB.size))
   | (go_at_call 49; first | ((with_reducible refine (H2 _).mono ?_); rintro e w8 ⟨rfl, b8⟩; replace A1 := A1.below b8; replace A2 := A2.below b8; replace A5 := A5.below b8; replace BB := below_then BB b8; have z8 := BB.size))
   | (go_at_call 63; first | ((with_reducible refine (H3 _).mono ?_); rintro e w11 ⟨rfl, b11⟩; replace A1 := A1.below b11; replace A2 := A2.below b11; replace A5 := A5.below b11; replace A6 := A6.below b11; replace BB := below_then BB b11; have z11 := BB.size)))
 refine wp_world fun Wc14 hWc => ?_
 rw [← hWc] at BB A1 A2 A5 A6 A7
 clear hWc
 have k14_0 := A1.lt
 have k14_1 := A2.lt
 have k14_2 := A5.lt
 have k14_3 := A6.lt
 have k14_4 := A7.lt
 refine wp_region_new [[], [], [0, 1], [], [], [3, 4, 2], [], [5, 6, 5], [7, 7], [2, 8, 8], [9, 9], [10], [11], [11], [], [14, 12, 10, 0, 1, 2, 3, 4, 5, 6, 7, 8, 9, 10, 11, 12, 14], [13, 15, 0, 1, 2, 3, 4, 5, 6, 7, 8, 9, 10, 11, 12, 13, 14, 15]] [some 30, some 31, some 32, some 33, some 34, some 35, some 36, some 37, some 38, some 39, some 40, some 29, some 41, some 42, some 8, none, some 9] (Wc14.heap.size) [⟨14, 15, .u64, 5, rx⟩] (fun w' => Arr .u8 w' (w.heap.size) xb_set31 ∧ Arr .u64 w' (w1.heap.size) (List.replicate 20 0) ∧ Arr .u64 w' (w5.heap.size) cr1 ∧ Arr .u64 w' (w8.heap.size) cr2 ∧ Arr .u64 w' (w11.heap.size) cr3 ∧ Below Wc14.heap.size Wc14 w') (fun opn f _ => match opn with | 0 => f 0 = aggI .u64 cr2 | 1 => f 1 = aggI .u64 cr3 | 2 => f 2 = aggI .u64 cr4 | 3 => f 3 = aggI .u64 cr2 | 4 => f 4 = aggI .u64 dLn | 5 => f 5 = aggI .u64 cr5 | 6 => f 6 = aggI .u64 cr3 | 7 => f 7 = aggI .u64 cr6 | 8 => f 8 = aggI .u64 cr7 | 9 => f 9 = aggI .u64 cr8 | 10 => f 10 = .tuple #[aggI .u64 rx, .bool true] | 11 => f 11 = .tuple #[aggI .u64 rx, .bool true] | 12 => f 12 = aggI .u64 rx | 13 => f 13 = .bool true | 16 => f 16 = .bool true | _ => True) (by kernel_rfl) (by kernel_rfl) (by kernel_rfl) (by kernel_rfl) rfl (by intro it h it' h' e; simp only [List.mem_cons, List.not_mem_nil, or_false] at h h'; rcases h with rfl <;> rcases h' with rfl <;> first | rfl | (simp at e)) (fun v v' hb h => ⟨h.1.below hb, h.2.1.below hb, h.2.2.1.below hb, h.2.2.2.1.below hb, h.2.2.2.2.1.below hb, below_then h.2.2.2.2.2 hb⟩) (fun v h => h.2.2.2.2.2.size) (fun v B cs hB h => ⟨h.1.rowOther (by omega) _, h.2.1.rowOther (by omega) _, h.2.2.1.rowOther (by omega) _, h.2.2.2.1.rowOther (by omega) _, h.2.2.2.2.1.rowOther (by omega) _, Below.setRow h.2.2.2.2.2 (by omega) _⟩) (fun _ _ _ _ h => h) ⟨A1.drew, A2.drew, A5.drew, A6.drew, A7.drew, (Below.refl _ _).drew⟩ ?_ (by intro it h; simp only [List.mem_cons, List.not_mem_nil, or_false] at h; rcases h with rfl <;> exact ⟨by simp, by simp⟩) ?_
 ·
  refine StepN.plain rfl (fun f W hG hH => ?_) ?_
  ·
   clear hH
   generalize hA : putL _ _ _ _ = A
   have q6 : A.eval (.tmp 6) = .pointer (some ⟨w8.heap.size, 0, none⟩) := putLn hA 6 rfl rfl rfl
   clear hA
   exact Does.loadM rfl 42 _ rfl 5 _ und_limbs rfl info_limbs (w8.heap.size) (0) q6 .u64 (cr2) (hG.2.2.2.1) (by omega) (sl_all l_cr2) ⟨Below.refl _ _, rfl⟩
  refine StepN.plain rfl (fun f W hG hH => ?_) ?_
  ·
   clear hH
   generalize hA : putL _ _ _ _ = A
   have q7 : A.eval (.tmp 7) = .pointer (some ⟨w11.heap.size, 0, none⟩) := putLn hA 7 rfl rfl rfl
   clear hA
   exact Does.loadM rfl 42 _ rfl 5 _ und_limbs rfl info_limbs (w11.heap.size) (0) q7 .u64 (cr3) (hG.2.2.2.2.1) (by omega) (sl_all l_cr3) ⟨Below.refl _ _, rfl⟩
  refine StepN.plain rfl (fun f W hG hH => ?_) ?_
  ·
   obtain ⟨d0, d1, -⟩ := hH
   generalize hA : putL _ _ _ _ = A
   have q30 := putLl hA 30 d0 rfl rfl
   have r30 := slot_get q30
   have q31 := putLl hA 31 d1 rfl rfl
   have r31 := slot_get q31
   clear hA
   refine Does.call rfl _ _ (by go_simp) ((H4 W).mono ?_)
   rintro e w' ⟨rfl, hb'⟩
   exact ⟨_, rfl, hb', rfl⟩
  refine StepN.plain rfl (fun f W hG hH => ?_) ?_
  ·
   clear hH
   generalize hA : putL _ _ _ _ = A
   have q6 : A.eval (.tmp 6) = .pointer (some ⟨w8.heap.size, 0, none⟩) := putLn hA 6 rfl rfl rfl
   clear hA
   exact Does.loadM rfl 42 _ rfl 5 _ und_limbs rfl info_limbs (w8.heap.size) (0) q6 .u64 (cr2) (hG.2.2.2.1) (by omega) (sl_all l_cr2) ⟨Below.refl _ _, rfl⟩
  refine StepN.plain rfl (fun f W hG hH => ?_) ?_
  ·
   clear hH
   generalize hA : putL _ _ _ _ = A
   clear hA
   exact Does.loadG rfl 42 _ rfl 5 _ und_limbs rfl info_limbs 1 0 rfl .u64 (dLn) ((hT.below (below_then BB hG.2.2.2.2.2)).g1) (by rw [l_dLn]; decide) (sl_all l_dLn) ⟨Below.refl _ _, rfl⟩
  refine StepN.plain rfl (fun f W hG hH => ?_) ?_
  ·
   obtain ⟨d3, d4, d2, -⟩ := hH
   generalize hA : putL _ _ _ _ = A
   have q33 := putLl hA 33 d3 rfl rfl
   have r33 := slot_get q33
   have q34 := putLl hA 34 d4 rfl rfl
   have r34 := slot_get q34
   clear hA
   refine Does.call rfl _ _ (by go_simp) ((H5 W).mono ?_)
   rintro e w' ⟨rfl, hb'⟩
   exact ⟨_, rfl, hb', rfl⟩
  refine StepN.plain rfl (fun f W hG hH => ?_) ?_
  ·
   clear hH
   generalize hA : putL _ _ _ _ = A
   have q7 : A.eval (.tmp 7) = .pointer (some ⟨w11.heap.size, 0, none⟩) := putLn hA 7 rfl rfl rfl
   clear hA
   exact Does.loadM rfl 42 _ rfl 5 _ und_limbs rfl info_limbs (w11.heap.size) (0) q7 .u64 (cr3) (hG.2.2.2.2.1) (by omega) (sl_all l_cr3) ⟨Below.refl _ _, rfl⟩
  refine StepN.plain rfl (fun f W hG hH => ?_) ?_
  ·
   obtain ⟨d5, d6, -, -⟩ := hH
   generalize hA : putL _ _ _ _ = A
   have q35 := putLl hA 35 d5 rfl rfl
   have r35 := slot_get q35
   have q36 := putLl hA 36 d6 rfl rfl
   have r36 := slot_get q36
   clear hA
   refine Does.call rfl _ _ (by go_simp) ((H6 W).mono ?_)
   rintro e w' ⟨rfl, hb'⟩
   exact ⟨_, rfl, hb', rfl⟩
  refine StepN.plain rfl (fun f W hG hH => ?_) ?_
  ·
   obtain ⟨d7, -, -⟩ := hH
   generalize hA : putL _ _ _ _ = A
   have q37 := putLl hA 37 d7 rfl rfl
   have r37 := slot_get q37
   clear hA
   refine Does.call rfl _ _ (by go_simp) ((H7 W).mono ?_)
   rintro e w' ⟨rfl, hb'⟩
   exact ⟨_, rfl, hb', rfl⟩
  refine StepN.plain rfl (fun f W hG hH => ?_) ?_
  ·
   obtain ⟨d2, d8, -, -⟩ := hH
   generalize hA : putL _ _ _ _ = A
   have q32 := putLl hA 32 d2 rfl rfl
   have r32 := slot_get q32
   have q38 := putLl hA 38 d8 rfl rfl
   have r38 := slot_get q38
   clear hA
   refine Does.call rfl _ _ (by go_simp) ((H8 W).mono ?_)
   rintro e w' ⟨rfl, hb'⟩
   exact ⟨_, rfl, hb', rfl⟩
  refine StepN.plain rfl (fun f W hG hH => ?_) ?_
  ·
   obtain ⟨d9, -, -⟩ := hH
   generalize hA : putL _ _ _ _ = A
   have q39 := putLl hA 39 d9 rfl rfl
   have r39 := slot_get q39
   clear hA
   refine Does.call rfl _ _ (by go_simp) ((H9 W (hT.below (below_then BB hG.2.2.2.2.2))).mono ?_)
   rintro e w' ⟨rfl, hb'⟩
   exact ⟨_, rfl, hb', rfl⟩
  refine StepN.plain rfl (fun f W hG hH => ?_) ?_
  ·
   obtain ⟨d10, -⟩ := hH
   generalize hA : putL _ _ _ _ = A
   have q40 := putLl hA 40 d10 rfl rfl
   have r40 := slot_get q40
   clear hA
   refine Does.pure rfl (.tuple #[aggI .u64 rx, .bool true]) ?_ ⟨Below.refl _ _, rfl⟩
   go_simp
  refine StepN.plain rfl (fun f W hG hH => ?_) ?_
  ·
   obtain ⟨d11, -⟩ := hH
   generalize hA : putL _ _ _ _ = A
   have q29 := putLl hA 29 d11 rfl rfl
   have r29 := slot_get q29
   clear hA
   refine Does.pure rfl (aggI .u64 rx) ?_ ⟨Below.refl _ _, rfl⟩
   go_simp
  refine StepN.plain rfl (fun f W hG hH => ?_) ?_
  ·
   obtain ⟨d11, -⟩ := hH
   generalize hA : putL _ _ _ _ = A
   have q29 := putLl hA 29 d11 rfl rfl
   have r29 := slot_get q29
   clear hA
   refine Does.pure rfl (.bool true) ?_ ⟨Below.refl _ _, rfl⟩
   go_simp
  refine StepN.alloc rfl (fun _ _ => trivial) (fun A W => ?_) ?_
  ·
   refine Does.allocI rfl 42 rfl .u64 5 zero_limbs ?_
   intro W1 D1 s1 b1'
   exact ⟨b1', rfl, D1⟩
  refine StepN.store rfl (fun _ _ => trivial) (fun f W B hG hH hB hZ => ?_) ?_
  ·
   obtain ⟨-, d12, d10, d0, d1, d2, d3, d4, d5, d6, d7, d8, d9, -, d11, -, -, -⟩ := hH
   generalize hA : putL _ _ _ _ = A
   have q8 : A.eval (.tmp 8) = f 14 := putLl hA 8 rfl rfl rfl
   have r8 := slot_get q8
   have q41 := putLl hA 41 d12 rfl rfl
   have r41 := slot_get q41
   clear hA
   have hB : f 14 = .pointer (some ⟨B, 0, none⟩) := hB
   rw [hB] at q8
   refine Does.storeI rfl 42 _ _ rfl 5 info_limbs B q8 .u64 _ (rx) q41 hZ (by rfl) (l_rx) ?_
   intro A9
   exact ⟨rfl, A9⟩
  refine StepN.plain rfl (fun f W hG hH => ?_) ?_
  ·
   obtain ⟨d13, -, d0, d1, d2, d3, d4, d5, d6, d7, d8, d9, d10, d11, d12, -, -, -, -⟩ := hH
   generalize hA : putL _ _ _ _ = A
   have q42 := putLl hA 42 d13 rfl rfl
   have r42 := slot_get q42
   clear hA
   refine Does.pure rfl (.bool true) ?_ ⟨Below.refl _ _, rfl⟩
   go_simp
  exact trivial
 ·
  intro f V14 hG hH hN
  obtain ⟨d0, d1, d2, d3, d4, d5, d6, d7, d8, d9, d10, d11, d12, d13, -, -, d16, -⟩ : (f 0 = aggI .u64 cr2) ∧ (f 1 = aggI .u64 cr3) ∧ (f 2 = aggI .u64 cr4) ∧ (f 3 = aggI .u64 cr2) ∧ (f 4 = aggI .u64 dLn) ∧ (f 5 = aggI .u64 cr5) ∧ (f 6 = aggI .u64 cr3) ∧ (f 7 = aggI .u64 cr6) ∧ (f 8 = aggI .u64 cr7) ∧ (f 9 = aggI .u64 cr8) ∧ (f 10 = .tuple #[aggI .u64 rx, .bool true]) ∧ (f 11 = .tuple #[aggI .u64 rx, .bool true]) ∧ (f 12 = aggI .u64 rx) ∧ (f 13 = .bool true) ∧ (True) ∧ (True) ∧ (f 16 = .bool true) ∧ True := hH
  rw [show List.range (List.length [[], [], [0, 1], [], [], [3, 4, 2], [], [5, 6, 5], [7, 7], [2, 8, 8], [9, 9], [10], [11], [11], [], [14, 12, 10, 0, 1, 2, 3, 4, 5, 6, 7, 8, 9, 10, 11, 12, 14], [13, 15, 0, 1, 2, 3, 4, 5, 6, 7, 8, 9, 10, 11, 12, 13, 14, 15]]) = [0, 1, 2, 3, 4, 5, 6, 7, 8, 9, 10, 11, 12, 13, 14, 15, 16] from rfl]
  obtain ⟨loc, hn1, hn2⟩ := hN
  obtain ⟨hN0, kN0, A8⟩ : f 14 = .pointer (some ⟨loc 14, 0, none⟩) ∧ Wc14.heap.size ≤ loc 14 ∧ Arr .u64 V14 (loc 14) rx := hn1 ⟨14, 15, .u64, 5, rx⟩ (by simp) rfl
  clear hn1 hn2
  generalize loc 14 = N14_0 at *
  simp only [putL, List.getElem?_cons_zero, List.getElem?_cons_succ, Option.join, Option.bind_some, id_eq, Act.put, List.setIfInBounds_toArray, List.set_cons_zero, List.set_cons_succ, d0, d1, d2, d3, d4, d5, d6, d7, d8, d9, d10, d11, d12, d13, d16, hN0]
  clear d0 d1 d2 d3 d4 d5 d6 d7 d8 d9 d10 d11 d12 d13 d16 hN0
  clear A1 A2 A5 A6 A7
  obtain ⟨A1, A2, A5, A6, A7, BV⟩ := hG
  replace BB := below_then BB BV
  clear BV
  have zz14 := BB.size
  go_wp2_with (first
    | (with_reducible refine at_n 48 ?_; refine wpList_val' (fun R hR => Does.loadM rfl 42 _ rfl 5 _ und_limbs rfl info_limbs (N14_0) 0 rfl .u64 (rx) (A8) (by omega) (sl_all l_rx) hR) ?_)
    | (with_reducible refine at_n 49 ?_; go_loud (refine wpList_val' (fun R hR => Does.buildI rfl 42 _ rfl .u64 (bu0) _ (hbu0) rfl hR) ?_))
    | (with_reducible refine at_n 54 ?_; refine wpList_val' (fun R hR => Does.loadM rfl 42 _ rfl 5 _ und_limbs rfl info_limbs (N14_0) 0 rfl .u64 (rx) (A8) (by omega) (sl_all l_rx) hR) ?_)
    | (with_reducible refine at_n 55 ?_; refine wpList_val' (fun R hR => Does.loadM rfl 42 _ rfl 5 _ und_limbs rfl info_limbs (w5.heap.size) 0 rfl .u64 (cr1) (A5) (by omega) (sl_all l_cr1) hR) ?_)
    | (with_reducible refine at_n 56 ?_; go_loud (refine wpList_val' (fun R hR => Does.buildI rfl 44 _ rfl .u64 (bu1) _ (hbu1) rfl hR) ?_))
    | (with_reducible refine at_n 10 ?_; refine wpList_allocI rfl 44 rfl .u64 10 zero_plane ?_; intro w16 A10 s16 b16; have q16_1 := A1.lt; have q16_2 := A2.lt; have q16_5 := A5.lt; have q16_6 := A6.lt; have q16_7 := A7.lt; have q16_8 := A8.lt; replace A1 := A1.below b16; replace A2 := A2.below b16; replace A5 := A5.below b16; replace A6 := A6.below b16; replace A7 := A7.below b16; replace A8 := A8.below b16; replace BB := below_then BB b16; have y16 := BB.size)
    | (with_reducible refine at_op (o := ⟨_, .store 44 (.tmp 10) _, _, _, _, _⟩) ?_; refine wpList_storeI rfl 44 _ _ rfl 10 info_plane (w15.heap.size) rfl .u64 _ (bu1) rfl (A10) (rfl) (l_bu1) ?_; intro D17; replace A1 := A1.rowOther (B' := w15.heap.size) (by omega) ((bu1).map (Value.int .u64)).toArray; replace A2 := A2.rowOther (B' := w15.heap.size) (by omega) ((bu1).map (Value.int .u64)).toArray; replace A5 := A5.rowOther (B' := w15.heap.size) (by omega) ((bu1).map (Value.int .u64)).toArray; replace A6 := A6.rowOther (B' := w15.heap.size) (by omega) ((bu1).map (Value.int .u64)).toArray; replace A7 := A7.rowOther (B' := w15.heap.size) (by omega) ((bu1).map (Value.int .u64)).toArray; replace A8 := A8.rowOther (B' := w15.heap.size) (by omega) ((bu1).map (Value.int .u64)).toArray; replace BB := Below.setRow BB (g := w15.heap.size) (by omega) ((bu1).map (Value.int .u64)).toArray; clear A10; have A10 := D17)
    | (with_reducible refine at_n 58 ?_; refine wpList_val' (fun R hR => Does.loadM rfl 44 _ rfl 10 _ Tryd.underlying44 rfl info_plane (w15.heap.size) 0 rfl .u64 (bu1) (A10) (by omega) (sl_all l_bu1) hR) ?_)
    | (with_reducible refine at_op (o := ⟨_, .store 44 (.tmp 10) _, _, _, _, _⟩) ?_; refine wpList_storeI rfl 44 _ _ rfl 10 info_plane (w15.heap.size) rfl .u64 _ (cr11) rfl (A10) (l_bu1) (l_cr11) ?_; intro D19; replace A1 := A1.rowOther (B' := w15.heap.size) (by omega) ((cr11).map (Value.int .u64)).toArray; replace A2 := A2.rowOther (B' := w15.heap.size) (by omega) ((cr11).map (Value.int .u64)).toArray; replace A5 := A5.rowOther (B' := w15.heap.size) (by omega) ((cr11).map (Value.int .u64)).toArray; replace A6 := A6.rowOther (B' := w15.heap.size) (by omega) ((cr11).map (Value.int .u64)).toArray; replace A7 := A7.rowOther (B' := w15.heap.size) (by omega) ((cr11).map (Value.int .u64)).toArray; replace A8 := A8.rowOther (B' := w15.heap.size) (by omega) ((cr11).map (Value.int .u64)).toArray; replace BB := Below.setRow BB (g := w15.heap.size) (by omega) ((cr11).map (Value.int .u64)).toArray; clear A10; have A10 := D19)
    | (with_reducible refine at_n 60 ?_; refine wpList_val' (fun R hR => Does.loadM rfl 44 _ rfl 10 _ Tryd.underlying44 rfl info_plane (w15.heap.size) 0 rfl .u64 (cr11) (A10) (by omega) (sl_all l_cr11) hR) ?_)
    | (with_reducible refine at_op (o := ⟨_, .store 46 (.tmp 2) _, _, _, _, _⟩) ?_; refine wpList_storeI rfl 46 _ _ rfl 20 info_point (w1.heap.size) rfl .u64 _ (cr12) rfl (A2) (rfl) (l_cr12) ?_; intro D21; replace A1 := A1.rowOther (B' := w1.heap.size) (by omega) ((cr12).map (Value.int .u64)).toArray; replace A5 := A5.rowOther (B' := w1.heap.size) (by omega) ((cr12).map (Value.int .u64)).toArray; replace A6 := A6.rowOther (B' := w1.heap.size) (by omega) ((cr12).map (Value.int .u64)).toArray; replace A7 := A7.rowOther (B' := w1.heap.size) (by omega) ((cr12).map (Value.int .u64)).toArray; replace A8 := A8.rowOther (B' := w1.heap.size) (by omega) ((cr12).map (Value.int .u64)).toArray; replace A10 := A10.rowOther (B' := w1.heap.size) (by omega) ((cr12).map (Value.int .u64)).toArray; replace BB := Below.setRow BB (g := w1.heap.size) (by omega) ((cr12).map (Value.int .u64)).toArray; clear A2; have A2 := D21)
    | (go_at_call 70; first | ((with_reducible refine (H10 _).mono ?_); rintro e w15 ⟨rfl, b15⟩; replace A1 := A1.below b15; replace A2 := A2.below b15; replace A5 := A5.below b15; replace A6 := A6.below b15; replace A7 := A7.below b15; replace A8 := A8.below b15; replace BB := below_then BB b15; have z15 := BB.size))
    | (go_at_call 33; first | ((with_reducible refine (H11 _).mono ?_); rintro e w18 ⟨rfl, b18⟩; replace A1 := A1.below b18; replace A2 := A2.below b18; replace A5 := A5.below b18; replace A6 := A6.below b18; replace A7 := A7.below b18; replace A8 := A8.below b18; replace A10 := A10.below b18; replace BB := below_then BB b18; have z18 := BB.size))
    | (go_at_call 34; first | ((with_reducible refine (H12 _).mono ?_); rintro e w20 ⟨rfl, b20⟩; replace A1 := A1.below b20; replace A2 := A2.below b20; replace A5 := A5.below b20; replace A6 := A6.below b20; replace A7 := A7.below b20; replace A8 := A8.below b20; replace A10 := A10.below b20; replace BB := below_then BB b20; have z20 := BB.size)))
  refine bodyPost_ret (results_cell_tmpM rfl _ 20 _ Tryd.underlying46 rfl info_point (w1.heap.size) rfl .u64 _ A2 (l_cr12)) rfl ?_
  exact ⟨rfl, BB⟩
set_option maxHeartbeats 2000000 in
theorem load_f (xb xb_set31 cr1 cr2 cr3 cr4 cr5 cr6 cr7 cr8 rx bu0 cr10 : List Int) (xb_at31 yb : Int) (w : World) (hT : TabD w)
  (l_xb : xb.length = 32) (l_xb_set31 : xb_set31.length = 32) (l_cr1 : cr1.length = 5) (l_cr2 : cr2.length = 5) (l_cr3 : cr3.length = 5) (l_cr4 : cr4.length = 5) (l_cr5 : cr5.length = 5) (l_cr6 : cr6.length = 5) (l_cr7 : cr7.length = 5) (l_cr8 : cr8.length = 5) (l_rx : rx.length = 5) (l_bu0 : bu0.length = 10) (l_cr10 : cr10.length = 20)
  (h_xb_at31 : at0 xb 31 = xb_at31)
  (h_xb_set31 : List.set xb 31 (yb) = xb_set31)
  (hand : bits BinOp.and IntKind.u8 xb_at31 128 = 0)
  (hlow : bits BinOp.and IntKind.u8 xb_at31 127 = yb)
  (hbu0 : Tryd.prog.built 44 [(0, aggI .u64 rx), (1, aggI .u64 cr1)] = some (bu0.map (Value.int .u64)).toArray)
  (H0 : ∀ W, Ret 66 #[aggI .u8 xb_set31] (.bool true) W)
  (H1 : ∀ W, Ret 67 #[aggI .u8 xb_set31] (aggI .u64 cr1) W)
  (H2 : ∀ W, Ret 49 #[aggI .u64 cr1, aggI .u64 cr1] (aggI .u64 cr2) W)
  (H3 : ∀ W, Ret 63 #[.int .u32 1] (aggI .u64 cr3) W)
  (H4 : ∀ W, Ret 53 #[aggI .u64 cr2, aggI .u64 cr3] (aggI .u64 cr4) W)
  (H5 : ∀ W, Ret 49 #[aggI .u64 cr2, aggI .u64 dLn] (aggI .u64 cr5) W)
  (H6 : ∀ W, Ret 51 #[aggI .u64 cr5, aggI .u64 cr3] (aggI .u64 cr6) W)
  (H7 : ∀ W, Ret 68 #[aggI .u64 cr6] (aggI .u64 cr7) W)
  (H8 : ∀ W, Ret 49 #[aggI .u64 cr4, aggI .u64 cr7] (aggI .u64 cr8) W)
  (H9 : ∀ W, TabD W → Ret 69 #[aggI .u64 cr8] (.tuple #[aggI .u64 rx, .bool true]) W)
  (H10 : ∀ W, Ret 34 #[aggI .u64 bu0] (aggI .u64 cr10) W) :
  Calls Tryd.prog 36 #[aggI .u8 xb] w fun e w' => e = .returned (.tuple #[aggI .u64 cr10, .bool true]) ∧ Below w.heap.size w w' := by
 go_enter Tryd.func36, Tryd.ntmps36
 go_wp2_with (first
   | (with_reducible refine at_n 1 ?_; refine wpList_boxI rfl 22 _ rfl .u8 xb rfl ?_; intro w1 A1 s1 b1; have BB := b1; have y1 := BB.size)
   | (with_reducible refine at_n 2 ?_; refine wpList_allocI rfl 46 rfl .u64 20 zero_point ?_; intro w2 A2 s2 b2; have q2_1 := A1.lt; replace A1 := A1.below b2; replace BB := below_then BB b2; have y2 := BB.size)
   | (with_reducible refine at_n 12 ?_; refine wpList_val' (fun R hR => Does.loadC rfl 5 _ rfl _ Tryd.underlying5 rfl (w.heap.size) 31 rfl .u8 (xb) (A1) (by rw [l_xb]; decide) (h_xb_at31) hR) ?_)
   | (with_reducible refine at_n 16 ?_; refine wpList_val' (fun R hR => Does.loadC rfl 5 _ rfl _ Tryd.underlying5 rfl (w.heap.size) 31 rfl .u8 (xb) (A1) (by rw [l_xb]; decide) (h_xb_at31) hR) ?_)
   | (with_reducible refine at_op (o := ⟨_, .store 5 (.tmp 18) _, _, _, _, _⟩) ?_; refine wpList_storeC rfl 5 _ _ rfl (by kernel_rfl) (w.heap.size) 31 rfl .u8 _ rfl (xb) xb_set31 (A1) (by rw [l_xb]; decide) (by first | exact h_xb_set31 | (simp only [hand, hlow]; exact h_xb_set31)) ?_; intro w3 D3 O3 L3; replace A2 := O3 _ _ _ (by omega) A2; replace BB := L3 _ _ BB (by omega); have z3 := BB.size; clear O3 L3 A1; have A1 := D3)
   | (with_reducible refine at_n 19 ?_; refine wpList_val' (fun R hR => Does.loadM rfl 22 _ rfl 32 _ und_a32 rfl info_a32 (w.heap.size) 0 rfl .u8 (xb_set31) (A1) (by omega) (sl_all l_xb_set31) hR) ?_)
   | (with_reducible refine at_n 23 ?_; refine wpList_val' (fun R hR => Does.loadM rfl 22 _ rfl 32 _ und_a32 rfl info_a32 (w.heap.size) 0 rfl .u8 (xb_set31) (A1) (by omega) (sl_all l_xb_set31) hR) ?_)
   | (with_reducible refine at_n 5 ?_; refine wpList_allocI rfl 42 rfl .u64 5 zero_limbs ?_; intro w6 A5 s6 b6; have q6_1 := A1.lt; have q6_2 := A2.lt; replace A1 := A1.below b6; replace A2 := A2.below b6; replace BB := below_then BB b6; have y6 := BB.size)
   | (with_reducible refine at_op (o := ⟨_, .store 42 (.tmp 5) _, _, _, _, _⟩) ?_; refine wpList_storeI rfl 42 _ _ rfl 5 info_limbs (w5.heap.size) rfl .u64 _ (cr1) rfl (A5) (rfl) (l_cr1) ?_; intro D7; replace A1 := A1.rowOther (B' := w5.heap.size) (by omega) ((cr1).map (Value.int .u64)).toArray; replace A2 := A2.rowOther (B' := w5.heap.size) (by omega) ((cr1).map (Value.int .u64)).toArray; replace BB := Below.setRow BB (g := w5.heap.size) (by omega) ((cr1).map (Value.int .u64)).toArray; clear A5; have A5 := D7)
   | (with_reducible refine at_n 25 ?_; refine wpList_val' (fun R hR => Does.loadM rfl 42 _ rfl 5 _ und_limbs rfl info_limbs (w5.heap.size) 0 rfl .u64 (cr1) (A5) (by omega) (sl_all l_cr1) hR) ?_)
   | (with_reducible refine at_n 26 ?_; refine wpList_val' (fun R hR => Does.loadM rfl 42 _ rfl 5 _ und_limbs rfl info_limbs (w5.heap.size) 0 rfl .u64 (cr1) (A5) (by omega) (sl_all l_cr1) hR) ?_)
   | (with_reducible refine at_n 6 ?_; refine wpList_allocI rfl 42 rfl .u64 5 zero_limbs ?_; intro w9 A6 s9 b9; have q9_1 := A1.lt; have q9_2 := A2.lt; have q9_5 := A5.lt; replace A1 := A1.below b9; replace A2 := A2.below b9; replace A5 := A5.below b9; replace BB := below_then BB b9; have y9 := BB.size)
   | (with_reducible refine at_op (o := ⟨_, .store 42 (.tmp 6) _, _, _, _, _⟩) ?_; refine wpList_storeI rfl 42 _ _ rfl 5 info_limbs (w8.heap.size) rfl .u64 _ (cr2) rfl (A6) (rfl) (l_cr2) ?_; intro D10; replace A1 := A1.rowOther (B' := w8.heap.size) (by omega) ((cr2).map (Value.int .u64)).toArray; replace A2 := A2.rowOther (B' := w8.heap.size) (by omega) ((cr2).map (Value.int .u64)).toArray; replace A5 := A5.rowOther (B' := w8.heap.size) (by omega) ((cr2).map (Value.int .u64)).toArray; replace BB := Below.setRow BB (g := w8.heap.size) (by omega) ((cr2).map (Value.int .u64)).toArray; clear A6; have A6 := D10)
   | (with_reducible refine at_n 7 ?_; refine wpList_allocI rfl 42 rfl .u64 5 zero_limbs ?_; intro w12 A7 s12 b12; have q12_1 := A1.lt; have q12_2 := A2.lt; have q12_5 := A5.lt; have q12_6 := A6.lt; replace A1 := A1.below b12; replace A2 := A2.below b12; replace A5 := A5.below b12; replace A6 := A6.below b12; replace BB := below_then BB b12; have y12 := BB.size)
   | (with_reducible refine at_op (o := ⟨_, .store 42 (.tmp 7) _, _, _, _, _⟩) ?_; refine wpList_storeI rfl 42 _ _ rfl 5 info_limbs (w11.heap.size) rfl .u64 _ (cr3) rfl (A7) (rfl) (l_cr3) ?_; intro D13; replace A1 := A1.rowOther (B' := w11.heap.size) (by omega) ((cr3).map (Value.int .u64)).toArray; replace A2 := A2.rowOther (B' := w11.heap.size) (by omega) ((cr3).map (Value.int .u64)).toArray; replace A5 := A5.rowOther (B' := w11.heap.size) (by omega) ((cr3).map (Value.int .u64)).toArray; replace A6 := A6.rowOther (B' := w11.heap.size) (by omega) ((cr3).map (Value.int .u64)).toArray; replace BB := Below.setRow BB (g := w11.heap.size) (by omega) ((cr3).map (Value.int .u64)).toArray; clear A7; have A7 := D13)
   | (go_at_call 66; first | ((with_reducible refine (H0 _).mono ?_); rintro e w4 ⟨rfl, b4⟩; replace A1 := A1.below b4; replace A2 := A2.below b4; replace BB := below_then BB b4; have z4 := BB.size))
   | (go_at_call 67; first | ((with_reducible refine (H1 _).mono ?_); rintro e w5 ⟨rfl, b5⟩; replace A1 := A1.below b5; replace A2 := A2.below b5; replace BB := below_then BB b5; have z5 := BB.size))
   | (go_at_call 49; first | ((with_reducible refine (H2 _).mono ?_); rintro e w8 ⟨rfl, b8⟩; replace A1 := A1.below b8; replace A2 := A2.below b8; replace A5 := A5.below b8; replace BB := below_then BB b8; have z8 := BB.size))
   | (go_at_call 63; first | ((with_reducible refine (H3 _).mono ?_); rintro e w11 ⟨rfl, b11⟩; replace A1 := A1.below b11; replace A2 := A2.below b11; replace A5 := A5.below b11; replace A6 := A6.below b11; replace BB := below_then BB b11; have z11 := BB.size)))
 refine wp_world fun Wc14 hWc => ?_
 rw [← hWc] at BB A1 A2 A5 A6 A7
 clear hWc
 have k14_0 := A1.lt
 have k14_1 := A2.lt
 have k14_2 := A5.lt
 have k14_3 := A6.lt
 have k14_4 := A7.lt
 refine wp_region_new [[], [], [0, 1], [], [], [3, 4, 2], [], [5, 6, 5], [7, 7], [2, 8, 8], [9, 9], [10], [11], [11], [], [14, 12, 10, 0, 1, 2, 3, 4, 5, 6, 7, 8, 9, 10, 11, 12, 14], [13, 15, 0, 1, 2, 3, 4, 5, 6, 7, 8, 9, 10, 11, 12, 13, 14, 15]] [some 30, some 31, some 32, some 33, some 34, some 35, some 36, some 37, some 38, some 39, some 40, some 29, some 41, some 42, some 8, none, some 9] (Wc14.heap.size) [⟨14, 15, .u64, 5, rx⟩] (fun w' => Arr .u8 w' (w.heap.size) xb_set31 ∧ Arr .u64 w' (w1.heap.size) (List.replicate 20 0) ∧ Arr .u64 w' (w5.heap.size) cr1 ∧ Arr .u64 w' (w8.heap.size) cr2 ∧ Arr .u64 w' (w11.heap.size) cr3 ∧ Below Wc14.heap.size Wc14 w') (fun opn f _ => match opn with | 0 => f 0 = aggI .u64 cr2 | 1 => f 1 = aggI .u64 cr3 | 2 => f 2 = aggI .u64 cr4 | 3 => f 3 = aggI .u64 cr2 | 4 => f 4 = aggI .u64 dLn | 5 => f 5 = aggI .u64 cr5 | 6 => f 6 = aggI .u64 cr3 | 7 => f 7 = aggI .u64 cr6 | 8 => f 8 = aggI .u64 cr7 | 9 => f 9 = aggI .u64 cr8 | 10 => f 10 = .tuple #[aggI .u64 rx, .bool true] | 11 => f 11 = .tuple #[aggI .u64 rx, .bool true] | 12 => f 12 = aggI .u64 rx | 13 => f 13 = .bool true | 16 => f 16 = .bool true | _ => True) (by kernel_rfl) (by kernel_rfl) (by kernel_rfl) (by kernel_rfl) rfl (by intro it h it' h' e; simp only [List.mem_cons, List.not_mem_nil, or_false] at h h'; rcases h with rfl <;> rcases h' with rfl <;> first | rfl | (simp at e)) (fun v v' hb h => ⟨h.1.below hb, h.2.1.below hb, h.2.2.1.below hb, h.2.2.2.1.below hb, h.2.2.2.2.1.below hb, below_then h.2.2.2.2.2 hb⟩) (fun v h => h.2.2.2.2.2.size) (fun v B cs hB h => ⟨h.1.rowOther (by omega) _, h.2.1.rowOther (by omega) _, h.2.2.1.rowOther (by omega) _, h.2.2.2.1.rowOther (by omega) _, h.2.2.2.2.1.rowOther (by omega) _, Below.setRow h.2.2.2.2.2 (by omega) _⟩) (fun _ _ _ _ h => h) ⟨A1.drew, A2.drew, A5.drew, A6.drew, A7.drew, (Below.refl _ _).drew⟩ ?_ (by intro it h; simp only [List.mem_cons, List.not_mem_nil, or_false] at h; rcases h with rfl <;> exact ⟨by simp, by simp⟩) ?_
 ·
  refine StepN.plain rfl (fun f W hG hH => ?_) ?_
  ·
   clear hH
   generalize hA : putL _ _ _ _ = A
   have q6 : A.eval (.tmp 6) = .pointer (some ⟨w8.heap.size, 0, none⟩) := putLn hA 6 rfl rfl rfl
   clear hA
   exact Does.loadM rfl 42 _ rfl 5 _ und_limbs rfl info_limbs (w8.heap.size) (0) q6 .u64 (cr2) (hG.2.2.2.1) (by omega) (sl_all l_cr2) ⟨Below.refl _ _, rfl⟩
  refine StepN.plain rfl (fun f W hG hH => ?_) ?_
  ·
   clear hH
   generalize hA : putL _ _ _ _ = A
   have q7 : A.eval (.tmp 7) = .pointer (some ⟨w11.heap.size, 0, none⟩) := putLn hA 7 rfl rfl rfl
   clear hA
   exact Does.loadM rfl 42 _ rfl 5 _ und_limbs rfl info_limbs (w11.heap.size) (0) q7 .u64 (cr3) (hG.2.2.2.2.1) (by omega) (sl_all l_cr3) ⟨Below.refl _ _, rfl⟩
  refine StepN.plain rfl (fun f W hG hH => ?_) ?_
  ·
   obtain ⟨d0, d1, -⟩ := hH
   generalize hA : putL _ _ _ _ = A
   have q30 := putLl hA 30 d0 rfl rfl
   have r30 := slot_get q30
   have q31 := putLl hA 31 d1 rfl rfl
   have r31 := slot_get q31
   clear hA
   refine Does.call rfl _ _ (by go_simp) ((H4 W).mono ?_)
   rintro e w' ⟨rfl, hb'⟩
   exact ⟨_, rfl, hb', rfl⟩
  refine StepN.plain rfl (fun f W hG hH => ?_) ?_
  ·
   clear hH
   generalize hA : putL _ _ _ _ = A
   have q6 : A.eval (.tmp 6) = .pointer (some ⟨w8.heap.size, 0, none⟩) := putLn hA 6 rfl rfl rfl
   clear hA
   exact Does.loadM rfl 42 _ rfl 5 _ und_limbs rfl info_limbs (w8.heap.size) (0) q6 .u64 (cr2) (hG.2.2.2.1) (by omega) (sl_all l_cr2) ⟨Below.refl _ _, rfl⟩
  refine StepN.plain rfl (fun f W hG hH => ?_) ?_
  ·
   clear hH
   generalize hA : putL _ _ _ _ = A
   clear hA
   exact Does.loadG rfl 42 _ rfl 5 _ und_limbs rfl info_limbs 1 0 rfl .u64 (dLn) ((hT.below (below_then BB hG.2.2.2.2.2)).g1) (by rw [l_dLn]; decide) (sl_all l_dLn) ⟨Below.refl _ _, rfl⟩
  refine StepN.plain rfl (fun f W hG hH => ?_) ?_
  ·
   obtain ⟨d3, d4, d2, -⟩ := hH
   generalize hA : putL _ _ _ _ = A
   have q33 := putLl hA 33 d3 rfl rfl
   have r33 := slot_get q33
   have q34 := putLl hA 34 d4 rfl rfl
   have r34 := slot_get q34
   clear hA
   refine Does.call rfl _ _ (by go_simp) ((H5 W).mono ?_)
   rintro e w' ⟨rfl, hb'⟩
   exact ⟨_, rfl, hb', rfl⟩
  refine StepN.plain rfl (fun f W hG hH => ?_) ?_
  ·
   clear hH
   generalize hA : putL _ _ _ _ = A
   have q7 : A.eval (.tmp 7) = .pointer (some ⟨w11.heap.size, 0, none⟩) := putLn hA 7 rfl rfl rfl
   clear hA
   exact Does.loadM rfl 42 _ rfl 5 _ und_limbs rfl info_limbs (w11.heap.size) (0) q7 .u64 (cr3) (hG.2.2.2.2.1) (by omega) (sl_all l_cr3) ⟨Below.refl _ _, rfl⟩
  refine StepN.plain rfl (fun f W hG hH => ?_) ?_
  ·
   obtain ⟨d5, d6, -, -⟩ := hH
   generalize hA : putL _ _ _ _ = A
   have q35 := putLl hA 35 d5 rfl rfl
   have r35 := slot_get q35
   have q36 := putLl hA 36 d6 rfl rfl
   have r36 := slot_get q36
   clear hA
   refine Does.call rfl _ _ (by go_simp) ((H6 W).mono ?_)
   rintro e w' ⟨rfl, hb'⟩
   exact ⟨_, rfl, hb', rfl⟩
  refine StepN.plain rfl (fun f W hG hH => ?_) ?_
  ·
   obtain ⟨d7, -, -⟩ := hH
   generalize hA : putL _ _ _ _ = A
   have q37 := putLl hA 37 d7 rfl rfl
   have r37 := slot_get q37
   clear hA
   refine Does.call rfl _ _ (by go_simp) ((H7 W).mono ?_)
   rintro e w' ⟨rfl, hb'⟩
   exact ⟨_, rfl, hb', rfl⟩
  refine StepN.plain rfl (fun f W hG hH => ?_) ?_
  ·
   obtain ⟨d2, d8, -, -⟩ := hH
   generalize hA : putL _ _ _ _ = A
   have q32 := putLl hA 32 d2 rfl rfl
   have r32 := slot_get q32
   have q38 := putLl hA 38 d8 rfl rfl
   have r38 := slot_get q38
   clear hA
   refine Does.call rfl _ _ (by go_simp) ((H8 W).mono ?_)
   rintro e w' ⟨rfl, hb'⟩
   exact ⟨_, rfl, hb', rfl⟩
  refine StepN.plain rfl (fun f W hG hH => ?_) ?_
  ·
   obtain ⟨d9, -, -⟩ := hH
   generalize hA : putL _ _ _ _ = A
   have q39 := putLl hA 39 d9 rfl rfl
   have r39 := slot_get q39
   clear hA
   refine Does.call rfl _ _ (by go_simp) ((H9 W (hT.below (below_then BB hG.2.2.2.2.2))).mono ?_)
   rintro e w' ⟨rfl, hb'⟩
   exact ⟨_, rfl, hb', rfl⟩
  refine StepN.plain rfl (fun f W hG hH => ?_) ?_
  ·
   obtain ⟨d10, -⟩ := hH
   generalize hA : putL _ _ _ _ = A
   have q40 := putLl hA 40 d10 rfl rfl
   have r40 := slot_get q40
   clear hA
   refine Does.pure rfl (.tuple #[aggI .u64 rx, .bool true]) ?_ ⟨Below.refl _ _, rfl⟩
   go_simp
  refine StepN.plain rfl (fun f W hG hH => ?_) ?_
  ·
   obtain ⟨d11, -⟩ := hH
   generalize hA : putL _ _ _ _ = A
   have q29 := putLl hA 29 d11 rfl rfl
   have r29 := slot_get q29
   clear hA
   refine Does.pure rfl (aggI .u64 rx) ?_ ⟨Below.refl _ _, rfl⟩
   go_simp
  refine StepN.plain rfl (fun f W hG hH => ?_) ?_
  ·
   obtain ⟨d11, -⟩ := hH
   generalize hA : putL _ _ _ _ = A
   have q29 := putLl hA 29 d11 rfl rfl
   have r29 := slot_get q29
   clear hA
   refine Does.pure rfl (.bool true) ?_ ⟨Below.refl _ _, rfl⟩
   go_simp
  refine StepN.alloc rfl (fun _ _ => trivial) (fun A W => ?_) ?_
  ·
   refine Does.allocI rfl 42 rfl .u64 5 zero_limbs ?_
   intro W1 D1 s1 b1'
   exact ⟨b1', rfl, D1⟩
  refine StepN.store rfl (fun _ _ => trivial) (fun f W B hG hH hB hZ => ?_) ?_
  ·
   obtain ⟨-, d12, d10, d0, d1, d2, d3, d4, d5, d6, d7, d8, d9, -, d11, -, -, -⟩ := hH
   generalize hA : putL _ _ _ _ = A
   have q8 : A.eval (.tmp 8) = f 14 := putLl hA 8 rfl rfl rfl
   have r8 := slot_get q8
   have q41 := putLl hA 41 d12 rfl rfl
   have r41 := slot_get q41
   clear hA
   have hB : f 14 = .pointer (some ⟨B, 0, none⟩) := hB
   rw [hB] at q8
   refine Does.storeI rfl 42 _ _ rfl 5 info_limbs B q8 .u64 _ (rx) q41 hZ (by rfl) (l_rx) ?_
   intro A9
   exact ⟨rfl, A9⟩
  refine StepN.plain rfl (fun f W hG hH => ?_) ?_
  ·
   obtain ⟨d13, -, d0, d1, d2, d3, d4, d5, d6, d7, d8, d9, d10, d11, d12, -, -, -, -⟩ := hH
   generalize hA : putL _ _ _ _ = A
   have q42 := putLl hA 42 d13 rfl rfl
   have r42 := slot_get q42
   clear hA
   refine Does.pure rfl (.bool true) ?_ ⟨Below.refl _ _, rfl⟩
   go_simp
  exact trivial
 ·
  intro f V14 hG hH hN
  obtain ⟨d0, d1, d2, d3, d4, d5, d6, d7, d8, d9, d10, d11, d12, d13, -, -, d16, -⟩ : (f 0 = aggI .u64 cr2) ∧ (f 1 = aggI .u64 cr3) ∧ (f 2 = aggI .u64 cr4) ∧ (f 3 = aggI .u64 cr2) ∧ (f 4 = aggI .u64 dLn) ∧ (f 5 = aggI .u64 cr5) ∧ (f 6 = aggI .u64 cr3) ∧ (f 7 = aggI .u64 cr6) ∧ (f 8 = aggI .u64 cr7) ∧ (f 9 = aggI .u64 cr8) ∧ (f 10 = .tuple #[aggI .u64 rx, .bool true]) ∧ (f 11 = .tuple #[aggI .u64 rx, .bool true]) ∧ (f 12 = aggI .u64 rx) ∧ (f 13 = .bool true) ∧ (True) ∧ (True) ∧ (f 16 = .bool true) ∧ True := hH
  rw [show List.range (List.length [[], [], [0, 1], [], [], [3, 4, 2], [], [5, 6, 5], [7, 7], [2, 8, 8], [9, 9], [10], [11], [11], [], [14, 12, 10, 0, 1, 2, 3, 4, 5, 6, 7, 8, 9, 10, 11, 12, 14], [13, 15, 0, 1, 2, 3, 4, 5, 6, 7, 8, 9, 10, 11, 12, 13, 14, 15]]) = [0, 1, 2, 3, 4, 5, 6, 7, 8, 9, 10, 11, 12, 13, 14, 15, 16] from rfl]
  obtain ⟨loc, hn1, hn2⟩ := hN
  obtain ⟨hN0, kN0, A8⟩ : f 14 = .pointer (some ⟨loc 14, 0, none⟩) ∧ Wc14.heap.size ≤ loc 14 ∧ Arr .u64 V14 (loc 14) rx := hn1 ⟨14, 15, .u64, 5, rx⟩ (by simp) rfl
  clear hn1 hn2
  generalize loc 14 = N14_0 at *
  simp only [putL, List.getElem?_cons_zero, List.getElem?_cons_succ, Option.join, Option.bind_some, id_eq, Act.put, List.setIfInBounds_toArray, List.set_cons_zero, List.set_cons_succ, d0, d1, d2, d3, d4, d5, d6, d7, d8, d9, d10, d11, d12, d13, d16, hN0]
  clear d0 d1 d2 d3 d4 d5 d6 d7 d8 d9 d10 d11 d12 d13 d16 hN0
  clear A1 A2 A5 A6 A7
  obtain ⟨A1, A2, A5, A6, A7, BV⟩ := hG
  replace BB := below_then BB BV
  clear BV
  have zz14 := BB.size
  go_wp2_with (first
    | (with_reducible refine at_n 54 ?_; refine wpList_val' (fun R hR => Does.loadM rfl 42 _ rfl 5 _ und_limbs rfl info_limbs (N14_0) 0 rfl .u64 (rx) (A8) (by omega) (sl_all l_rx) hR) ?_)
    | (with_reducible refine at_n 55 ?_; refine wpList_val' (fun R hR => Does.loadM rfl 42 _ rfl 5 _ und_limbs rfl info_limbs (w5.heap.size) 0 rfl .u64 (cr1) (A5) (by omega) (sl_all l_cr1) hR) ?_)
    | (with_reducible refine at_n 56 ?_; go_loud (refine wpList_val' (fun R hR => Does.buildI rfl 44 _ rfl .u64 (bu0) _ (hbu0) rfl hR) ?_))
    | (with_reducible refine at_n 10 ?_; refine wpList_allocI rfl 44 rfl .u64 10 zero_plane ?_; intro w15 A10 s15 b15; have q15_1 := A1.lt; have q15_2 := A2.lt; have q15_5 := A5.lt; have q15_6 := A6.lt; have q15_7 := A7.lt; have q15_8 := A8.lt; replace A1 := A1.below b15; replace A2 := A2.below b15; replace A5 := A5.below b15; replace A6 := A6.below b15; replace A7 := A7.below b15; replace A8 := A8.below b15; replace BB := below_then BB b15; have y15 := BB.size)
    | (with_reducible refine at_op (o := ⟨_, .store 44 (.tmp 10) _, _, _, _, _⟩) ?_; refine wpList_storeI rfl 44 _ _ rfl 10 info_plane (V14.heap.size) rfl .u64 _ (bu0) rfl (A10) (rfl) (l_bu0) ?_; intro D16; replace A1 := A1.rowOther (B' := V14.heap.size) (by omega) ((bu0).map (Value.int .u64)).toArray; replace A2 := A2.rowOther (B' := V14.heap.size) (by omega) ((bu0).map (Value.int .u64)).toArray; replace A5 := A5.rowOther (B' := V14.heap.size) (by omega) ((bu0).map (Value.int .u64)).toArray; replace A6 := A6.rowOther (B' := V14.heap.size) (by omega) ((bu0).map (Value.int .u64)).toArray; replace A7 := A7.rowOther (B' := V14.heap.size) (by omega) ((bu0).map (Value.int .u64)).toArray; replace A8 := A8.rowOther (B' := V14.heap.size) (by omega) ((bu0).map (Value.int .u64)).toArray; replace BB := Below.setRow BB (g := V14.heap.size) (by omega) ((bu0).map (Value.int .u64)).toArray; clear A10; have A10 := D16)
    | (with_reducible refine at_n 60 ?_; refine wpList_val' (fun R hR => Does.loadM rfl 44 _ rfl 10 _ Tryd.underlying44 rfl info_plane (V14.heap.size) 0 rfl .u64 (bu0) (A10) (by omega) (sl_all l_bu0) hR) ?_)
    | (with_reducible refine at_op (o := ⟨_, .store 46 (.tmp 2) _, _, _, _, _⟩) ?_; refine wpList_storeI rfl 46 _ _ rfl 20 info_point (w1.heap.size) rfl .u64 _ (cr10) rfl (A2) (rfl) (l_cr10) ?_; intro D18; replace A1 := A1.rowOther (B' := w1.heap.size) (by omega) ((cr10).map (Value.int .u64)).toArray; replace A5 := A5.rowOther (B' := w1.heap.size) (by omega) ((cr10).map (Value.int .u64)).toArray; replace A6 := A6.rowOther (B' := w1.heap.size) (by omega) ((cr10).map (Value.int .u64)).toArray; replace A7 := A7.rowOther (B' := w1.heap.size) (by omega) ((cr10).map (Value.int .u64)).toArray; replace A8 := A8.rowOther (B' := w1.heap.size) (by omega) ((cr10).map (Value.int .u64)).toArray; replace A10 := A10.rowOther (B' := w1.heap.size) (by omega) ((cr10).map (Value.int .u64)).toArray; replace BB := Below.setRow BB (g := w1.heap.size) (by omega) ((cr10).map (Value.int .u64)).toArray; clear A2; have A2 := D18)
    | (go_at_call 34; first | ((with_reducible refine (H10 _).mono ?_); rintro e w17 ⟨rfl, b17⟩; replace A1 := A1.below b17; replace A2 := A2.below b17; replace A5 := A5.below b17; replace A6 := A6.below b17; replace A7 := A7.below b17; replace A8 := A8.below b17; replace A10 := A10.below b17; replace BB := below_then BB b17; have z17 := BB.size)))
  refine bodyPost_ret (results_cell_tmpM rfl _ 20 _ Tryd.underlying46 rfl info_point (w1.heap.size) rfl .u64 _ A2 (l_cr10)) rfl ?_
  exact ⟨rfl, BB⟩
end Go.Proofs.YtelppapkffjmpaaDoor
end
section
namespace Go.Proofs.YtelppapkffjmpaaDoor
open Go.RowKit Go.Shelf
set_option linter.unusedVariables false
set_option maxRecDepth 8000

theorem rd_of_tab {W : World} {name : String} {zs : List Int} {g : Nat} (h : Go.Lib.TabIs Tryd.prog W name .u64 zs) (hg : Tryd.prog.globalNamed name = some g) : Rd .u64 W g zs := by
  intro k hk
  have := h.cell hg k hk
  rw [this]
  simp [at0, List.getD_eq_getElem?_getD]
theorem base_tab {W : World} {rest : List (String × DataW Unit)} (h : laidMet Tryd.prog (("vouchsafe/curve.base", Rows.laid_vouchsafe_curve_base) :: rest) W) : Go.Lib.TabIs Tryd.prog W "vouchsafe/curve.base" .u64 bLn := by
  obtain ⟨ps, ⟨g', t', cs, fuel, p, q, hg', ht', hvar, hd, _, _⟩, _⟩ := h
  have hg : Tryd.prog.globalNamed "vouchsafe/curve.base" = some 0 := by kernel_rfl
  obtain rfl := Option.some.inj (hg.symm.trans hg')
  have ht : (Tryd.prog.globals[0]?).map (·.type) = some 44 := by kernel_rfl
  obtain rfl := Option.some.inj (ht.symm.trans ht')
  obtain ⟨y0, y1, n, hx, hl, h0, h1⟩ := Go.ChangeShapes.trod_struct2 Tryd.underlying44 hd
  have e0 : y0.1 = Go.Lib.tabData .u64 (bLn.take 5) := by
    have := congrArg Prod.fst hx
    simp only [Rows.laid_vouchsafe_curve_base, DataW.agg.injEq, List.cons.injEq] at this
    exact this.1.symm
  have e1 : y1.1 = Go.Lib.tabData .u64 (bLn.drop 5) := by
    have := congrArg Prod.fst hx
    simp only [Rows.laid_vouchsafe_curve_base, DataW.agg.injEq, List.cons.injEq] at this
    exact this.2.1.symm
  have c0 := Go.Lib.cells_of_tab (zs := bLn.take 5) (k := .u64) und_limbs Tryd.underlying34 (by kernel_rfl) (by kernel_rfl) (h0.trans (by rw [← e0]))
  have c1 := Go.Lib.cells_of_tab (zs := bLn.drop 5) (k := .u64) und_limbs Tryd.underlying34 (by kernel_rfl) (by kernel_rfl) (h1.trans (by rw [← e1]))
  have hc : Tryd.prog.cellsOf 44 = 10 := by kernel_rfl
  have hc5 : Tryd.prog.cellsOf 42 = 5 := by kernel_rfl
  rw [hc] at hl
  simp only [hc5, List.drop_zero] at c0 c1
  have e : cs.toList = bLn.map fun z => Value.int .u64 z := by
    rw [← List.take_append_drop 5 cs.toList, c0]
    rw [List.take_of_length_le (by simp at hl ⊢; omega)] at c1
    rw [c1]
    rfl
  unfold Go.Lib.TabIs
  rw [hvar, ← e]
theorem laid_tail {x : String × DataW Unit} {r : List (String × DataW Unit)} {W : World} (h : laidMet Tryd.prog (x :: r) W) : laidMet Tryd.prog r W := laidMet.tail h
theorem tab_of_laid {W : World} (hL : laidMetH Tryd.prog Rows.curveAddsRow.laid W) : TabD W := by
  rw [MakeChecks.laidMetH_plain _ _ _ (by kernel_rfl)] at hL
  have h : Go.Lib.TabIs Tryd.prog W "vouchsafe/field.rootOfMinusOne" .u64 rootL :=
    Go.Lib.tabIs_of_head (g := 2) (t := 42) (e := 34) (n := 5) (by kernel_rfl) (by kernel_rfl) und_limbs (by kernel_rfl) (by kernel_rfl) (by kernel_rfl) hL
  have hg : Tryd.prog.globalNamed "vouchsafe/field.rootOfMinusOne" = some 2 := by kernel_rfl
  have h2 := laid_tail hL
  have hd : Go.Lib.TabIs Tryd.prog W "vouchsafe/curve.d" .u64 dLn :=
    Go.Lib.tabIs_of_head (g := 1) (t := 42) (e := 34) (n := 5) (by kernel_rfl) (by kernel_rfl) und_limbs (by kernel_rfl) (by kernel_rfl) (by kernel_rfl) h2
  exact ⟨rd_of_tab (base_tab (laid_tail h2)) (by kernel_rfl), rd_of_tab hd (by kernel_rfl), ⟨h.cell hg 0 (by decide), h.cell hg 1 (by decide), h.cell hg 2 (by decide), h.cell hg 3 (by decide), h.cell hg 4 (by decide)⟩⟩
end Go.Proofs.YtelppapkffjmpaaDoor
end
