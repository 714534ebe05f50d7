/- Merged: The reference's sums, negatives, multiples of points told by bytes. What the reference's sums, negatives and multiples of points told by bytes say. -/
import Derived.Test.YtelppapkffjmpaaDoorMJ
import Derived.Test.YtelppapkffjmpaaDoorMK
import Derived.Test.YtelppapkffjmpaaDoorMN
section
namespace Go.Proofs.YtelppapkffjmpaaDoor
open Go.RowKit Go.Shelf
set_option linter.unusedVariables false
set_option maxRecDepth 8000

set_option maxHeartbeats 2000000 in
theorem rright_t (xa pa : List Int) (w : World) (l_xa : xa.length = 32) (l_pa : pa.length = 12)
    (H0 : ∀ W, Ret 29 #[aggI .u8 xa] (.tuple #[aggI .u64 pa, .bool true]) W) :
    Calls Tryd.prog 16 #[aggI .u8 xa] w fun e w' => e = .returned (.bool true) ∧ Below w.heap.size w w' := by
  go_enter Tryd.func16, Tryd.ntmps16
  go_wp2_with (first
      | (with_reducible refine at_n 1 ?_; refine wpList_boxI rfl 22 _ rfl .u8 xa rfl ?_; intro w1 A1 s1 b1; have BB := b1; have y1 := BB.size)
      | (with_reducible refine at_n 6 ?_; refine wpList_val' (fun R hR => Does.loadM rfl 22 _ rfl 32 _ und_a32 rfl info_a32 (w.heap.size) 0 rfl .u8 (xa) (A1) (by omega) (sl_all l_xa) hR) ?_)
      | (with_reducible refine at_n 3 ?_; refine wpList_allocI rfl 50 rfl .u64 12 zero_pnt ?_; intro w3 A3 s3 b3; have q3_1 := A1.lt; replace A1 := A1.below b3; replace BB := below_then BB b3; have y3 := BB.size)
      | (with_reducible refine at_op (o := ⟨_, .store 50 (.tmp 3) _, _, _, _, _⟩) ?_; refine wpList_storeI rfl 50 _ _ rfl 12 info_pnt (w2.heap.size) rfl .u64 _ (pa) rfl (A3) (rfl) (l_pa) ?_; intro D4; replace A1 := A1.rowOther (B' := w2.heap.size) (by omega) ((pa).map (Value.int .u64)).toArray; replace BB := Below.setRow BB (g := w2.heap.size) (by omega) ((pa).map (Value.int .u64)).toArray; clear A3; have A3 := D4)
      | (go_at_call 29; first | ((with_reducible refine (H0 _).mono ?_); rintro e w2 ⟨rfl, b2⟩; replace A1 := A1.below b2; replace BB := below_then BB b2; have z2 := BB.size)))
  go_ret
  exact ⟨rfl, BB⟩
set_option maxHeartbeats 2000000 in
theorem right_t (xa pa : List Int) (w : World) (hT : TabD w)
    (l_xa : xa.length = 32) (l_pa : pa.length = 20)
    (H0 : ∀ W, TabD W → Ret 36 #[aggI .u8 xa] (.tuple #[aggI .u64 pa, .bool true]) W) :
    Calls Tryd.prog 15 #[aggI .u8 xa] w fun e w' => e = .returned (.bool true) ∧ Below w.heap.size w w' := by
  go_enter Tryd.func15, Tryd.ntmps15
  go_wp2_with (first
      | (with_reducible refine at_n 1 ?_; refine wpList_boxI rfl 22 _ rfl .u8 xa rfl ?_; intro w1 A1 s1 b1; have BB := b1; have y1 := BB.size)
      | (with_reducible refine at_n 6 ?_; refine wpList_val' (fun R hR => Does.loadM rfl 22 _ rfl 32 _ und_a32 rfl info_a32 (w.heap.size) 0 rfl .u8 (xa) (A1) (by omega) (sl_all l_xa) hR) ?_)
      | (with_reducible refine at_n 3 ?_; refine wpList_allocI rfl 46 rfl .u64 20 zero_point ?_; intro w3 A3 s3 b3; have q3_1 := A1.lt; replace A1 := A1.below b3; replace BB := below_then BB b3; have y3 := BB.size)
      | (with_reducible refine at_op (o := ⟨_, .store 46 (.tmp 3) _, _, _, _, _⟩) ?_; refine wpList_storeI rfl 46 _ _ rfl 20 info_point (w2.heap.size) rfl .u64 _ (pa) rfl (A3) (rfl) (l_pa) ?_; intro D4; replace A1 := A1.rowOther (B' := w2.heap.size) (by omega) ((pa).map (Value.int .u64)).toArray; replace BB := Below.setRow BB (g := w2.heap.size) (by omega) ((pa).map (Value.int .u64)).toArray; clear A3; have A3 := D4)
      | (go_at_call 36; first | ((with_reducible refine (H0 _ (hT.below BB)).mono ?_); rintro e w2 ⟨rfl, b2⟩; replace A1 := A1.below b2; replace BB := below_then BB b2; have z2 := BB.size)))
  go_ret
  exact ⟨rfl, BB⟩
set_option maxHeartbeats 2000000 in
theorem rright_f (xa pa : List Int) (w : World) (l_xa : xa.length = 32) (l_pa : pa.length = 12)
    (H0 : ∀ W, Ret 29 #[aggI .u8 xa] (.tuple #[aggI .u64 pa, .bool false]) W) :
    Calls Tryd.prog 16 #[aggI .u8 xa] w fun e w' => e = .returned (.bool false) ∧ Below w.heap.size w w' := by
  go_enter Tryd.func16, Tryd.ntmps16
  go_wp2_with (first
      | (with_reducible refine at_n 1 ?_; refine wpList_boxI rfl 22 _ rfl .u8 xa rfl ?_; intro w1 A1 s1 b1; have BB := b1; have y1 := BB.size)
      | (with_reducible refine at_n 6 ?_; refine wpList_val' (fun R hR => Does.loadM rfl 22 _ rfl 32 _ und_a32 rfl info_a32 (w.heap.size) 0 rfl .u8 (xa) (A1) (by omega) (sl_all l_xa) hR) ?_)
      | (with_reducible refine at_n 3 ?_; refine wpList_allocI rfl 50 rfl .u64 12 zero_pnt ?_; intro w3 A3 s3 b3; have q3_1 := A1.lt; replace A1 := A1.below b3; replace BB := below_then BB b3; have y3 := BB.size)
      | (with_reducible refine at_op (o := ⟨_, .store 50 (.tmp 3) _, _, _, _, _⟩) ?_; refine wpList_storeI rfl 50 _ _ rfl 12 info_pnt (w2.heap.size) rfl .u64 _ (pa) rfl (A3) (rfl) (l_pa) ?_; intro D4; replace A1 := A1.rowOther (B' := w2.heap.size) (by omega) ((pa).map (Value.int .u64)).toArray; replace BB := Below.setRow BB (g := w2.heap.size) (by omega) ((pa).map (Value.int .u64)).toArray; clear A3; have A3 := D4)
      | (go_at_call 29; first | ((with_reducible refine (H0 _).mono ?_); rintro e w2 ⟨rfl, b2⟩; replace A1 := A1.below b2; replace BB := below_then BB b2; have z2 := BB.size)))
  go_ret
  exact ⟨rfl, BB⟩
set_option maxHeartbeats 2000000 in
theorem right_f (xa pa : List Int) (w : World) (hT : TabD w)
    (l_xa : xa.length = 32) (l_pa : pa.length = 20)
    (H0 : ∀ W, TabD W → Ret 36 #[aggI .u8 xa] (.tuple #[aggI .u64 pa, .bool false]) W) :
    Calls Tryd.prog 15 #[aggI .u8 xa] w fun e w' => e = .returned (.bool false) ∧ Below w.heap.size w w' := by
  go_enter Tryd.func15, Tryd.ntmps15
  go_wp2_with (first
      | (with_reducible refine at_n 1 ?_; refine wpList_boxI rfl 22 _ rfl .u8 xa rfl ?_; intro w1 A1 s1 b1; have BB := b1; have y1 := BB.size)
      | (with_reducible refine at_n 6 ?_; refine wpList_val' (fun R hR => Does.loadM rfl 22 _ rfl 32 _ und_a32 rfl info_a32 (w.heap.size) 0 rfl .u8 (xa) (A1) (by omega) (sl_all l_xa) hR) ?_)
      | (with_reducible refine at_n 3 ?_; refine wpList_allocI rfl 46 rfl .u64 20 zero_point ?_; intro w3 A3 s3 b3; have q3_1 := A1.lt; replace A1 := A1.below b3; replace BB := below_then BB b3; have y3 := BB.size)
      | (with_reducible refine at_op (o := ⟨_, .store 46 (.tmp 3) _, _, _, _, _⟩) ?_; refine wpList_storeI rfl 46 _ _ rfl 20 info_point (w2.heap.size) rfl .u64 _ (pa) rfl (A3) (rfl) (l_pa) ?_; intro D4; replace A1 := A1.rowOther (B' := w2.heap.size) (by omega) ((pa).map (Value.int .u64)).toArray; replace BB := Below.setRow BB (g := w2.heap.size) (by omega) ((pa).map (Value.int .u64)).toArray; clear A3; have A3 := D4)
      | (go_at_call 36; first | ((with_reducible refine (H0 _ (hT.below BB)).mono ?_); rintro e w2 ⟨rfl, b2⟩; replace A1 := A1.below b2; replace BB := below_then BB b2; have z2 := BB.size)))
  go_ret
  exact ⟨rfl, BB⟩
set_option maxHeartbeats 2000000 in
theorem radd_tt (xa xb pa pb cr2 cr3 : List Int) (w : World) (l_xa : xa.length = 32) (l_xb : xb.length = 32) (l_pa : pa.length = 12) (l_pb : pb.length = 12) (l_cr2 : cr2.length = 12) (l_cr3 : cr3.length = 32)
    (H0 : ∀ W, Ret 29 #[aggI .u8 xa] (.tuple #[aggI .u64 pa, .bool true]) W)
    (H1 : ∀ W, Ret 29 #[aggI .u8 xb] (.tuple #[aggI .u64 pb, .bool true]) W)
    (H2 : ∀ W, Ret 31 #[aggI .u64 pa, aggI .u64 pb] (aggI .u64 cr2) W)
    (H3 : ∀ W, Ret 30 #[aggI .u64 cr2] (aggI .u8 cr3) W) :
    Calls Tryd.prog 12 #[aggI .u8 xa, aggI .u8 xb] w fun e w' => e = .returned (.tuple #[aggI .u8 cr3, .int .i64 0]) ∧ Below w.heap.size w w' := by
  go_enter Tryd.func12, Tryd.ntmps12
  go_wp2_with (first
      | (with_reducible refine at_n 2 ?_; refine wpList_boxI rfl 22 _ rfl .u8 xa rfl ?_; intro w1 A2 s1 b1; have BB := b1; have y1 := BB.size)
      | (with_reducible refine at_n 3 ?_; refine wpList_boxI rfl 22 _ rfl .u8 xb rfl ?_; intro w2 A3 s2 b2; have q2_2 := A2.lt; replace A2 := A2.below b2; replace BB := below_then BB b2; have y2 := BB.size)
      | (with_reducible refine at_n 4 ?_; refine wpList_allocI rfl 22 rfl .u8 32 zero_a32 ?_; intro w3 A4 s3 b3; have q3_2 := A2.lt; have q3_3 := A3.lt; replace A2 := A2.below b3; replace A3 := A3.below b3; replace BB := below_then BB b3; have y3 := BB.size)
      | (with_reducible refine at_n 11 ?_; refine wpList_val' (fun R hR => Does.loadM rfl 22 _ rfl 32 _ und_a32 rfl info_a32 (w.heap.size) 0 rfl .u8 (xa) (A2) (by omega) (sl_all l_xa) hR) ?_)
      | (with_reducible refine at_n 6 ?_; refine wpList_allocI rfl 50 rfl .u64 12 zero_pnt ?_; intro w5 A6 s5 b5; have q5_2 := A2.lt; have q5_3 := A3.lt; have q5_4 := A4.lt; replace A2 := A2.below b5; replace A3 := A3.below b5; replace A4 := A4.below b5; replace BB := below_then BB b5; have y5 := BB.size)
      | (with_reducible refine at_op (o := ⟨_, .store 50 (.tmp 6) _, _, _, _, _⟩) ?_; refine wpList_storeI rfl 50 _ _ rfl 12 info_pnt (w4.heap.size) rfl .u64 _ (pa) rfl (A6) (rfl) (l_pa) ?_; intro D6; replace A2 := A2.rowOther (B' := w4.heap.size) (by omega) ((pa).map (Value.int .u64)).toArray; replace A3 := A3.rowOther (B' := w4.heap.size) (by omega) ((pa).map (Value.int .u64)).toArray; replace A4 := A4.rowOther (B' := w4.heap.size) (by omega) ((pa).map (Value.int .u64)).toArray; replace BB := Below.setRow BB (g := w4.heap.size) (by omega) ((pa).map (Value.int .u64)).toArray; clear A6; have A6 := D6)
      | (with_reducible refine at_n 16 ?_; refine wpList_val' (fun R hR => Does.loadM rfl 22 _ rfl 32 _ und_a32 rfl info_a32 (w1.heap.size) 0 rfl .u8 (xb) (A3) (by omega) (sl_all l_xb) hR) ?_)
      | (with_reducible refine at_n 8 ?_; refine wpList_allocI rfl 50 rfl .u64 12 zero_pnt ?_; intro w8 A8 s8 b8; have q8_2 := A2.lt; have q8_3 := A3.lt; have q8_4 := A4.lt; have q8_6 := A6.lt; replace A2 := A2.below b8; replace A3 := A3.below b8; replace A4 := A4.below b8; replace A6 := A6.below b8; replace BB := below_then BB b8; have y8 := BB.size)
      | (with_reducible refine at_op (o := ⟨_, .store 50 (.tmp 8) _, _, _, _, _⟩) ?_; refine wpList_storeI rfl 50 _ _ rfl 12 info_pnt (w7.heap.size) rfl .u64 _ (pb) rfl (A8) (rfl) (l_pb) ?_; intro D9; replace A2 := A2.rowOther (B' := w7.heap.size) (by omega) ((pb).map (Value.int .u64)).toArray; replace A3 := A3.rowOther (B' := w7.heap.size) (by omega) ((pb).map (Value.int .u64)).toArray; replace A4 := A4.rowOther (B' := w7.heap.size) (by omega) ((pb).map (Value.int .u64)).toArray; replace A6 := A6.rowOther (B' := w7.heap.size) (by omega) ((pb).map (Value.int .u64)).toArray; replace BB := Below.setRow BB (g := w7.heap.size) (by omega) ((pb).map (Value.int .u64)).toArray; clear A8; have A8 := D9)
      | (with_reducible refine at_n 27 ?_; refine wpList_val' (fun R hR => Does.loadM rfl 50 _ rfl 12 _ Tryd.underlying50 rfl info_pnt (w4.heap.size) 0 rfl .u64 (pa) (A6) (by omega) (sl_all l_pa) hR) ?_)
      | (with_reducible refine at_n 28 ?_; refine wpList_val' (fun R hR => Does.loadM rfl 50 _ rfl 12 _ Tryd.underlying50 rfl info_pnt (w7.heap.size) 0 rfl .u64 (pb) (A8) (by omega) (sl_all l_pb) hR) ?_)
      | (with_reducible refine at_op (o := ⟨_, .store 22 (.tmp 4) _, _, _, _, _⟩) ?_; refine wpList_storeI rfl 22 _ _ rfl 32 info_a32 (w2.heap.size) rfl .u8 _ (cr3) rfl (A4) (rfl) (l_cr3) ?_; intro D12; replace A2 := A2.rowOther (B' := w2.heap.size) (by omega) ((cr3).map (Value.int .u8)).toArray; replace A3 := A3.rowOther (B' := w2.heap.size) (by omega) ((cr3).map (Value.int .u8)).toArray; replace A6 := A6.rowOther (B' := w2.heap.size) (by omega) ((cr3).map (Value.int .u8)).toArray; replace A8 := A8.rowOther (B' := w2.heap.size) (by omega) ((cr3).map (Value.int .u8)).toArray; replace BB := Below.setRow BB (g := w2.heap.size) (by omega) ((cr3).map (Value.int .u8)).toArray; clear A4; have A4 := D12)
      | (go_at_call 29; first | ((with_reducible refine (H0 _).mono ?_); rintro e w4 ⟨rfl, b4⟩; replace A2 := A2.below b4; replace A3 := A3.below b4; replace A4 := A4.below b4; replace BB := below_then BB b4; have z4 := BB.size) | ((with_reducible refine (H1 _).mono ?_); rintro e w7 ⟨rfl, b7⟩; replace A2 := A2.below b7; replace A3 := A3.below b7; replace A4 := A4.below b7; replace A6 := A6.below b7; replace BB := below_then BB b7; have z7 := BB.size))
      | (go_at_call 31; first | ((with_reducible refine (H2 _).mono ?_); rintro e w10 ⟨rfl, b10⟩; replace A2 := A2.below b10; replace A3 := A3.below b10; replace A4 := A4.below b10; replace A6 := A6.below b10; replace A8 := A8.below b10; replace BB := below_then BB b10; have z10 := BB.size))
      | (go_at_call 30; first | ((with_reducible refine (H3 _).mono ?_); rintro e w11 ⟨rfl, b11⟩; replace A2 := A2.below b11; replace A3 := A3.below b11; replace A4 := A4.below b11; replace A6 := A6.below b11; replace A8 := A8.below b11; replace BB := below_then BB b11; have z11 := BB.size)))
  refine bodyPost_ret (results_cell_tmpM rfl _ 32 _ und_a32 rfl info_a32 (w2.heap.size) rfl .u8 _ A4 (l_cr3)) rfl ?_
  exact ⟨rfl, BB⟩
set_option maxHeartbeats 2000000 in
theorem radd_tf (xa xb pa pb bu0 : List Int) (w : World) (l_xa : xa.length = 32) (l_xb : xb.length = 32) (l_pa : pa.length = 12) (l_pb : pb.length = 12) (l_bu0 : bu0.length = 32)
    (hbu0 : Tryd.prog.built 22 [] = some (bu0.map (Value.int .u8)).toArray)
    (H0 : ∀ W, Ret 29 #[aggI .u8 xa] (.tuple #[aggI .u64 pa, .bool true]) W)
    (H1 : ∀ W, Ret 29 #[aggI .u8 xb] (.tuple #[aggI .u64 pb, .bool false]) W) :
    Calls Tryd.prog 12 #[aggI .u8 xa, aggI .u8 xb] w fun e w' => e = .returned (.tuple #[aggI .u8 bu0, .int .i64 1]) ∧ Below w.heap.size w w' := by
  go_enter Tryd.func12, Tryd.ntmps12
  go_wp2_with (first
      | (with_reducible refine at_n 2 ?_; refine wpList_boxI rfl 22 _ rfl .u8 xa rfl ?_; intro w1 A2 s1 b1; have BB := b1; have y1 := BB.size)
      | (with_reducible refine at_n 3 ?_; refine wpList_boxI rfl 22 _ rfl .u8 xb rfl ?_; intro w2 A3 s2 b2; have q2_2 := A2.lt; replace A2 := A2.below b2; replace BB := below_then BB b2; have y2 := BB.size)
      | (with_reducible refine at_n 4 ?_; refine wpList_allocI rfl 22 rfl .u8 32 zero_a32 ?_; intro w3 A4 s3 b3; have q3_2 := A2.lt; have q3_3 := A3.lt; replace A2 := A2.below b3; replace A3 := A3.below b3; replace BB := below_then BB b3; have y3 := BB.size)
      | (with_reducible refine at_n 11 ?_; refine wpList_val' (fun R hR => Does.loadM rfl 22 _ rfl 32 _ und_a32 rfl info_a32 (w.heap.size) 0 rfl .u8 (xa) (A2) (by omega) (sl_all l_xa) hR) ?_)
      | (with_reducible refine at_n 6 ?_; refine wpList_allocI rfl 50 rfl .u64 12 zero_pnt ?_; intro w5 A6 s5 b5; have q5_2 := A2.lt; have q5_3 := A3.lt; have q5_4 := A4.lt; replace A2 := A2.below b5; replace A3 := A3.below b5; replace A4 := A4.below b5; replace BB := below_then BB b5; have y5 := BB.size)
      | (with_reducible refine at_op (o := ⟨_, .store 50 (.tmp 6) _, _, _, _, _⟩) ?_; refine wpList_storeI rfl 50 _ _ rfl 12 info_pnt (w4.heap.size) rfl .u64 _ (pa) rfl (A6) (rfl) (l_pa) ?_; intro D6; replace A2 := A2.rowOther (B' := w4.heap.size) (by omega) ((pa).map (Value.int .u64)).toArray; replace A3 := A3.rowOther (B' := w4.heap.size) (by omega) ((pa).map (Value.int .u64)).toArray; replace A4 := A4.rowOther (B' := w4.heap.size) (by omega) ((pa).map (Value.int .u64)).toArray; replace BB := Below.setRow BB (g := w4.heap.size) (by omega) ((pa).map (Value.int .u64)).toArray; clear A6; have A6 := D6)
      | (with_reducible refine at_n 16 ?_; refine wpList_val' (fun R hR => Does.loadM rfl 22 _ rfl 32 _ und_a32 rfl info_a32 (w1.heap.size) 0 rfl .u8 (xb) (A3) (by omega) (sl_all l_xb) hR) ?_)
      | (with_reducible refine at_n 8 ?_; refine wpList_allocI rfl 50 rfl .u64 12 zero_pnt ?_; intro w8 A8 s8 b8; have q8_2 := A2.lt; have q8_3 := A3.lt; have q8_4 := A4.lt; have q8_6 := A6.lt; replace A2 := A2.below b8; replace A3 := A3.below b8; replace A4 := A4.below b8; replace A6 := A6.below b8; replace BB := below_then BB b8; have y8 := BB.size)
      | (with_reducible refine at_op (o := ⟨_, .store 50 (.tmp 8) _, _, _, _, _⟩) ?_; refine wpList_storeI rfl 50 _ _ rfl 12 info_pnt (w7.heap.size) rfl .u64 _ (pb) rfl (A8) (rfl) (l_pb) ?_; intro D9; replace A2 := A2.rowOther (B' := w7.heap.size) (by omega) ((pb).map (Value.int .u64)).toArray; replace A3 := A3.rowOther (B' := w7.heap.size) (by omega) ((pb).map (Value.int .u64)).toArray; replace A4 := A4.rowOther (B' := w7.heap.size) (by omega) ((pb).map (Value.int .u64)).toArray; replace A6 := A6.rowOther (B' := w7.heap.size) (by omega) ((pb).map (Value.int .u64)).toArray; replace BB := Below.setRow BB (g := w7.heap.size) (by omega) ((pb).map (Value.int .u64)).toArray; clear A8; have A8 := D9)
      | (with_reducible refine at_n 26 ?_; go_loud (refine wpList_val' (fun R hR => Does.buildI rfl 22 _ rfl .u8 (bu0) _ (hbu0) rfl hR) ?_))
      | (with_reducible refine at_op (o := ⟨_, .store 22 (.tmp 4) _, _, _, _, _⟩) ?_; refine wpList_storeI rfl 22 _ _ rfl 32 info_a32 (w2.heap.size) rfl .u8 _ (bu0) rfl (A4) (rfl) (l_bu0) ?_; intro D10; replace A2 := A2.rowOther (B' := w2.heap.size) (by omega) ((bu0).map (Value.int .u8)).toArray; replace A3 := A3.rowOther (B' := w2.heap.size) (by omega) ((bu0).map (Value.int .u8)).toArray; replace A6 := A6.rowOther (B' := w2.heap.size) (by omega) ((bu0).map (Value.int .u8)).toArray; replace A8 := A8.rowOther (B' := w2.heap.size) (by omega) ((bu0).map (Value.int .u8)).toArray; replace BB := Below.setRow BB (g := w2.heap.size) (by omega) ((bu0).map (Value.int .u8)).toArray; clear A4; have A4 := D10)
      | (go_at_call 29; first | ((with_reducible refine (H0 _).mono ?_); rintro e w4 ⟨rfl, b4⟩; replace A2 := A2.below b4; replace A3 := A3.below b4; replace A4 := A4.below b4; replace BB := below_then BB b4; have z4 := BB.size) | ((with_reducible refine (H1 _).mono ?_); rintro e w7 ⟨rfl, b7⟩; replace A2 := A2.below b7; replace A3 := A3.below b7; replace A4 := A4.below b7; replace A6 := A6.below b7; replace BB := below_then BB b7; have z7 := BB.size)))
  refine bodyPost_ret (results_cell_tmpM rfl _ 32 _ und_a32 rfl info_a32 (w2.heap.size) rfl .u8 _ A4 (l_bu0)) rfl ?_
  exact ⟨rfl, BB⟩
set_option maxHeartbeats 2000000 in
theorem radd_f (xa xb pa pb bu0 : List Int) (o2 : Bool) (w : World) (l_xa : xa.length = 32) (l_xb : xb.length = 32) (l_pa : pa.length = 12) (l_pb : pb.length = 12) (l_bu0 : bu0.length = 32)
    (hbu0 : Tryd.prog.built 22 [] = some (bu0.map (Value.int .u8)).toArray)
    (H0 : ∀ W, Ret 29 #[aggI .u8 xa] (.tuple #[aggI .u64 pa, .bool false]) W)
    (H1 : ∀ W, Ret 29 #[aggI .u8 xb] (.tuple #[aggI .u64 pb, .bool o2]) W) :
    Calls Tryd.prog 12 #[aggI .u8 xa, aggI .u8 xb] w fun e w' => e = .returned (.tuple #[aggI .u8 bu0, .int .i64 1]) ∧ Below w.heap.size w w' := by
  go_enter Tryd.func12, Tryd.ntmps12
  go_wp2_with (first
      | (with_reducible refine at_n 2 ?_; refine wpList_boxI rfl 22 _ rfl .u8 xa rfl ?_; intro w1 A2 s1 b1; have BB := b1; have y1 := BB.size)
      | (with_reducible refine at_n 3 ?_; refine wpList_boxI rfl 22 _ rfl .u8 xb rfl ?_; intro w2 A3 s2 b2; have q2_2 := A2.lt; replace A2 := A2.below b2; replace BB := below_then BB b2; have y2 := BB.size)
      | (with_reducible refine at_n 4 ?_; refine wpList_allocI rfl 22 rfl .u8 32 zero_a32 ?_; intro w3 A4 s3 b3; have q3_2 := A2.lt; have q3_3 := A3.lt; replace A2 := A2.below b3; replace A3 := A3.below b3; replace BB := below_then BB b3; have y3 := BB.size)
      | (with_reducible refine at_n 11 ?_; refine wpList_val' (fun R hR => Does.loadM rfl 22 _ rfl 32 _ und_a32 rfl info_a32 (w.heap.size) 0 rfl .u8 (xa) (A2) (by omega) (sl_all l_xa) hR) ?_)
      | (with_reducible refine at_n 6 ?_; refine wpList_allocI rfl 50 rfl .u64 12 zero_pnt ?_; intro w5 A6 s5 b5; have q5_2 := A2.lt; have q5_3 := A3.lt; have q5_4 := A4.lt; replace A2 := A2.below b5; replace A3 := A3.below b5; replace A4 := A4.below b5; replace BB := below_then BB b5; have y5 := BB.size)
      | (with_reducible refine at_op (o := ⟨_, .store 50 (.tmp 6) _, _, _, _, _⟩) ?_; refine wpList_storeI rfl 50 _ _ rfl 12 info_pnt (w4.heap.size) rfl .u64 _ (pa) rfl (A6) (rfl) (l_pa) ?_; intro D6; replace A2 := A2.rowOther (B' := w4.heap.size) (by omega) ((pa).map (Value.int .u64)).toArray; replace A3 := A3.rowOther (B' := w4.heap.size) (by omega) ((pa).map (Value.int .u64)).toArray; replace A4 := A4.rowOther (B' := w4.heap.size) (by omega) ((pa).map (Value.int .u64)).toArray; replace BB := Below.setRow BB (g := w4.heap.size) (by omega) ((pa).map (Value.int .u64)).toArray; clear A6; have A6 := D6)
      | (with_reducible refine at_n 16 ?_; refine wpList_val' (fun R hR => Does.loadM rfl 22 _ rfl 32 _ und_a32 rfl info_a32 (w1.heap.size) 0 rfl .u8 (xb) (A3) (by omega) (sl_all l_xb) hR) ?_)
      | (with_reducible refine at_n 8 ?_; refine wpList_allocI rfl 50 rfl .u64 12 zero_pnt ?_; intro w8 A8 s8 b8; have q8_2 := A2.lt; have q8_3 := A3.lt; have q8_4 := A4.lt; have q8_6 := A6.lt; replace A2 := A2.below b8; replace A3 := A3.below b8; replace A4 := A4.below b8; replace A6 := A6.below b8; replace BB := below_then BB b8; have y8 := BB.size)
      | (with_reducible refine at_op (o := ⟨_, .store 50 (.tmp 8) _, _, _, _, _⟩) ?_; refine wpList_storeI rfl 50 _ _ rfl 12 info_pnt (w7.heap.size) rfl .u64 _ (pb) rfl (A8) (rfl) (l_pb) ?_; intro D9; replace A2 := A2.rowOther (B' := w7.heap.size) (by omega) ((pb).map (Value.int .u64)).toArray; replace A3 := A3.rowOther (B' := w7.heap.size) (by omega) ((pb).map (Value.int .u64)).toArray; replace A4 := A4.rowOther (B' := w7.heap.size) (by omega) ((pb).map (Value.int .u64)).toArray; replace A6 := A6.rowOther (B' := w7.heap.size) (by omega) ((pb).map (Value.int .u64)).toArray; replace BB := Below.setRow BB (g := w7.heap.size) (by omega) ((pb).map (Value.int .u64)).toArray; clear A8; have A8 := D9)
      | (with_reducible refine at_n 26 ?_; go_loud (refine wpList_val' (fun R hR => Does.buildI rfl 22 _ rfl .u8 (bu0) _ (hbu0) rfl hR) ?_))
      | (with_reducible refine at_op (o := ⟨_, .store 22 (.tmp 4) _, _, _, _, _⟩) ?_; refine wpList_storeI rfl 22 _ _ rfl 32 info_a32 (w2.heap.size) rfl .u8 _ (bu0) rfl (A4) (rfl) (l_bu0) ?_; intro D10; replace A2 := A2.rowOther (B' := w2.heap.size) (by omega) ((bu0).map (Value.int .u8)).toArray; replace A3 := A3.rowOther (B' := w2.heap.size) (by omega) ((bu0).map (Value.int .u8)).toArray; replace A6 := A6.rowOther (B' := w2.heap.size) (by omega) ((bu0).map (Value.int .u8)).toArray; replace A8 := A8.rowOther (B' := w2.heap.size) (by omega) ((bu0).map (Value.int .u8)).toArray; replace BB := Below.setRow BB (g := w2.heap.size) (by omega) ((bu0).map (Value.int .u8)).toArray; clear A4; have A4 := D10)
      | (go_at_call 29; first | ((with_reducible refine (H0 _).mono ?_); rintro e w4 ⟨rfl, b4⟩; replace A2 := A2.below b4; replace A3 := A3.below b4; replace A4 := A4.below b4; replace BB := below_then BB b4; have z4 := BB.size) | ((with_reducible refine (H1 _).mono ?_); rintro e w7 ⟨rfl, b7⟩; replace A2 := A2.below b7; replace A3 := A3.below b7; replace A4 := A4.below b7; replace A6 := A6.below b7; replace BB := below_then BB b7; have z7 := BB.size)))
  refine bodyPost_ret (results_cell_tmpM rfl _ 32 _ und_a32 rfl info_a32 (w2.heap.size) rfl .u8 _ A4 (l_bu0)) rfl ?_
  exact ⟨rfl, BB⟩
set_option maxHeartbeats 2000000 in
theorem rneg_t (xa pa bu0 pa_0_4 cr1 pp0 cr2 : List Int) (w : World) (l_xa : xa.length = 32) (l_pa : pa.length = 12) (l_bu0 : bu0.length = 4) (l_pa_0_4 : pa_0_4.length = 4) (l_cr1 : cr1.length = 4) (l_pp0 : pp0.length = 12) (l_cr2 : cr2.length = 32)
    (h_pa_0_4 : sl pa 0 4 = pa_0_4)
    (hpp0 : pt pa 0 cr1 = pp0)
    (hbu0 : Tryd.prog.built 36 [] = some (bu0.map (Value.int .u64)).toArray)
    (H0 : ∀ W, Ret 29 #[aggI .u8 xa] (.tuple #[aggI .u64 pa, .bool true]) W)
    (H1 : ∀ W, Ret 35 #[aggI .u64 bu0, aggI .u64 pa_0_4] (aggI .u64 cr1) W)
    (H2 : ∀ W, Ret 30 #[aggI .u64 pp0] (aggI .u8 cr2) W) :
    Calls Tryd.prog 14 #[aggI .u8 xa] w fun e w' => e = .returned (.tuple #[aggI .u8 cr2, .int .i64 0]) ∧ Below w.heap.size w w' := by
  go_enter Tryd.func14, Tryd.ntmps14
  go_wp2_with (first
      | (with_reducible refine at_n 1 ?_; refine wpList_boxI rfl 22 _ rfl .u8 xa rfl ?_; intro w1 A1 s1 b1; have BB := b1; have y1 := BB.size)
      | (with_reducible refine at_n 2 ?_; refine wpList_allocI rfl 22 rfl .u8 32 zero_a32 ?_; intro w2 A2 s2 b2; have q2_1 := A1.lt; replace A1 := A1.below b2; replace BB := below_then BB b2; have y2 := BB.size)
      | (with_reducible refine at_n 7 ?_; refine wpList_val' (fun R hR => Does.loadM rfl 22 _ rfl 32 _ und_a32 rfl info_a32 (w.heap.size) 0 rfl .u8 (xa) (A1) (by omega) (sl_all l_xa) hR) ?_)
      | (with_reducible refine at_n 4 ?_; refine wpList_allocI rfl 50 rfl .u64 12 zero_pnt ?_; intro w4 A4 s4 b4; have q4_1 := A1.lt; have q4_2 := A2.lt; replace A1 := A1.below b4; replace A2 := A2.below b4; replace BB := below_then BB b4; have y4 := BB.size)
      | (with_reducible refine at_op (o := ⟨_, .store 50 (.tmp 4) _, _, _, _, _⟩) ?_; refine wpList_storeI rfl 50 _ _ rfl 12 info_pnt (w3.heap.size) rfl .u64 _ (pa) rfl (A4) (rfl) (l_pa) ?_; intro D5; replace A1 := A1.rowOther (B' := w3.heap.size) (by omega) ((pa).map (Value.int .u64)).toArray; replace A2 := A2.rowOther (B' := w3.heap.size) (by omega) ((pa).map (Value.int .u64)).toArray; replace BB := Below.setRow BB (g := w3.heap.size) (by omega) ((pa).map (Value.int .u64)).toArray; clear A4; have A4 := D5)
      | (with_reducible refine at_n 14 ?_; go_loud (refine wpList_val' (fun R hR => Does.buildI rfl 36 _ rfl .u64 (bu0) _ (hbu0) rfl hR) ?_))
      | (with_reducible refine at_n 15 ?_; refine wpList_val' (fun R hR => Does.fieldA rfl 50 _ 0 rfl (off := 0) (by kernel_rfl) (w3.heap.size) 0 rfl (o1 := 0) rfl hR) ?_)
      | (with_reducible refine at_n 16 ?_; refine wpList_val' (fun R hR => Does.loadM rfl 36 _ rfl 4 _ und_num rfl info_num (w3.heap.size) 0 rfl .u64 (pa) (A4) (by omega) (h_pa_0_4) hR) ?_)
      | (with_reducible refine at_n 18 ?_; refine wpList_val' (fun R hR => Does.fieldA rfl 50 _ 0 rfl (off := 0) (by kernel_rfl) (w3.heap.size) 0 rfl (o1 := 0) rfl hR) ?_)
      | (with_reducible refine at_op (o := ⟨_, .store 36 (.tmp 18) _, _, _, _, _⟩) ?_; refine wpList_storeM rfl 36 _ _ rfl 4 info_num (w3.heap.size) 0 rfl .u64 (pa) (cr1) rfl (A4) (l_cr1) (by rw [l_pa]; decide) ?_; rw [hpp0]; intro D7; replace A1 := A1.rowOther (B' := w3.heap.size) (by omega) ((pp0).map (Value.int .u64)).toArray; replace A2 := A2.rowOther (B' := w3.heap.size) (by omega) ((pp0).map (Value.int .u64)).toArray; replace BB := Below.setRow BB (g := w3.heap.size) (by omega) ((pp0).map (Value.int .u64)).toArray; clear A4; have A4 := D7)
      | (with_reducible refine at_n 19 ?_; refine wpList_val' (fun R hR => Does.loadM rfl 50 _ rfl 12 _ Tryd.underlying50 rfl info_pnt (w3.heap.size) 0 rfl .u64 (pp0) (A4) (by omega) (sl_all l_pp0) hR) ?_)
      | (with_reducible refine at_op (o := ⟨_, .store 22 (.tmp 2) _, _, _, _, _⟩) ?_; refine wpList_storeI rfl 22 _ _ rfl 32 info_a32 (w1.heap.size) rfl .u8 _ (cr2) rfl (A2) (rfl) (l_cr2) ?_; intro D9; replace A1 := A1.rowOther (B' := w1.heap.size) (by omega) ((cr2).map (Value.int .u8)).toArray; replace A4 := A4.rowOther (B' := w1.heap.size) (by omega) ((cr2).map (Value.int .u8)).toArray; replace BB := Below.setRow BB (g := w1.heap.size) (by omega) ((cr2).map (Value.int .u8)).toArray; clear A2; have A2 := D9)
      | (go_at_call 29; first | ((with_reducible refine (H0 _).mono ?_); rintro e w3 ⟨rfl, b3⟩; replace A1 := A1.below b3; replace A2 := A2.below b3; replace BB := below_then BB b3; have z3 := BB.size))
      | (go_at_call 35; first | ((with_reducible refine (H1 _).mono ?_); rintro e w6 ⟨rfl, b6⟩; replace A1 := A1.below b6; replace A2 := A2.below b6; replace A4 := A4.below b6; replace BB := below_then BB b6; have z6 := BB.size))
      | (go_at_call 30; first | ((with_reducible refine (H2 _).mono ?_); rintro e w8 ⟨rfl, b8⟩; replace A1 := A1.below b8; replace A2 := A2.below b8; replace A4 := A4.below b8; replace BB := below_then BB b8; have z8 := BB.size)))
  refine bodyPost_ret (results_cell_tmpM rfl _ 32 _ und_a32 rfl info_a32 (w1.heap.size) rfl .u8 _ A2 (l_cr2)) rfl ?_
  exact ⟨rfl, BB⟩
set_option maxHeartbeats 2000000 in
theorem rneg_f (xa pa bu0 : List Int) (w : World) (l_xa : xa.length = 32) (l_pa : pa.length = 12) (l_bu0 : bu0.length = 32)
    (hbu0 : Tryd.prog.built 22 [] = some (bu0.map (Value.int .u8)).toArray)
    (H0 : ∀ W, Ret 29 #[aggI .u8 xa] (.tuple #[aggI .u64 pa, .bool false]) W) :
    Calls Tryd.prog 14 #[aggI .u8 xa] w fun e w' => e = .returned (.tuple #[aggI .u8 bu0, .int .i64 1]) ∧ Below w.heap.size w w' := by
  go_enter Tryd.func14, Tryd.ntmps14
  go_wp2_with (first
      | (with_reducible refine at_n 1 ?_; refine wpList_boxI rfl 22 _ rfl .u8 xa rfl ?_; intro w1 A1 s1 b1; have BB := b1; have y1 := BB.size)
      | (with_reducible refine at_n 2 ?_; refine wpList_allocI rfl 22 rfl .u8 32 zero_a32 ?_; intro w2 A2 s2 b2; have q2_1 := A1.lt; replace A1 := A1.below b2; replace BB := below_then BB b2; have y2 := BB.size)
      | (with_reducible refine at_n 7 ?_; refine wpList_val' (fun R hR => Does.loadM rfl 22 _ rfl 32 _ und_a32 rfl info_a32 (w.heap.size) 0 rfl .u8 (xa) (A1) (by omega) (sl_all l_xa) hR) ?_)
      | (with_reducible refine at_n 4 ?_; refine wpList_allocI rfl 50 rfl .u64 12 zero_pnt ?_; intro w4 A4 s4 b4; have q4_1 := A1.lt; have q4_2 := A2.lt; replace A1 := A1.below b4; replace A2 := A2.below b4; replace BB := below_then BB b4; have y4 := BB.size)
      | (with_reducible refine at_op (o := ⟨_, .store 50 (.tmp 4) _, _, _, _, _⟩) ?_; refine wpList_storeI rfl 50 _ _ rfl 12 info_pnt (w3.heap.size) rfl .u64 _ (pa) rfl (A4) (rfl) (l_pa) ?_; intro D5; replace A1 := A1.rowOther (B' := w3.heap.size) (by omega) ((pa).map (Value.int .u64)).toArray; replace A2 := A2.rowOther (B' := w3.heap.size) (by omega) ((pa).map (Value.int .u64)).toArray; replace BB := Below.setRow BB (g := w3.heap.size) (by omega) ((pa).map (Value.int .u64)).toArray; clear A4; have A4 := D5)
      | (with_reducible refine at_n 13 ?_; go_loud (refine wpList_val' (fun R hR => Does.buildI rfl 22 _ rfl .u8 (bu0) _ (hbu0) rfl hR) ?_))
      | (with_reducible refine at_op (o := ⟨_, .store 22 (.tmp 2) _, _, _, _, _⟩) ?_; refine wpList_storeI rfl 22 _ _ rfl 32 info_a32 (w1.heap.size) rfl .u8 _ (bu0) rfl (A2) (rfl) (l_bu0) ?_; intro D6; replace A1 := A1.rowOther (B' := w1.heap.size) (by omega) ((bu0).map (Value.int .u8)).toArray; replace A4 := A4.rowOther (B' := w1.heap.size) (by omega) ((bu0).map (Value.int .u8)).toArray; replace BB := Below.setRow BB (g := w1.heap.size) (by omega) ((bu0).map (Value.int .u8)).toArray; clear A2; have A2 := D6)
      | (go_at_call 29; first | ((with_reducible refine (H0 _).mono ?_); rintro e w3 ⟨rfl, b3⟩; replace A1 := A1.below b3; replace A2 := A2.below b3; replace BB := below_then BB b3; have z3 := BB.size)))
  refine bodyPost_ret (results_cell_tmpM rfl _ 32 _ und_a32 rfl info_a32 (w1.heap.size) rfl .u8 _ A2 (l_bu0)) rfl ?_
  exact ⟨rfl, BB⟩
set_option maxHeartbeats 2000000 in
theorem rtimes_t (xk xa pa cr1 cr2 : List Int) (w : World) (l_xk : xk.length = 32) (l_xa : xa.length = 32) (l_pa : pa.length = 12) (l_cr1 : cr1.length = 12) (l_cr2 : cr2.length = 32)
    (H0 : ∀ W, Ret 29 #[aggI .u8 xa] (.tuple #[aggI .u64 pa, .bool true]) W)
    (H1 : ∀ W, Ret 39 #[aggI .u8 xk, aggI .u64 pa] (aggI .u64 cr1) W)
    (H2 : ∀ W, Ret 30 #[aggI .u64 cr1] (aggI .u8 cr2) W) :
    Calls Tryd.prog 18 #[aggI .u8 xk, aggI .u8 xa] w fun e w' => e = .returned (.tuple #[aggI .u8 cr2, .int .i64 0]) ∧ Below w.heap.size w w' := by
  go_enter Tryd.func18, Tryd.ntmps18
  go_wp2_with (first
      | (with_reducible refine at_n 2 ?_; refine wpList_boxI rfl 22 _ rfl .u8 xk rfl ?_; intro w1 A2 s1 b1; have BB := b1; have y1 := BB.size)
      | (with_reducible refine at_n 3 ?_; refine wpList_boxI rfl 22 _ rfl .u8 xa rfl ?_; intro w2 A3 s2 b2; have q2_2 := A2.lt; replace A2 := A2.below b2; replace BB := below_then BB b2; have y2 := BB.size)
      | (with_reducible refine at_n 4 ?_; refine wpList_allocI rfl 22 rfl .u8 32 zero_a32 ?_; intro w3 A4 s3 b3; have q3_2 := A2.lt; have q3_3 := A3.lt; replace A2 := A2.below b3; replace A3 := A3.below b3; replace BB := below_then BB b3; have y3 := BB.size)
      | (with_reducible refine at_n 9 ?_; refine wpList_val' (fun R hR => Does.loadM rfl 22 _ rfl 32 _ und_a32 rfl info_a32 (w1.heap.size) 0 rfl .u8 (xa) (A3) (by omega) (sl_all l_xa) hR) ?_)
      | (with_reducible refine at_n 6 ?_; refine wpList_allocI rfl 50 rfl .u64 12 zero_pnt ?_; intro w5 A6 s5 b5; have q5_2 := A2.lt; have q5_3 := A3.lt; have q5_4 := A4.lt; replace A2 := A2.below b5; replace A3 := A3.below b5; replace A4 := A4.below b5; replace BB := below_then BB b5; have y5 := BB.size)
      | (with_reducible refine at_op (o := ⟨_, .store 50 (.tmp 6) _, _, _, _, _⟩) ?_; refine wpList_storeI rfl 50 _ _ rfl 12 info_pnt (w4.heap.size) rfl .u64 _ (pa) rfl (A6) (rfl) (l_pa) ?_; intro D6; replace A2 := A2.rowOther (B' := w4.heap.size) (by omega) ((pa).map (Value.int .u64)).toArray; replace A3 := A3.rowOther (B' := w4.heap.size) (by omega) ((pa).map (Value.int .u64)).toArray; replace A4 := A4.rowOther (B' := w4.heap.size) (by omega) ((pa).map (Value.int .u64)).toArray; replace BB := Below.setRow BB (g := w4.heap.size) (by omega) ((pa).map (Value.int .u64)).toArray; clear A6; have A6 := D6)
      | (with_reducible refine at_n 16 ?_; refine wpList_val' (fun R hR => Does.loadM rfl 22 _ rfl 32 _ und_a32 rfl info_a32 (w.heap.size) 0 rfl .u8 (xk) (A2) (by omega) (sl_all l_xk) hR) ?_)
      | (with_reducible refine at_n 17 ?_; refine wpList_val' (fun R hR => Does.loadM rfl 50 _ rfl 12 _ Tryd.underlying50 rfl info_pnt (w4.heap.size) 0 rfl .u64 (pa) (A6) (by omega) (sl_all l_pa) hR) ?_)
      | (with_reducible refine at_op (o := ⟨_, .store 22 (.tmp 4) _, _, _, _, _⟩) ?_; refine wpList_storeI rfl 22 _ _ rfl 32 info_a32 (w2.heap.size) rfl .u8 _ (cr2) rfl (A4) (rfl) (l_cr2) ?_; intro D9; replace A2 := A2.rowOther (B' := w2.heap.size) (by omega) ((cr2).map (Value.int .u8)).toArray; replace A3 := A3.rowOther (B' := w2.heap.size) (by omega) ((cr2).map (Value.int .u8)).toArray; replace A6 := A6.rowOther (B' := w2.heap.size) (by omega) ((cr2).map (Value.int .u8)).toArray; replace BB := Below.setRow BB (g := w2.heap.size) (by omega) ((cr2).map (Value.int .u8)).toArray; clear A4; have A4 := D9)
      | (go_at_call 29; first | ((with_reducible refine (H0 _).mono ?_); rintro e w4 ⟨rfl, b4⟩; replace A2 := A2.below b4; replace A3 := A3.below b4; replace A4 := A4.below b4; replace BB := below_then BB b4; have z4 := BB.size))
      | (go_at_call 39; first | ((with_reducible refine (H1 _).mono ?_); rintro e w7 ⟨rfl, b7⟩; replace A2 := A2.below b7; replace A3 := A3.below b7; replace A4 := A4.below b7; replace A6 := A6.below b7; replace BB := below_then BB b7; have z7 := BB.size))
      | (go_at_call 30; first | ((with_reducible refine (H2 _).mono ?_); rintro e w8 ⟨rfl, b8⟩; replace A2 := A2.below b8; replace A3 := A3.below b8; replace A4 := A4.below b8; replace A6 := A6.below b8; replace BB := below_then BB b8; have z8 := BB.size)))
  refine bodyPost_ret (results_cell_tmpM rfl _ 32 _ und_a32 rfl info_a32 (w2.heap.size) rfl .u8 _ A4 (l_cr2)) rfl ?_
  exact ⟨rfl, BB⟩
set_option maxHeartbeats 2000000 in
theorem rtimes_f (xk xa pa bu0 : List Int) (w : World) (l_xk : xk.length = 32) (l_xa : xa.length = 32) (l_pa : pa.length = 12) (l_bu0 : bu0.length = 32)
    (hbu0 : Tryd.prog.built 22 [] = some (bu0.map (Value.int .u8)).toArray)
    (H0 : ∀ W, Ret 29 #[aggI .u8 xa] (.tuple #[aggI .u64 pa, .bool false]) W) :
    Calls Tryd.prog 18 #[aggI .u8 xk, aggI .u8 xa] w fun e w' => e = .returned (.tuple #[aggI .u8 bu0, .int .i64 1]) ∧ Below w.heap.size w w' := by
  go_enter Tryd.func18, Tryd.ntmps18
  go_wp2_with (first
      | (with_reducible refine at_n 2 ?_; refine wpList_boxI rfl 22 _ rfl .u8 xk rfl ?_; intro w1 A2 s1 b1; have BB := b1; have y1 := BB.size)
      | (with_reducible refine at_n 3 ?_; refine wpList_boxI rfl 22 _ rfl .u8 xa rfl ?_; intro w2 A3 s2 b2; have q2_2 := A2.lt; replace A2 := A2.below b2; replace BB := below_then BB b2; have y2 := BB.size)
      | (with_reducible refine at_n 4 ?_; refine wpList_allocI rfl 22 rfl .u8 32 zero_a32 ?_; intro w3 A4 s3 b3; have q3_2 := A2.lt; have q3_3 := A3.lt; replace A2 := A2.below b3; replace A3 := A3.below b3; replace BB := below_then BB b3; have y3 := BB.size)
      | (with_reducible refine at_n 9 ?_; refine wpList_val' (fun R hR => Does.loadM rfl 22 _ rfl 32 _ und_a32 rfl info_a32 (w1.heap.size) 0 rfl .u8 (xa) (A3) (by omega) (sl_all l_xa) hR) ?_)
      | (with_reducible refine at_n 6 ?_; refine wpList_allocI rfl 50 rfl .u64 12 zero_pnt ?_; intro w5 A6 s5 b5; have q5_2 := A2.lt; have q5_3 := A3.lt; have q5_4 := A4.lt; replace A2 := A2.below b5; replace A3 := A3.below b5; replace A4 := A4.below b5; replace BB := below_then BB b5; have y5 := BB.size)
      | (with_reducible refine at_op (o := ⟨_, .store 50 (.tmp 6) _, _, _, _, _⟩) ?_; refine wpList_storeI rfl 50 _ _ rfl 12 info_pnt (w4.heap.size) rfl .u64 _ (pa) rfl (A6) (rfl) (l_pa) ?_; intro D6; replace A2 := A2.rowOther (B' := w4.heap.size) (by omega) ((pa).map (Value.int .u64)).toArray; replace A3 := A3.rowOther (B' := w4.heap.size) (by omega) ((pa).map (Value.int .u64)).toArray; replace A4 := A4.rowOther (B' := w4.heap.size) (by omega) ((pa).map (Value.int .u64)).toArray; replace BB := Below.setRow BB (g := w4.heap.size) (by omega) ((pa).map (Value.int .u64)).toArray; clear A6; have A6 := D6)
      | (with_reducible refine at_n 15 ?_; go_loud (refine wpList_val' (fun R hR => Does.buildI rfl 22 _ rfl .u8 (bu0) _ (hbu0) rfl hR) ?_))
      | (with_reducible refine at_op (o := ⟨_, .store 22 (.tmp 4) _, _, _, _, _⟩) ?_; refine wpList_storeI rfl 22 _ _ rfl 32 info_a32 (w2.heap.size) rfl .u8 _ (bu0) rfl (A4) (rfl) (l_bu0) ?_; intro D7; replace A2 := A2.rowOther (B' := w2.heap.size) (by omega) ((bu0).map (Value.int .u8)).toArray; replace A3 := A3.rowOther (B' := w2.heap.size) (by omega) ((bu0).map (Value.int .u8)).toArray; replace A6 := A6.rowOther (B' := w2.heap.size) (by omega) ((bu0).map (Value.int .u8)).toArray; replace BB := Below.setRow BB (g := w2.heap.size) (by omega) ((bu0).map (Value.int .u8)).toArray; clear A4; have A4 := D7)
      | (go_at_call 29; first | ((with_reducible refine (H0 _).mono ?_); rintro e w4 ⟨rfl, b4⟩; replace A2 := A2.below b4; replace A3 := A3.below b4; replace A4 := A4.below b4; replace BB := below_then BB b4; have z4 := BB.size)))
  refine bodyPost_ret (results_cell_tmpM rfl _ 32 _ und_a32 rfl info_a32 (w2.heap.size) rfl .u8 _ A4 (l_bu0)) rfl ?_
  exact ⟨rfl, BB⟩
set_option maxHeartbeats 2000000 in
theorem rbase_walk (xk cr0 cr1 cr2 : List Int) (w : World) (l_xk : xk.length = 32) (l_cr0 : cr0.length = 12) (l_cr1 : cr1.length = 12) (l_cr2 : cr2.length = 32)
  (H0 : ∀ W, Ret 42 #[] (aggI .u64 cr0) W)
  (H1 : ∀ W, Ret 39 #[aggI .u8 xk, aggI .u64 cr0] (aggI .u64 cr1) W)
  (H2 : ∀ W, Ret 30 #[aggI .u64 cr1] (aggI .u8 cr2) W) :
  Calls Tryd.prog 20 #[aggI .u8 xk] w fun e w' => e = .returned (aggI .u8 cr2) ∧ Below w.heap.size w w' := by
 go_enter Tryd.func20, Tryd.ntmps20
 go_wp2_with (first
   | (with_reducible refine at_n 1 ?_; refine wpList_boxI rfl 22 _ rfl .u8 xk rfl ?_; intro w1 A1 s1 b1; have BB := b1; have y1 := BB.size)
   | (with_reducible refine at_n 2 ?_; refine wpList_allocI rfl 22 rfl .u8 32 zero_a32 ?_; intro w2 A2 s2 b2; have q2_1 := A1.lt; replace A1 := A1.below b2; replace BB := below_then BB b2; have y2 := BB.size))
 have k3_0 := A1.lt
 have k3_1 := A2.lt
 refine wp_region_ord [[], [], [0, 1, 1], [2, 2], [3, 3, 0, 1, 2, 3]] [some 3, some 4, some 5, some 6, none] 4 (fun b w' => Arr .u8 w' (w.heap.size) xk ∧ Arr .u8 w' (w1.heap.size) (if b then cr2 else List.replicate 32 0) ∧ Below w.heap.size w w') (fun opn f _ => match opn with | 0 => f 0 = aggI .u8 xk | 1 => f 1 = aggI .u64 cr0 | 2 => f 2 = aggI .u64 cr1 | 3 => f 3 = aggI .u8 cr2 | 4 => f 4 = undef | _ => True) (fun _ v v' => ∃ cs, v' = v.setRow (w1.heap.size) cs) (by kernel_rfl) (by kernel_rfl) (by kernel_rfl) (by kernel_rfl) (fun b v v' hb h => ⟨h.1.below hb, h.2.1.below hb, below_then h.2.2 hb⟩) (fun _ _ _ _ _ h => h) (fun _ _ _ _ _ _ _ h => h) ⟨A1.drew, A2.drew, BB.drew⟩ ?_ ?_
 ·
  refine StepL.other (k := 0) rfl (fun b f W hb hG hH => ?_) ?_
  ·
   obtain rfl := hb rfl
   clear hH
   generalize hA : putL _ _ _ _ = A
   have q1 : A.eval (.tmp 1) = .pointer (some ⟨w.heap.size, 0, none⟩) := putLn hA 1 rfl rfl rfl
   clear hA
   exact Does.loadM rfl 22 _ rfl 32 _ und_a32 rfl info_a32 (w.heap.size) (0) q1 .u8 (xk) (hG.1) (by omega) (sl_all l_xk) ⟨Below.refl _ _, rfl⟩
  refine StepL.other (k := 1) rfl (fun b f W hb hG hH => ?_) ?_
  ·
   obtain rfl := hb rfl
   clear hH
   generalize hA : putL _ _ _ _ = A
   clear hA
   refine Does.call rfl _ _ (by go_simp) ((H0 W).mono ?_)
   rintro e w' ⟨rfl, hb'⟩
   exact ⟨_, rfl, hb', rfl⟩
  refine StepL.other (k := 2) rfl (fun b f W hb hG hH => ?_) ?_
  ·
   obtain rfl := hb rfl
   obtain ⟨d0, d1, -, -⟩ := hH
   generalize hA : putL _ _ _ _ = A
   have q3 := putLl hA 3 d0 rfl rfl
   have r3 := slot_get q3
   have q4 := putLl hA 4 d1 rfl rfl
   have r4 := slot_get q4
   clear hA
   refine Does.call rfl _ _ (by go_simp) ((H1 W).mono ?_)
   rintro e w' ⟨rfl, hb'⟩
   exact ⟨_, rfl, hb', rfl⟩
  refine StepL.other (k := 3) rfl (fun b f W hb hG hH => ?_) ?_
  ·
   obtain rfl := hb rfl
   obtain ⟨d2, -, -⟩ := hH
   generalize hA : putL _ _ _ _ = A
   have q5 := putLl hA 5 d2 rfl rfl
   have r5 := slot_get q5
   clear hA
   refine Does.call rfl _ _ (by go_simp) ((H2 W).mono ?_)
   rintro e w' ⟨rfl, hb'⟩
   exact ⟨_, rfl, hb', rfl⟩
  refine StepL.self (k := 4) rfl (fun f W hG hH => ?_) ?_
  ·
   obtain ⟨d3, -, d0, d1, d2, -, -⟩ := hH
   generalize hA : putL _ _ _ _ = A
   have q2 : A.eval (.tmp 2) = .pointer (some ⟨w1.heap.size, 0, none⟩) := putLn hA 2 rfl rfl rfl
   have r2 := slot_get q2
   have q6 := putLl hA 6 d3 rfl rfl
   have r6 := slot_get q6
   clear hA
   have hZ : Arr .u8 W (w1.heap.size) (List.replicate 32 0) := hG.2.1
   refine Does.storeI rfl 22 _ _ rfl 32 info_a32 (w1.heap.size) q2 .u8 _ (cr2) q6 hZ (rfl) (l_cr2) ?_
   intro A9
   exact ⟨⟨_, rfl⟩, ⟨hG.1.rowOther (by omega) _, A9, Below.setRow hG.2.2 (by omega) _⟩, rfl⟩
  exact trivial
 ·
  intro f V3 hG hH
  obtain ⟨d0, d1, d2, d3, d4, -⟩ : (f 0 = aggI .u8 xk) ∧ (f 1 = aggI .u64 cr0) ∧ (f 2 = aggI .u64 cr1) ∧ (f 3 = aggI .u8 cr2) ∧ (f 4 = undef) ∧ True := hH
  rw [show List.range (List.length [[], [], [0, 1, 1], [2, 2], [3, 3, 0, 1, 2, 3]]) = [0, 1, 2, 3, 4] from rfl]
  simp only [putL, List.getElem?_cons_zero, List.getElem?_cons_succ, Option.join, Option.bind_some, id_eq, Act.put, List.setIfInBounds_toArray, List.set_cons_zero, List.set_cons_succ, d0, d1, d2, d3]
  clear d0 d1 d2 d3 d4
  clear A1 A2
  obtain ⟨A1, A2, BV⟩ := hG
  have A2 : Arr .u8 V3 (w1.heap.size) cr2 := A2
  clear BB
  have BB := BV
  clear BV
  have zz3 := BB.size
  go_wp2
  refine bodyPost_ret (results_cellM rfl _ 32 _ und_a32 rfl info_a32 (w1.heap.size) rfl .u8 _ A2 (l_cr2)) rfl ?_
  exact ⟨rfl, BB⟩
set_option maxHeartbeats 2000000 in
theorem rmix_t (xk xa xc pa cr1 cr2 cr3 cr4 cr5 : List Int) (w : World) (l_xk : xk.length = 32) (l_xa : xa.length = 32) (l_xc : xc.length = 32) (l_pa : pa.length = 12) (l_cr1 : cr1.length = 12) (l_cr2 : cr2.length = 12) (l_cr3 : cr3.length = 12) (l_cr4 : cr4.length = 12) (l_cr5 : cr5.length = 32)
  (H0 : ∀ W, Ret 29 #[aggI .u8 xa] (.tuple #[aggI .u64 pa, .bool true]) W)
  (H1 : ∀ W, Ret 39 #[aggI .u8 xk, aggI .u64 pa] (aggI .u64 cr1) W)
  (H2 : ∀ W, Ret 42 #[] (aggI .u64 cr2) W)
  (H3 : ∀ W, Ret 39 #[aggI .u8 xc, aggI .u64 cr2] (aggI .u64 cr3) W)
  (H4 : ∀ W, Ret 31 #[aggI .u64 cr1, aggI .u64 cr3] (aggI .u64 cr4) W)
  (H5 : ∀ W, Ret 30 #[aggI .u64 cr4] (aggI .u8 cr5) W) :
  Calls Tryd.prog 22 #[aggI .u8 xk, aggI .u8 xa, aggI .u8 xc] w fun e w' => e = .returned (.tuple #[aggI .u8 cr5, .int .i64 0]) ∧ Below w.heap.size w w' := by
 go_enter Tryd.func22, Tryd.ntmps22
 go_wp2_with (first
   | (with_reducible refine at_n 3 ?_; refine wpList_boxI rfl 22 _ rfl .u8 xk rfl ?_; intro w1 A3 s1 b1; have BB := b1; have y1 := BB.size)
   | (with_reducible refine at_n 4 ?_; refine wpList_boxI rfl 22 _ rfl .u8 xa rfl ?_; intro w2 A4 s2 b2; have q2_3 := A3.lt; replace A3 := A3.below b2; replace BB := below_then BB b2; have y2 := BB.size)
   | (with_reducible refine at_n 5 ?_; refine wpList_boxI rfl 22 _ rfl .u8 xc rfl ?_; intro w3 A5 s3 b3; have q3_3 := A3.lt; have q3_4 := A4.lt; replace A3 := A3.below b3; replace A4 := A4.below b3; replace BB := below_then BB b3; have y3 := BB.size)
   | (with_reducible refine at_n 6 ?_; refine wpList_allocI rfl 22 rfl .u8 32 zero_a32 ?_; intro w4 A6 s4 b4; have q4_3 := A3.lt; have q4_4 := A4.lt; have q4_5 := A5.lt; replace A3 := A3.below b4; replace A4 := A4.below b4; replace A5 := A5.below b4; replace BB := below_then BB b4; have y4 := BB.size)
   | (with_reducible refine at_n 11 ?_; refine wpList_val' (fun R hR => Does.loadM rfl 22 _ rfl 32 _ und_a32 rfl info_a32 (w1.heap.size) 0 rfl .u8 (xa) (A4) (by omega) (sl_all l_xa) hR) ?_)
   | (with_reducible refine at_n 8 ?_; refine wpList_allocI rfl 50 rfl .u64 12 zero_pnt ?_; intro w6 A8 s6 b6; have q6_3 := A3.lt; have q6_4 := A4.lt; have q6_5 := A5.lt; have q6_6 := A6.lt; replace A3 := A3.below b6; replace A4 := A4.below b6; replace A5 := A5.below b6; replace A6 := A6.below b6; replace BB := below_then BB b6; have y6 := BB.size)
   | (with_reducible refine at_op (o := ⟨_, .store 50 (.tmp 8) _, _, _, _, _⟩) ?_; refine wpList_storeI rfl 50 _ _ rfl 12 info_pnt (w5.heap.size) rfl .u64 _ (pa) rfl (A8) (rfl) (l_pa) ?_; intro D7; replace A3 := A3.rowOther (B' := w5.heap.size) (by omega) ((pa).map (Value.int .u64)).toArray; replace A4 := A4.rowOther (B' := w5.heap.size) (by omega) ((pa).map (Value.int .u64)).toArray; replace A5 := A5.rowOther (B' := w5.heap.size) (by omega) ((pa).map (Value.int .u64)).toArray; replace A6 := A6.rowOther (B' := w5.heap.size) (by omega) ((pa).map (Value.int .u64)).toArray; replace BB := Below.setRow BB (g := w5.heap.size) (by omega) ((pa).map (Value.int .u64)).toArray; clear A8; have A8 := D7)
   | (go_at_call 29; first | ((with_reducible refine (H0 _).mono ?_); rintro e w5 ⟨rfl, b5⟩; replace A3 := A3.below b5; replace A4 := A4.below b5; replace A5 := A5.below b5; replace A6 := A6.below b5; replace BB := below_then BB b5; have z5 := BB.size)))
 refine wp_world fun Wc8 hWc => ?_
 rw [← hWc] at BB A3 A4 A5 A6 A8
 clear hWc
 have k8_0 := A3.lt
 have k8_1 := A4.lt
 have k8_2 := A5.lt
 have k8_3 := A6.lt
 have k8_4 := A8.lt
 refine wp_region_ord [[], [], [0, 1], [], [2], [3, 4, 4], [2, 5, 5], [6, 6], [7, 7, 0, 1, 2, 3, 4, 5, 6, 7], [8, 0, 1, 2, 3, 4, 5, 6, 7, 8]] [some 18, some 19, some 20, some 21, some 22, some 23, some 24, some 25, none, some 7] 8 (fun b w' => Arr .u8 w' (w.heap.size) xk ∧ Arr .u8 w' (w1.heap.size) xa ∧ Arr .u8 w' (w2.heap.size) xc ∧ Arr .u8 w' (w3.heap.size) (if b then cr5 else List.replicate 32 0) ∧ Arr .u64 w' (w5.heap.size) pa ∧ Below w.heap.size w w') (fun opn f _ => match opn with | 0 => f 0 = aggI .u8 xk | 1 => f 1 = aggI .u64 pa | 2 => f 2 = aggI .u64 cr1 | 3 => f 3 = aggI .u8 xc | 4 => f 4 = aggI .u64 cr2 | 5 => f 5 = aggI .u64 cr3 | 6 => f 6 = aggI .u64 cr4 | 7 => f 7 = aggI .u8 cr5 | 8 => f 8 = undef | 9 => f 9 = .int .i64 0 | _ => True) (fun _ v v' => ∃ cs, v' = v.setRow (w3.heap.size) cs) (by kernel_rfl) (by kernel_rfl) (by kernel_rfl) (by kernel_rfl) (fun b v v' hb h => ⟨h.1.below hb, h.2.1.below hb, h.2.2.1.below hb, h.2.2.2.1.below hb, h.2.2.2.2.1.below hb, below_then h.2.2.2.2.2 hb⟩) (fun _ _ _ _ _ h => h) (fun _ _ _ _ _ _ _ h => h) ⟨A3.drew, A4.drew, A5.drew, A6.drew, A8.drew, BB.drew⟩ ?_ ?_
 ·
  refine StepL.other (k := 0) rfl (fun b f W hb hG hH => ?_) ?_
  ·
   obtain rfl := hb rfl
   clear hH
   generalize hA : putL _ _ _ _ = A
   have q3 : A.eval (.tmp 3) = .pointer (some ⟨w.heap.size, 0, none⟩) := putLn hA 3 rfl rfl rfl
   clear hA
   exact Does.loadM rfl 22 _ rfl 32 _ und_a32 rfl info_a32 (w.heap.size) (0) q3 .u8 (xk) (hG.1) (by omega) (sl_all l_xk) ⟨Below.refl _ _, rfl⟩
  refine StepL.other (k := 1) rfl (fun b f W hb hG hH => ?_) ?_
  ·
   obtain rfl := hb rfl
   clear hH
   generalize hA : putL _ _ _ _ = A
   have q8 : A.eval (.tmp 8) = .pointer (some ⟨w5.heap.size, 0, none⟩) := putLn hA 8 rfl rfl rfl
   clear hA
   exact Does.loadM rfl 50 _ rfl 12 _ Tryd.underlying50 rfl info_pnt (w5.heap.size) (0) q8 .u64 (pa) (hG.2.2.2.2.1) (by omega) (sl_all l_pa) ⟨Below.refl _ _, rfl⟩
  refine StepL.other (k := 2) rfl (fun b f W hb hG hH => ?_) ?_
  ·
   obtain rfl := hb rfl
   obtain ⟨d0, d1, -⟩ := hH
   generalize hA : putL _ _ _ _ = A
   have q18 := putLl hA 18 d0 rfl rfl
   have r18 := slot_get q18
   have q19 := putLl hA 19 d1 rfl rfl
   have r19 := slot_get q19
   clear hA
   refine Does.call rfl _ _ (by go_simp) ((H1 W).mono ?_)
   rintro e w' ⟨rfl, hb'⟩
   exact ⟨_, rfl, hb', rfl⟩
  refine StepL.other (k := 3) rfl (fun b f W hb hG hH => ?_) ?_
  ·
   obtain rfl := hb rfl
   clear hH
   generalize hA : putL _ _ _ _ = A
   have q5 : A.eval (.tmp 5) = .pointer (some ⟨w2.heap.size, 0, none⟩) := putLn hA 5 rfl rfl rfl
   clear hA
   exact Does.loadM rfl 22 _ rfl 32 _ und_a32 rfl info_a32 (w2.heap.size) (0) q5 .u8 (xc) (hG.2.2.1) (by omega) (sl_all l_xc) ⟨Below.refl _ _, rfl⟩
  refine StepL.other (k := 4) rfl (fun b f W hb hG hH => ?_) ?_
  ·
   obtain rfl := hb rfl
   obtain ⟨d2, -⟩ := hH
   generalize hA : putL _ _ _ _ = A
   clear hA
   refine Does.call rfl _ _ (by go_simp) ((H2 W).mono ?_)
   rintro e w' ⟨rfl, hb'⟩
   exact ⟨_, rfl, hb', rfl⟩
  refine StepL.other (k := 5) rfl (fun b f W hb hG hH => ?_) ?_
  ·
   obtain rfl := hb rfl
   obtain ⟨d3, d4, -, -⟩ := hH
   generalize hA : putL _ _ _ _ = A
   have q21 := putLl hA 21 d3 rfl rfl
   have r21 := slot_get q21
   have q22 := putLl hA 22 d4 rfl rfl
   have r22 := slot_get q22
   clear hA
   refine Does.call rfl _ _ (by go_simp) ((H3 W).mono ?_)
   rintro e w' ⟨rfl, hb'⟩
   exact ⟨_, rfl, hb', rfl⟩
  refine StepL.other (k := 6) rfl (fun b f W hb hG hH => ?_) ?_
  ·
   obtain rfl := hb rfl
   obtain ⟨d2, d5, -, -⟩ := hH
   generalize hA : putL _ _ _ _ = A
   have q20 := putLl hA 20 d2 rfl rfl
   have r20 := slot_get q20
   have q23 := putLl hA 23 d5 rfl rfl
   have r23 := slot_get q23
   clear hA
   refine Does.call rfl _ _ (by go_simp) ((H4 W).mono ?_)
   rintro e w' ⟨rfl, hb'⟩
   exact ⟨_, rfl, hb', rfl⟩
  refine StepL.other (k := 7) rfl (fun b f W hb hG hH => ?_) ?_
  ·
   obtain rfl := hb rfl
   obtain ⟨d6, -, -⟩ := hH
   generalize hA : putL _ _ _ _ = A
   have q24 := putLl hA 24 d6 rfl rfl
   have r24 := slot_get q24
   clear hA
   refine Does.call rfl _ _ (by go_simp) ((H5 W).mono ?_)
   rintro e w' ⟨rfl, hb'⟩
   exact ⟨_, rfl, hb', rfl⟩
  refine StepL.self (k := 8) rfl (fun f W hG hH => ?_) ?_
  ·
   obtain ⟨d7, -, d0, d1, d2, d3, d4, d5, d6, -, -⟩ := hH
   generalize hA : putL _ _ _ _ = A
   have q6 : A.eval (.tmp 6) = .pointer (some ⟨w3.heap.size, 0, none⟩) := putLn hA 6 rfl rfl rfl
   have r6 := slot_get q6
   have q25 := putLl hA 25 d7 rfl rfl
   have r25 := slot_get q25
   clear hA
   have hZ : Arr .u8 W (w3.heap.size) (List.replicate 32 0) := hG.2.2.2.1
   refine Does.storeI rfl 22 _ _ rfl 32 info_a32 (w3.heap.size) q6 .u8 _ (cr5) q25 hZ (rfl) (l_cr5) ?_
   intro A9
   exact ⟨⟨_, rfl⟩, ⟨hG.1.rowOther (by omega) _, hG.2.1.rowOther (by omega) _, hG.2.2.1.rowOther (by omega) _, A9, hG.2.2.2.2.1.rowOther (by omega) _, Below.setRow hG.2.2.2.2.2 (by omega) _⟩, rfl⟩
  refine StepL.other (k := 9) rfl (fun b f W hb hG hH => ?_) ?_
  ·
   obtain ⟨d8, d0, d1, d2, d3, d4, d5, d6, d7, -, -⟩ := hH
   generalize hA : putL _ _ _ _ = A
   clear hA
   refine Does.pure rfl (.int .i64 0) ?_ ⟨Below.refl _ _, rfl⟩
   go_simp
  exact trivial
 ·
  intro f V8 hG hH
  obtain ⟨d0, d1, d2, d3, d4, d5, d6, d7, d8, d9, -⟩ : (f 0 = aggI .u8 xk) ∧ (f 1 = aggI .u64 pa) ∧ (f 2 = aggI .u64 cr1) ∧ (f 3 = aggI .u8 xc) ∧ (f 4 = aggI .u64 cr2) ∧ (f 5 = aggI .u64 cr3) ∧ (f 6 = aggI .u64 cr4) ∧ (f 7 = aggI .u8 cr5) ∧ (f 8 = undef) ∧ (f 9 = .int .i64 0) ∧ True := hH
  rw [show List.range (List.length [[], [], [0, 1], [], [2], [3, 4, 4], [2, 5, 5], [6, 6], [7, 7, 0, 1, 2, 3, 4, 5, 6, 7], [8, 0, 1, 2, 3, 4, 5, 6, 7, 8]]) = [0, 1, 2, 3, 4, 5, 6, 7, 8, 9] from rfl]
  simp only [putL, List.getElem?_cons_zero, List.getElem?_cons_succ, Option.join, Option.bind_some, id_eq, Act.put, List.setIfInBounds_toArray, List.set_cons_zero, List.set_cons_succ, d0, d1, d2, d3, d4, d5, d6, d7, d9]
  clear d0 d1 d2 d3 d4 d5 d6 d7 d8 d9
  clear A3 A4 A5 A6 A8
  obtain ⟨A3, A4, A5, A6, A8, BV⟩ := hG
  have A6 : Arr .u8 V8 (w3.heap.size) cr5 := A6
  clear BB
  have BB := BV
  clear BV
  have zz8 := BB.size
  go_wp2
  refine bodyPost_ret (results_cell_tmpM rfl _ 32 _ und_a32 rfl info_a32 (w3.heap.size) rfl .u8 _ A6 (l_cr5)) rfl ?_
  exact ⟨rfl, BB⟩
set_option maxHeartbeats 2000000 in
theorem rmix_f (xk xa xc pa bu0 : List Int) (w : World) (l_xk : xk.length = 32) (l_xa : xa.length = 32) (l_xc : xc.length = 32) (l_pa : pa.length = 12) (l_bu0 : bu0.length = 32)
    (hbu0 : Tryd.prog.built 22 [] = some (bu0.map (Value.int .u8)).toArray)
    (H0 : ∀ W, Ret 29 #[aggI .u8 xa] (.tuple #[aggI .u64 pa, .bool false]) W) :
    Calls Tryd.prog 22 #[aggI .u8 xk, aggI .u8 xa, aggI .u8 xc] w fun e w' => e = .returned (.tuple #[aggI .u8 bu0, .int .i64 1]) ∧ Below w.heap.size w w' := by
  go_enter Tryd.func22, Tryd.ntmps22
  go_wp2_with (first
      | (with_reducible refine at_n 3 ?_; refine wpList_boxI rfl 22 _ rfl .u8 xk rfl ?_; intro w1 A3 s1 b1; have BB := b1; have y1 := BB.size)
      | (with_reducible refine at_n 4 ?_; refine wpList_boxI rfl 22 _ rfl .u8 xa rfl ?_; intro w2 A4 s2 b2; have q2_3 := A3.lt; replace A3 := A3.below b2; replace BB := below_then BB b2; have y2 := BB.size)
      | (with_reducible refine at_n 5 ?_; refine wpList_boxI rfl 22 _ rfl .u8 xc rfl ?_; intro w3 A5 s3 b3; have q3_3 := A3.lt; have q3_4 := A4.lt; replace A3 := A3.below b3; replace A4 := A4.below b3; replace BB := below_then BB b3; have y3 := BB.size)
      | (with_reducible refine at_n 6 ?_; refine wpList_allocI rfl 22 rfl .u8 32 zero_a32 ?_; intro w4 A6 s4 b4; have q4_3 := A3.lt; have q4_4 := A4.lt; have q4_5 := A5.lt; replace A3 := A3.below b4; replace A4 := A4.below b4; replace A5 := A5.below b4; replace BB := below_then BB b4; have y4 := BB.size)
      | (with_reducible refine at_n 11 ?_; refine wpList_val' (fun R hR => Does.loadM rfl 22 _ rfl 32 _ und_a32 rfl info_a32 (w1.heap.size) 0 rfl .u8 (xa) (A4) (by omega) (sl_all l_xa) hR) ?_)
      | (with_reducible refine at_n 8 ?_; refine wpList_allocI rfl 50 rfl .u64 12 zero_pnt ?_; intro w6 A8 s6 b6; have q6_3 := A3.lt; have q6_4 := A4.lt; have q6_5 := A5.lt; have q6_6 := A6.lt; replace A3 := A3.below b6; replace A4 := A4.below b6; replace A5 := A5.below b6; replace A6 := A6.below b6; replace BB := below_then BB b6; have y6 := BB.size)
      | (with_reducible refine at_op (o := ⟨_, .store 50 (.tmp 8) _, _, _, _, _⟩) ?_; refine wpList_storeI rfl 50 _ _ rfl 12 info_pnt (w5.heap.size) rfl .u64 _ (pa) rfl (A8) (rfl) (l_pa) ?_; intro D7; replace A3 := A3.rowOther (B' := w5.heap.size) (by omega) ((pa).map (Value.int .u64)).toArray; replace A4 := A4.rowOther (B' := w5.heap.size) (by omega) ((pa).map (Value.int .u64)).toArray; replace A5 := A5.rowOther (B' := w5.heap.size) (by omega) ((pa).map (Value.int .u64)).toArray; replace A6 := A6.rowOther (B' := w5.heap.size) (by omega) ((pa).map (Value.int .u64)).toArray; replace BB := Below.setRow BB (g := w5.heap.size) (by omega) ((pa).map (Value.int .u64)).toArray; clear A8; have A8 := D7)
      | (with_reducible refine at_n 17 ?_; go_loud (refine wpList_val' (fun R hR => Does.buildI rfl 22 _ rfl .u8 (bu0) _ (hbu0) rfl hR) ?_))
      | (with_reducible refine at_op (o := ⟨_, .store 22 (.tmp 6) _, _, _, _, _⟩) ?_; refine wpList_storeI rfl 22 _ _ rfl 32 info_a32 (w3.heap.size) rfl .u8 _ (bu0) rfl (A6) (rfl) (l_bu0) ?_; intro D8; replace A3 := A3.rowOther (B' := w3.heap.size) (by omega) ((bu0).map (Value.int .u8)).toArray; replace A4 := A4.rowOther (B' := w3.heap.size) (by omega) ((bu0).map (Value.int .u8)).toArray; replace A5 := A5.rowOther (B' := w3.heap.size) (by omega) ((bu0).map (Value.int .u8)).toArray; replace A8 := A8.rowOther (B' := w3.heap.size) (by omega) ((bu0).map (Value.int .u8)).toArray; replace BB := Below.setRow BB (g := w3.heap.size) (by omega) ((bu0).map (Value.int .u8)).toArray; clear A6; have A6 := D8)
      | (go_at_call 29; first | ((with_reducible refine (H0 _).mono ?_); rintro e w5 ⟨rfl, b5⟩; replace A3 := A3.below b5; replace A4 := A4.below b5; replace A5 := A5.below b5; replace A6 := A6.below b5; replace BB := below_then BB b5; have z5 := BB.size)))
  refine bodyPost_ret (results_cell_tmpM rfl _ 32 _ und_a32 rfl info_a32 (w3.heap.size) rfl .u8 _ A6 (l_bu0)) rfl ?_
  exact ⟨rfl, BB⟩
end Go.Proofs.YtelppapkffjmpaaDoor
end
section
namespace Go.Proofs.YtelppapkffjmpaaDoor
open Go.RowKit Go.Shelf
set_option linter.unusedVariables false
set_option maxRecDepth 8000

def z32 : List Int := List.replicate 32 0
theorem built_a32z : Tryd.prog.built 22 [] = some (z32.map (Value.int .u8)).toArray := by kernel_rfl
theorem z32_len : z32.length = 32 := rfl
theorem rright_yes {b : List Int} (hb : Bytes b) (hl : b.length = 32) (h : IsPt b) (w : World) : Calls Tryd.prog 16 #[aggI .u8 b] w fun e w' => e = .returned (.bool true) ∧ Below w.heap.size w w' := by
  obtain ⟨rs, hr, H⟩ := read_yes hb hl h
  exact rright_t (w := w) (l_xa := hl) (l_pa := hr.len) (H0 := H)
theorem rright_not {b : List Int} (hb : Bytes b) (hl : b.length = 32) (h : ¬ IsPt b) (w : World) : Calls Tryd.prog 16 #[aggI .u8 b] w fun e w' => e = .returned (.bool false) ∧ Below w.heap.size w w' :=
  rright_f (w := w) (l_xa := hl) (l_pa := rfl) (H0 := read_not hb hl h)
theorem right_yes {b : List Int} (hb : Bytes b) (hl : b.length = 32) (h : IsPt b) (w : World) (hT : TabD w) : Calls Tryd.prog 15 #[aggI .u8 b] w fun e w' => e = .returned (.bool true) ∧ Below w.heap.size w w' := by
  obtain ⟨rs, hr, H⟩ := load_yes hb hl h
  exact right_t (hT := hT) (l_xa := hl) (l_pa := hr.len) (H0 := H)
theorem right_not {b : List Int} (hb : Bytes b) (hl : b.length = 32) (h : ¬ IsPt b) (w : World) (hT : TabD w) : Calls Tryd.prog 15 #[aggI .u8 b] w fun e w' => e = .returned (.bool false) ∧ Below w.heap.size w w' :=
  right_f (hT := hT) (l_xa := hl) (l_pa := rfl) (H0 := load_not hb hl h)
theorem radd_yes {a b : List Int} (ha : Bytes a) (la : a.length = 32) (hb : Bytes b) (lb : b.length = 32) (h : IsPt a) (k : IsPt b) (w : World) : Calls Tryd.prog 12 #[aggI .u8 a, aggI .u8 b] w fun e w' => e = .returned (.tuple #[aggI .u8 (encB (padd (ptB a h) (ptB b k))), .int .i64 0]) ∧ Below w.heap.size w w' := by
  obtain ⟨rs, hr, H⟩ := read_yes ha la h
  obtain ⟨qs, hq, K⟩ := read_yes hb lb k
  obtain ⟨ss, hs, L⟩ := rsum_r hr hq
  exact radd_tt (w := w) (l_xa := la) (l_xb := lb) (l_pa := hr.len) (l_pb := hq.len) (l_cr2 := hs.len) (l_cr3 := encB_len _) (H0 := H) (H1 := K) (H2 := L) (H3 := rbytes_r hs)
theorem radd_not {a b : List Int} (ha : Bytes a) (la : a.length = 32) (hb : Bytes b) (lb : b.length = 32) (h : ¬ (IsPt a ∧ IsPt b)) (w : World) : Calls Tryd.prog 12 #[aggI .u8 a, aggI .u8 b] w fun e w' => e = .returned (.tuple #[aggI .u8 z32, .int .i64 1]) ∧ Below w.heap.size w w' := by
  by_cases h1 : IsPt a
  · have h2 : ¬ IsPt b := fun k => h ⟨h1, k⟩
    obtain ⟨rs, hr, H⟩ := read_yes ha la h1
    exact radd_tf (w := w) (l_xa := la) (l_xb := lb) (l_pa := hr.len) (l_pb := rfl) (l_bu0 := z32_len) (hbu0 := built_a32z) (H0 := H) (H1 := read_not hb lb h2)
  · by_cases h2 : IsPt b
    · obtain ⟨qs, hq, K⟩ := read_yes hb lb h2
      exact radd_f (w := w) (l_xa := la) (l_xb := lb) (l_pa := rfl) (l_pb := hq.len) (l_bu0 := z32_len) (hbu0 := built_a32z) (H0 := read_not ha la h1) (H1 := K)
    · exact radd_f (w := w) (l_xa := la) (l_xb := lb) (l_pa := rfl) (l_pb := rfl) (l_bu0 := z32_len) (hbu0 := built_a32z) (H0 := read_not ha la h1) (H1 := read_not hb lb h2)
theorem pt0_parts {ps ys : List Int} (h : ps.length = 12) (hy : ys.length = 4) : sl (pt ps 0 ys) 0 4 = ys ∧ sl (pt ps 0 ys) 4 4 = sl ps 4 4 ∧ sl (pt ps 0 ys) 8 4 = sl ps 8 4 ∧ (pt ps 0 ys).length = 12 :=
  ⟨sl_pt_same (by omega) hy, sl_pt_behind (by omega) (by omega) (by omega), sl_pt_behind (by omega) (by omega) (by omega), by rw [pt_length (by omega)]; exact h⟩
theorem rneg_yes {a : List Int} (ha : Bytes a) (la : a.length = 32) (h : IsPt a) (w : World) : Calls Tryd.prog 14 #[aggI .u8 a] w fun e w' => e = .returned (.tuple #[aggI .u8 (encB (pneg (ptB a h))), .int .i64 0]) ∧ Below w.heap.size w w' := by
  obtain ⟨rs, hr, H⟩ := read_yes ha la h
  obtain ⟨Z, hz, k⟩ := hr
  have kn := nw_nf (0 - (ptB a h).x * Z)
  obtain ⟨e1, e2, e3, e4⟩ := pt0_parts k.len kn.len
  have hp : RepN (pt rs 0 (nw (0 - (ptB a h).x * Z))) (pneg (ptB a h)) := by
    refine RepN.of (Z := Z) (X := 0 - (ptB a h).x * Z) (Y := (ptB a h).y * Z) ⟨e4, ?_, ?_, ?_⟩ hz ?_ rfl
    · rw [e1]; exact kn
    · rw [e2]; exact k.y
    · rw [e3]; exact k.z
    · show 0 - (ptB a h).x * Z = -(ptB a h).x * Z
      grobner
  exact rneg_t (w := w) (l_xa := la) (l_pa := k.len) (l_bu0 := rfl) (l_pa_0_4 := k.x.len) (l_cr1 := kn.len) (l_pp0 := e4) (l_cr2 := encB_len _) (h_pa_0_4 := rfl) (hpp0 := rfl) (hbu0 := built_num0) (H0 := H) (H1 := rdiff_c nf_zero k.x) (H2 := rbytes_r hp)
theorem rneg_not {a : List Int} (ha : Bytes a) (la : a.length = 32) (h : ¬ IsPt a) (w : World) : Calls Tryd.prog 14 #[aggI .u8 a] w fun e w' => e = .returned (.tuple #[aggI .u8 z32, .int .i64 1]) ∧ Below w.heap.size w w' :=
  rneg_f (w := w) (l_xa := la) (l_pa := rfl) (l_bu0 := z32_len) (hbu0 := built_a32z) (H0 := read_not ha la h)
theorem rtimes_yes {k a : List Int} (hk : Bytes k) (lk : k.length = 32) (ha : Bytes a) (la : a.length = 32) (h : IsPt a) (w : World) : Calls Tryd.prog 18 #[aggI .u8 k, aggI .u8 a] w fun e w' => e = .returned (.tuple #[aggI .u8 (encB (smul (kB k) (ptB a h))), .int .i64 0]) ∧ Below w.heap.size w w' := by
  obtain ⟨rs, hr, H⟩ := read_yes ha la h
  obtain ⟨ss, hs, L⟩ := rmany_r hk lk hr
  exact rtimes_t (w := w) (l_xk := lk) (l_xa := la) (l_pa := hr.len) (l_cr1 := hs.len) (l_cr2 := encB_len _) (H0 := H) (H1 := L) (H2 := rbytes_r hs)
theorem rtimes_not {k a : List Int} (lk : k.length = 32) (ha : Bytes a) (la : a.length = 32) (h : ¬ IsPt a) (w : World) : Calls Tryd.prog 18 #[aggI .u8 k, aggI .u8 a] w fun e w' => e = .returned (.tuple #[aggI .u8 z32, .int .i64 1]) ∧ Below w.heap.size w w' :=
  rtimes_f (w := w) (l_xk := lk) (l_xa := la) (l_pa := rfl) (l_bu0 := z32_len) (hbu0 := built_a32z) (H0 := read_not ha la h)
theorem rbase_r {k : List Int} (hk : Bytes k) (lk : k.length = 32) (w : World) : Calls Tryd.prog 20 #[aggI .u8 k] w fun e w' => e = .returned (aggI .u8 (encB (smul (kB k) bP))) ∧ Below w.heap.size w w' := by
  obtain ⟨rs, hr, H⟩ := rfirst_r
  obtain ⟨ss, hs, L⟩ := rmany_r hk lk hr
  exact rbase_walk (w := w) (l_xk := lk) (l_cr0 := hr.len) (l_cr1 := hs.len) (l_cr2 := encB_len _) (H0 := H) (H1 := L) (H2 := rbytes_r hs)
theorem rmix_yes {k a c : List Int} (hk : Bytes k) (lk : k.length = 32) (ha : Bytes a) (la : a.length = 32) (hc : Bytes c) (lc : c.length = 32) (h : IsPt a) (w : World) : Calls Tryd.prog 22 #[aggI .u8 k, aggI .u8 a, aggI .u8 c] w fun e w' => e = .returned (.tuple #[aggI .u8 (encB (padd (smul (kB k) (ptB a h)) (smul (kB c) bP))), .int .i64 0]) ∧ Below w.heap.size w w' := by
  obtain ⟨rs, hr, H⟩ := read_yes ha la h
  obtain ⟨ss, hs, L⟩ := rmany_r hk lk hr
  obtain ⟨fs, hf, F⟩ := rfirst_r
  obtain ⟨ts, ht, M⟩ := rmany_r hc lc hf
  obtain ⟨us, hu, U⟩ := rsum_r hs ht
  exact rmix_t (w := w) (l_xk := lk) (l_xa := la) (l_xc := lc) (l_pa := hr.len) (l_cr1 := hs.len) (l_cr2 := hf.len) (l_cr3 := ht.len) (l_cr4 := hu.len) (l_cr5 := encB_len _) (H0 := H) (H1 := L) (H2 := F) (H3 := M) (H4 := U) (H5 := rbytes_r hu)
theorem rmix_not {k a c : List Int} (lk : k.length = 32) (ha : Bytes a) (la : a.length = 32) (lc : c.length = 32) (h : ¬ IsPt a) (w : World) : Calls Tryd.prog 22 #[aggI .u8 k, aggI .u8 a, aggI .u8 c] w fun e w' => e = .returned (.tuple #[aggI .u8 z32, .int .i64 1]) ∧ Below w.heap.size w w' :=
  rmix_f (w := w) (l_xk := lk) (l_xa := la) (l_xc := lc) (l_pa := rfl) (l_bu0 := z32_len) (hbu0 := built_a32z) (H0 := read_not ha la h)
end Go.Proofs.YtelppapkffjmpaaDoor
end
