/- Merged: The closures of Times and Mix. made with the closures of Times and Mix; Times and Mix. What the program's Times and Mix say. What the program tells of points that are fed back in. -/
import Derived.Test.YtelppapkffjmpaaDoorQMQ
import Derived.Test.YtelppapkffjmpaaDoorQMR
section
namespace Go.Proofs.YtelppapkffjmpaaDoor
open Go.RowKit Go.Shelf
set_option linter.unusedVariables false
set_option maxRecDepth 8000

set_option maxHeartbeats 2000000 in
theorem times1_walk (pts xk cr0 : List Int) (Bp Bk : Nat) (w : World) (hT : TabD w)
    (A_p0 : Arr .u64 w Bp pts)
    (A_p1 : Arr .u8 w Bk xk)
    (l_pts : pts.length = 20) (l_xk : xk.length = 32) (l_cr0 : cr0.length = 20)
    (H0 : ∀ W B0 B1, TabD W → Arr .u8 W B0 xk → Arr .u64 W B1 pts → Ret 38 #[.slice (some ⟨B0, 0, none⟩) 1 1, .slice (some ⟨B1, 0, none⟩) 1 1] (aggI .u64 cr0) W) :
    Calls Tryd.prog 37 #[.slice (some ⟨Bp, 0, none⟩) 1 1, .pointer (some ⟨Bk, 0, none⟩)] w fun e w' => e = .returned (aggI .u64 cr0) ∧ Below w.heap.size w w' := by
  go_enter Tryd.func37, Tryd.ntmps37
  go_wp2_with (first
      | (with_reducible refine at_n 3 ?_; refine wpList_allocI rfl 46 rfl .u64 20 zero_point ?_; intro w1 A3 s1 b1; have q1_p0 := A_p0.lt; have q1_p1 := A_p1.lt; replace A_p0 := A_p0.below b1; replace A_p1 := A_p1.below b1; have BB := b1; have y1 := BB.size)
      | (with_reducible refine at_n 4 ?_; refine wpList_val' (fun R hR => Does.loadM rfl 22 _ rfl 32 _ und_a32 rfl info_a32 (Bk) 0 rfl .u8 (xk) (A_p1) (by omega) (sl_all l_xk) hR) ?_)
      | (with_reducible refine at_n 5 ?_; refine wpList_buildS rfl 61 _ 1 _ rfl Tryd.underlying61 .u8 32 info_a32 zero_a32 (by decide) (by decide) [(0, aggI .u8 xk)] rfl xk (fill_a32_1 l_xk) ?_; intro w2 A5 s2 b2; have q2_p0 := A_p0.lt; have q2_p1 := A_p1.lt; have q2_3 := A3.lt; replace A_p0 := A_p0.below b2; replace A_p1 := A_p1.below b2; replace A3 := A3.below b2; replace BB := below_then BB b2; have y2 := BB.size)
      | (with_reducible refine at_op (o := ⟨_, .store 46 (.tmp 3) _, _, _, _, _⟩) ?_; refine wpList_storeI rfl 46 _ _ rfl 20 info_point (w.heap.size) rfl .u64 _ (cr0) rfl (A3) (rfl) (l_cr0) ?_; intro D4; replace A_p0 := A_p0.rowOther (B' := w.heap.size) (by omega) ((cr0).map (Value.int .u64)).toArray; replace A_p1 := A_p1.rowOther (B' := w.heap.size) (by omega) ((cr0).map (Value.int .u64)).toArray; replace A5 := A5.rowOther (B' := w.heap.size) (by omega) ((cr0).map (Value.int .u64)).toArray; replace BB := Below.setRow BB (g := w.heap.size) (by omega) ((cr0).map (Value.int .u64)).toArray; clear A3; have A3 := D4)
      | (go_at_call 38; first | ((with_reducible refine (H0 _ _ _ (hT.below BB) A5 A_p0).mono ?_); rintro e w3 ⟨rfl, b3⟩; replace A_p0 := A_p0.below b3; replace A_p1 := A_p1.below b3; replace A3 := A3.below b3; replace A5 := A5.below b3; replace BB := below_then BB b3; have z3 := BB.size)))
  refine bodyPost_ret (results_cellM rfl _ 20 _ Tryd.underlying46 rfl info_point (w.heap.size) rfl .u64 _ A3 (l_cr0)) rfl ?_
  exact ⟨rfl, BB⟩
end Go.Proofs.YtelppapkffjmpaaDoor
end
section
namespace Go.Proofs.YtelppapkffjmpaaDoor
open Go.RowKit Go.Shelf
set_option linter.unusedVariables false
set_option maxRecDepth 8000

set_option maxHeartbeats 8000000 in
theorem made_times (xk tms ld0 cr1 cr2 cr3 : List Int) (Bk Ba : Nat) (w : World) (hT : TabD w)
    (A_p0c0 : Arr .u8 w Bk xk)
    (A_p1 : Arr .u8 w Ba tms)
    (l_xk : xk.length = 32) (l_tms : tms.length = 32) (l_ld0 : ld0.length = 20) (l_cr1 : cr1.length = 20) (l_cr2 : cr2.length = 10) (l_cr3 : cr3.length = 32)
    (H0 : ∀ W, TabD W → Ret 36 #[aggI .u8 tms] (.tuple #[aggI .u64 ld0, .bool true]) W)
    (H1 : ∀ W B0 B1, TabD W → Arr .u64 W B0 ld0 → Arr .u8 W B1 xk → Ret 37 #[.slice (some ⟨B0, 0, none⟩) 1 1, .pointer (some ⟨B1, 0, none⟩)] (aggI .u64 cr1) W)
    (H2 : ∀ W, Ret 40 #[aggI .u64 cr1] (aggI .u64 cr2) W)
    (H3 : ∀ W, Ret 41 #[aggI .u64 cr2] (aggI .u8 cr3) W) :
    Calls Tryd.prog 26 #[.func (.func 37) #[] #[.pointer (some ⟨Bk, 0, none⟩)], .slice (some ⟨Ba, 0, none⟩) 1 1] w fun e w' => e = .returned (.tuple #[aggI .u8 cr3, .int .i64 0]) ∧ Below w.heap.size w w' := by
  go_enter Tryd.func26, Tryd.ntmps26
  go_wp2_with (first
      | (with_reducible refine at_n 4 ?_; refine wpList_allocI rfl 22 rfl .u8 32 zero_a32 ?_; intro w1 A4 s1 b1; have q1_p0c0 := A_p0c0.lt; have q1_p1 := A_p1.lt; replace A_p0c0 := A_p0c0.below b1; replace A_p1 := A_p1.below b1; have BB := b1; have y1 := BB.size)
      | (with_reducible refine at_n 13 ?_; refine wpList_makeI rfl 40 _ _ _ rfl Tryd.underlying40 .u64 20 160 zero_point info_point (by kernel_rfl) (by decide) 1 rfl rfl (by decide) (by decide) ?_; intro w2 A13 s2 b2; have q2_p0c0 := A_p0c0.lt; have q2_p1 := A_p1.lt; have q2_4 := A4.lt; replace A_p0c0 := A_p0c0.below b2; replace A_p1 := A_p1.below b2; replace A4 := A4.below b2; replace BB := below_then BB b2; have y2 := BB.size))
  refine wp_loop_rounds 2 ?_
  rw [rounds_succ]
  go_wp2_with (first
      | (with_reducible refine at_n 19 ?_; refine wpList_val' (fun R hR => Does.indexS rfl 61 _ _ rfl Tryd.underlying61 info_a32 (Ba) 0 rfl .i64 0 rfl (by decide) (by decide) (o1 := 0) rfl hR) ?_)
      | (with_reducible refine at_n 20 ?_; refine wpList_val' (fun R hR => Does.loadM rfl 22 _ rfl 32 _ und_a32 rfl info_a32 (Ba) 0 rfl .u8 (tms) (A_p1) (by omega) (sl_all l_tms) hR) ?_)
      | (with_reducible refine at_n 8 ?_; refine wpList_allocI rfl 22 rfl .u8 32 zero_a32 ?_; intro w3 A8 s3 b3; have q3_p0c0 := A_p0c0.lt; have q3_p1 := A_p1.lt; have q3_4 := A4.lt; have q3_13 := A13.lt; replace A_p0c0 := A_p0c0.below b3; replace A_p1 := A_p1.below b3; replace A4 := A4.below b3; replace A13 := A13.below b3; replace BB := below_then BB b3; have y3 := BB.size)
      | (with_reducible refine at_op (o := ⟨_, .store 22 (.tmp 8) _, _, _, _, _⟩) ?_; refine wpList_storeI rfl 22 _ _ rfl 32 info_a32 (w2.heap.size) rfl .u8 _ (tms) rfl (A8) (rfl) (l_tms) ?_; intro D4; replace A_p0c0 := A_p0c0.rowOther (B' := w2.heap.size) (by omega) ((tms).map (Value.int .u8)).toArray; replace A_p1 := A_p1.rowOther (B' := w2.heap.size) (by omega) ((tms).map (Value.int .u8)).toArray; replace A4 := A4.rowOther (B' := w2.heap.size) (by omega) ((tms).map (Value.int .u8)).toArray; replace A13 := A13.rowOther (B' := w2.heap.size) (by omega) ((tms).map (Value.int .u8)).toArray; replace BB := Below.setRow BB (g := w2.heap.size) (by omega) ((tms).map (Value.int .u8)).toArray; clear A8; have A8 := D4)
      | (with_reducible refine at_n 22 ?_; refine wpList_val' (fun R hR => Does.loadM rfl 22 _ rfl 32 _ und_a32 rfl info_a32 (w2.heap.size) 0 rfl .u8 (tms) (A8) (by omega) (sl_all l_tms) hR) ?_)
      | (with_reducible refine at_n 9 ?_; refine wpList_allocI rfl 46 rfl .u64 20 zero_point ?_; intro w6 A9 s6 b6; have q6_p0c0 := A_p0c0.lt; have q6_p1 := A_p1.lt; have q6_4 := A4.lt; have q6_13 := A13.lt; have q6_8 := A8.lt; replace A_p0c0 := A_p0c0.below b6; replace A_p1 := A_p1.below b6; replace A4 := A4.below b6; replace A13 := A13.below b6; replace A8 := A8.below b6; replace BB := below_then BB b6; have y6 := BB.size)
      | (with_reducible refine at_op (o := ⟨_, .store 46 (.tmp 9) _, _, _, _, _⟩) ?_; refine wpList_storeI rfl 46 _ _ rfl 20 info_point (w5.heap.size) rfl .u64 _ (ld0) rfl (A9) (rfl) (l_ld0) ?_; intro D7; replace A_p0c0 := A_p0c0.rowOther (B' := w5.heap.size) (by omega) ((ld0).map (Value.int .u64)).toArray; replace A_p1 := A_p1.rowOther (B' := w5.heap.size) (by omega) ((ld0).map (Value.int .u64)).toArray; replace A4 := A4.rowOther (B' := w5.heap.size) (by omega) ((ld0).map (Value.int .u64)).toArray; replace A13 := A13.rowOther (B' := w5.heap.size) (by omega) ((ld0).map (Value.int .u64)).toArray; replace A8 := A8.rowOther (B' := w5.heap.size) (by omega) ((ld0).map (Value.int .u64)).toArray; replace BB := Below.setRow BB (g := w5.heap.size) (by omega) ((ld0).map (Value.int .u64)).toArray; clear A9; have A9 := D7)
      | (with_reducible refine at_n 31 ?_; refine wpList_val' (fun R hR => Does.loadM rfl 46 _ rfl 20 _ Tryd.underlying46 rfl info_point (w5.heap.size) 0 rfl .u64 (ld0) (A9) (by omega) (sl_all l_ld0) hR) ?_)
      | (with_reducible refine at_n 32 ?_; refine wpList_val' (fun R hR => Does.indexS rfl 40 _ _ rfl Tryd.underlying40 info_point (w1.heap.size) 0 rfl .i64 0 rfl (by decide) (by decide) (o1 := 0) rfl hR) ?_)
      | (with_reducible refine at_op (o := ⟨_, .store 46 (.tmp 32) _, _, _, _, _⟩) ?_; refine wpList_storeI rfl 46 _ _ rfl 20 info_point (w1.heap.size) rfl .u64 _ (ld0) rfl (A13) (rfl) (l_ld0) ?_; intro D8; replace A_p0c0 := A_p0c0.rowOther (B' := w1.heap.size) (by omega) ((ld0).map (Value.int .u64)).toArray; replace A_p1 := A_p1.rowOther (B' := w1.heap.size) (by omega) ((ld0).map (Value.int .u64)).toArray; replace A4 := A4.rowOther (B' := w1.heap.size) (by omega) ((ld0).map (Value.int .u64)).toArray; replace A8 := A8.rowOther (B' := w1.heap.size) (by omega) ((ld0).map (Value.int .u64)).toArray; replace A9 := A9.rowOther (B' := w1.heap.size) (by omega) ((ld0).map (Value.int .u64)).toArray; replace BB := Below.setRow BB (g := w1.heap.size) (by omega) ((ld0).map (Value.int .u64)).toArray; clear A13; have A13 := D8)
      | (go_at_call 36; first | ((with_reducible refine (H0 _ (hT.below BB)).mono ?_); rintro e w5 ⟨rfl, b5⟩; replace A_p0c0 := A_p0c0.below b5; replace A_p1 := A_p1.below b5; replace A4 := A4.below b5; replace A13 := A13.below b5; replace A8 := A8.below b5; replace BB := below_then BB b5; have z5 := BB.size)))
  rw [rounds_succ]
  go_wp2_with (first
      | (with_reducible refine at_op (o := ⟨_, .store 22 (.tmp 4) _, _, _, _, _⟩) ?_; refine wpList_storeI rfl 22 _ _ rfl 32 info_a32 (w.heap.size) rfl .u8 _ (cr3) rfl (A4) (rfl) (l_cr3) ?_; intro D12; replace A_p0c0 := A_p0c0.rowOther (B' := w.heap.size) (by omega) ((cr3).map (Value.int .u8)).toArray; replace A_p1 := A_p1.rowOther (B' := w.heap.size) (by omega) ((cr3).map (Value.int .u8)).toArray; replace A13 := A13.rowOther (B' := w.heap.size) (by omega) ((cr3).map (Value.int .u8)).toArray; replace A8 := A8.rowOther (B' := w.heap.size) (by omega) ((cr3).map (Value.int .u8)).toArray; replace A9 := A9.rowOther (B' := w.heap.size) (by omega) ((cr3).map (Value.int .u8)).toArray; replace BB := Below.setRow BB (g := w.heap.size) (by omega) ((cr3).map (Value.int .u8)).toArray; clear A4; have A4 := D12)
      | (go_at_call 37; first | ((with_reducible refine (H1 _ _ _ (hT.below BB) A13 A_p0c0).mono ?_); rintro e w9 ⟨rfl, b9⟩; replace A_p0c0 := A_p0c0.below b9; replace A_p1 := A_p1.below b9; replace A4 := A4.below b9; replace A13 := A13.below b9; replace A8 := A8.below b9; replace A9 := A9.below b9; replace BB := below_then BB b9; have z9 := BB.size))
      | (go_at_call 40; first | ((with_reducible refine (H2 _).mono ?_); rintro e w10 ⟨rfl, b10⟩; replace A_p0c0 := A_p0c0.below b10; replace A_p1 := A_p1.below b10; replace A4 := A4.below b10; replace A13 := A13.below b10; replace A8 := A8.below b10; replace A9 := A9.below b10; replace BB := below_then BB b10; have z10 := BB.size))
      | (go_at_call 41; first | ((with_reducible refine (H3 _).mono ?_); rintro e w11 ⟨rfl, b11⟩; replace A_p0c0 := A_p0c0.below b11; replace A_p1 := A_p1.below b11; replace A4 := A4.below b11; replace A13 := A13.below b11; replace A8 := A8.below b11; replace A9 := A9.below b11; replace BB := below_then BB b11; have z11 := BB.size)))
  refine bodyPost_ret (results_cell_tmpM rfl _ 32 _ und_a32 rfl info_a32 (w.heap.size) rfl .u8 _ A4 (l_cr3)) rfl ?_
  exact ⟨rfl, BB⟩
set_option maxHeartbeats 2000000 in
theorem times_walk (xk xa rb : List Int) (ec : Int) (w : World) (hT : TabD w)
    (l_xk : xk.length = 32) (l_xa : xa.length = 32) (l_rb : rb.length = 32)
    (H0 : ∀ W B0 B1, TabD W → Arr .u8 W B0 xk → Arr .u8 W B1 xa → Ret 26 #[.func (.func 37) #[] #[.pointer (some ⟨B0, 0, none⟩)], .slice (some ⟨B1, 0, none⟩) 1 1] (.tuple #[aggI .u8 rb, .int .i64 ec]) W) :
    Calls Tryd.prog 17 #[aggI .u8 xk, aggI .u8 xa] w fun e w' => e = .returned (.tuple #[aggI .u8 rb, .int .i64 ec]) ∧ Below w.heap.size w w' := by
  go_enter Tryd.func17, Tryd.ntmps17
  go_wp2_with (first
      | (with_reducible refine at_n 2 ?_; refine wpList_boxI rfl 22 _ rfl .u8 xk rfl ?_; intro w1 A2 s1 b1; have BB := b1; have y1 := BB.size)
      | (with_reducible refine at_n 3 ?_; refine wpList_boxI rfl 22 _ rfl .u8 xa rfl ?_; intro w2 A3 s2 b2; have q2_2 := A2.lt; replace A2 := A2.below b2; replace BB := below_then BB b2; have y2 := BB.size)
      | (with_reducible refine at_n 4 ?_; refine wpList_allocI rfl 22 rfl .u8 32 zero_a32 ?_; intro w3 A4 s3 b3; have q3_2 := A2.lt; have q3_3 := A3.lt; replace A2 := A2.below b3; replace A3 := A3.below b3; replace BB := below_then BB b3; have y3 := BB.size)
      | (with_reducible refine at_n 7 ?_; refine wpList_val' (fun R hR => Does.loadM rfl 22 _ rfl 32 _ und_a32 rfl info_a32 (w1.heap.size) 0 rfl .u8 (xa) (A3) (by omega) (sl_all l_xa) hR) ?_)
      | (with_reducible refine at_n 8 ?_; refine wpList_buildS rfl 61 _ 1 _ rfl Tryd.underlying61 .u8 32 info_a32 zero_a32 (by decide) (by decide) [(0, aggI .u8 xa)] rfl xa (fill_a32_1 l_xa) ?_; intro w4 A8 s4 b4; have q4_2 := A2.lt; have q4_3 := A3.lt; have q4_4 := A4.lt; replace A2 := A2.below b4; replace A3 := A3.below b4; replace A4 := A4.below b4; replace BB := below_then BB b4; have y4 := BB.size)
      | (with_reducible refine at_op (o := ⟨_, .store 22 (.tmp 4) _, _, _, _, _⟩) ?_; refine wpList_storeI rfl 22 _ _ rfl 32 info_a32 (w2.heap.size) rfl .u8 _ (rb) rfl (A4) (rfl) (l_rb) ?_; intro D6; replace A2 := A2.rowOther (B' := w2.heap.size) (by omega) ((rb).map (Value.int .u8)).toArray; replace A3 := A3.rowOther (B' := w2.heap.size) (by omega) ((rb).map (Value.int .u8)).toArray; replace A8 := A8.rowOther (B' := w2.heap.size) (by omega) ((rb).map (Value.int .u8)).toArray; replace BB := Below.setRow BB (g := w2.heap.size) (by omega) ((rb).map (Value.int .u8)).toArray; clear A4; have A4 := D6)
      | (go_at_call 26; first | ((with_reducible refine (H0 _ _ _ (hT.below BB) A2 A8).mono ?_); rintro e w5 ⟨rfl, b5⟩; replace A2 := A2.below b5; replace A3 := A3.below b5; replace A4 := A4.below b5; replace A8 := A8.below b5; replace BB := below_then BB b5; have z5 := BB.size)))
  refine bodyPost_ret (results_cell_tmpM rfl _ 32 _ und_a32 rfl info_a32 (w2.heap.size) rfl .u8 _ A4 (l_rb)) rfl ?_
  exact ⟨rfl, BB⟩
end Go.Proofs.YtelppapkffjmpaaDoor
end
section
namespace Go.Proofs.YtelppapkffjmpaaDoor
open Go.RowKit Go.Shelf
set_option linter.unusedVariables false
set_option maxRecDepth 8000

theorem times_yes {k a : List Int} (hk : Bytes k) (lk : k.length = 32) (ha : Bytes a) (la : a.length = 32) (h : IsPt a) (w : World) (hT : TabD w) : Calls Tryd.prog 17 #[aggI .u8 k, aggI .u8 a] w fun e w' => e = .returned (.tuple #[aggI .u8 (encB (smul (kB k) (ptB a h))), .int .i64 0]) ∧ Below w.heap.size w w' := by
  obtain ⟨ps, hp, H⟩ := load_yes ha la h
  obtain ⟨ms, hm, M⟩ := many_r (n := 1) (tms := k) (pts := ps) (P := fun _ => ptB a h) (by omega) (by omega) hk (by rw [lk]) (by rw [hp.len]) (fun j hj => by
    obtain rfl : j = 0 := by omega
    rw [Nat.mul_zero, sl_all hp.len]
    exact hp)
  rw [sumP_one, Nat.mul_zero, sl_all lk] at hm
  obtain ⟨fs, hf, F⟩ := flat_r hm
  have C1 := fun W B0 B1 (hW : TabD W) (A : Arr .u64 W B0 ps) (Ak : Arr .u8 W B1 k) => times1_walk (hT := hW) (A_p0 := A) (A_p1 := Ak) (l_pts := hp.len) (l_xk := lk) (l_cr0 := hm.len) (H0 := fun W' Bt Bp hW' A1 A2 => M W' Bt Bp 1 1 hW'.c A1 A2)
  exact times_walk (hT := hT) (l_xk := lk) (l_xa := la) (l_rb := encB_len _) (H0 := fun W B0 B1 hW A0 A1 => made_times (hT := hW) (A_p0c0 := A0) (A_p1 := A1) (l_xk := lk) (l_tms := la) (l_ld0 := hp.len) (l_cr1 := hm.len) (l_cr2 := hf.len) (l_cr3 := encB_len _) (H0 := H) (H1 := C1) (H2 := F) (H3 := pbytes_r hf))
end Go.Proofs.YtelppapkffjmpaaDoor
end
section
namespace Go.Proofs.YtelppapkffjmpaaDoor
open Go.RowKit Go.Shelf
set_option linter.unusedVariables false
set_option maxRecDepth 8000

/-- What is told of points that are fed back in. -/
theorem times_enc {k : List Int} (hk : Bytes k) (lk : k.length = 32) (P : Pt) (w : World) (hT : TabD w) : Calls Tryd.prog 17 #[aggI .u8 k, aggI .u8 (encB P)] w fun e w' => e = .returned (.tuple #[aggI .u8 (encB (smul (kB k) P)), .int .i64 0]) ∧ Below w.heap.size w w' := by
  have h := times_yes hk lk (encB_bytes P) (encB_len P) (encB_is P) w hT
  rw [dec_enc] at h
  exact h
theorem add_enc_l {b : List Int} (P : Pt) (hb : Bytes b) (lb : b.length = 32) (k : IsPt b) (w : World) (hT : TabD w) : Calls Tryd.prog 11 #[aggI .u8 (encB P), aggI .u8 b] w fun e w' => e = .returned (.tuple #[aggI .u8 (encB (padd P (ptB b k))), .int .i64 0]) ∧ Below w.heap.size w w' := by
  have h := add_yes (encB_bytes P) (encB_len P) hb lb (encB_is P) k w hT
  rw [dec_enc] at h
  exact h
end Go.Proofs.YtelppapkffjmpaaDoor
end
