/- Merged: The program's made, for one or two points. The program's Add and Neg, walked. What the program's Add and Neg say. -/
import Derived.Test.YtelppapkffjmpaaDoorQMP
import Derived.Test.YtelppapkffjmpaaDoorQMA
section
namespace Go.Proofs.YtelppapkffjmpaaDoor
open Go.RowKit Go.Shelf
set_option linter.unusedVariables false
set_option maxRecDepth 8000

section
variable {P : Program} {ops : Array Oper} {o : Oper} {a : Act} {w : World}
theorem wpList_storeW {rest : List Oper} {Q : Exit → Act → World → Prop} (hgd : Region.wanted o (yielded ops a.tmps) = true) (ty : TypeId) (x y : Operand) (ho : o.op = .store ty x y) (n : Nat) (hi : (P.info? ty).map (·.size) = some n)
    (B o0 : Nat) (hx : a.eval x = .pointer (some ⟨B, o0, none⟩)) (K : IntKind) (zs ys : List Int) (hy : a.eval y = aggI K ys) (hz : Arr K w B zs) (hm : ys.length = n) (hl : o0 + n ≤ zs.length) {zs' : List Int} (hs : pt zs o0 ys = zs')
    (h : ∀ w', Arr K w' B zs' → (∀ B' K2 zs2, B' ≠ B → Arr K2 w B' zs2 → Arr K2 w' B' zs2) → (∀ B0 w0, Below B0 w0 w → B0 ≤ B → Below B0 w0 w') → wpList P ops Q rest (a.put o.dst undef) w') : wpList P ops Q (o :: rest) a w := by
  subst hs
  exact wpList_storeM hgd ty x y ho n hi B o0 hx K zs ys hy hz hm hl fun A => h _ A (fun B' K2 zs2 hne hA => hA.rowOther hne _) (fun B0 w0 hb hle => Below.setRow hb hle _)
end
set_option maxHeartbeats 8000000 in
theorem made_add (tms tms_0_32 ld0 pp0 tms_32_32 ld1 pp1 cr2 cr3 cr4 : List Int) (Ba : Nat) (w : World) (hT : TabD w)
    (A_p1 : Arr .u8 w Ba tms)
    (l_tms : tms.length = 64) (l_tms_0_32 : tms_0_32.length = 32) (l_ld0 : ld0.length = 20) (l_pp0 : pp0.length = 40) (l_tms_32_32 : tms_32_32.length = 32) (l_ld1 : ld1.length = 20) (l_pp1 : pp1.length = 40) (l_cr2 : cr2.length = 20) (l_cr3 : cr3.length = 10) (l_cr4 : cr4.length = 32)
    (h_tms_0_32 : sl tms 0 32 = tms_0_32)
    (h_tms_32_32 : sl tms 32 32 = tms_32_32)
    (hpp0 : pt (List.replicate (2 * 20) 0) 0 ld0 = pp0)
    (hpp1 : pt pp0 20 ld1 = pp1)
    (H0 : ∀ W, TabD W → Ret 36 #[aggI .u8 tms_0_32] (.tuple #[aggI .u64 ld0, .bool true]) W)
    (H1 : ∀ W, TabD W → Ret 36 #[aggI .u8 tms_32_32] (.tuple #[aggI .u64 ld1, .bool true]) W)
    (H2 : ∀ W B0, TabD W → Arr .u64 W B0 pp1 → Ret 27 #[.slice (some ⟨B0, 0, none⟩) 2 2] (aggI .u64 cr2) W)
    (H3 : ∀ W, Ret 40 #[aggI .u64 cr2] (aggI .u64 cr3) W)
    (H4 : ∀ W, Ret 41 #[aggI .u64 cr3] (aggI .u8 cr4) W) :
    Calls Tryd.prog 26 #[.func (.func 27) #[] #[], .slice (some ⟨Ba, 0, none⟩) 2 2] w fun e w' => e = .returned (.tuple #[aggI .u8 cr4, .int .i64 0]) ∧ Below w.heap.size w w' := by
  go_enter Tryd.func26, Tryd.ntmps26
  go_wp2_with (first
      | (with_reducible refine at_n 4 ?_; refine wpList_allocI rfl 22 rfl .u8 32 zero_a32 ?_; intro w1 A4 s1 b1; have q1_p1 := A_p1.lt; replace A_p1 := A_p1.below b1; have BB := b1; have y1 := BB.size)
      | (with_reducible refine at_n 13 ?_; refine wpList_makeI rfl 40 _ _ _ rfl Tryd.underlying40 .u64 20 160 zero_point info_point (by kernel_rfl) (by decide) 2 rfl rfl (by decide) (by decide) ?_; intro w2 A13 s2 b2; have q2_p1 := A_p1.lt; have q2_4 := A4.lt; replace A_p1 := A_p1.below b2; replace A4 := A4.below b2; replace BB := below_then BB b2; have y2 := BB.size))
  refine wp_loop_rounds 3 ?_
  rw [rounds_succ]
  go_wp2_with (first
      | (with_reducible refine at_n 19 ?_; refine wpList_val' (fun R hR => Does.indexS rfl 61 _ _ rfl Tryd.underlying61 info_a32 (Ba) 0 rfl .i64 0 rfl (by decide) (by decide) (o1 := 0) rfl hR) ?_)
      | (with_reducible refine at_n 20 ?_; refine wpList_val' (fun R hR => Does.loadM rfl 22 _ rfl 32 _ und_a32 rfl info_a32 (Ba) 0 rfl .u8 (tms) (A_p1) (by omega) (h_tms_0_32) hR) ?_)
      | (with_reducible refine at_n 8 ?_; refine wpList_allocI rfl 22 rfl .u8 32 zero_a32 ?_; intro w3 A8 s3 b3; have q3_p1 := A_p1.lt; have q3_4 := A4.lt; have q3_13 := A13.lt; replace A_p1 := A_p1.below b3; replace A4 := A4.below b3; replace A13 := A13.below b3; replace BB := below_then BB b3; have y3 := BB.size)
      | (with_reducible refine at_op (o := ⟨_, .store 22 (.tmp 8) _, _, _, _, _⟩) ?_; refine wpList_storeI rfl 22 _ _ rfl 32 info_a32 (w2.heap.size) rfl .u8 _ (tms_0_32) rfl (A8) (rfl) (l_tms_0_32) ?_; intro D4; replace A_p1 := A_p1.rowOther (B' := w2.heap.size) (by omega) ((tms_0_32).map (Value.int .u8)).toArray; replace A4 := A4.rowOther (B' := w2.heap.size) (by omega) ((tms_0_32).map (Value.int .u8)).toArray; replace A13 := A13.rowOther (B' := w2.heap.size) (by omega) ((tms_0_32).map (Value.int .u8)).toArray; replace BB := Below.setRow BB (g := w2.heap.size) (by omega) ((tms_0_32).map (Value.int .u8)).toArray; clear A8; have A8 := D4)
      | (with_reducible refine at_n 22 ?_; refine wpList_val' (fun R hR => Does.loadM rfl 22 _ rfl 32 _ und_a32 rfl info_a32 (w2.heap.size) 0 rfl .u8 (tms_0_32) (A8) (by omega) (sl_all l_tms_0_32) hR) ?_)
      | (with_reducible refine at_n 9 ?_; refine wpList_allocI rfl 46 rfl .u64 20 zero_point ?_; intro w6 A9 s6 b6; have q6_p1 := A_p1.lt; have q6_4 := A4.lt; have q6_13 := A13.lt; have q6_8 := A8.lt; replace A_p1 := A_p1.below b6; replace A4 := A4.below b6; replace A13 := A13.below b6; replace A8 := A8.below b6; replace BB := below_then BB b6; have y6 := BB.size)
      | (with_reducible refine at_op (o := ⟨_, .store 46 (.tmp 9) _, _, _, _, _⟩) ?_; refine wpList_storeI rfl 46 _ _ rfl 20 info_point (w5.heap.size) rfl .u64 _ (ld0) rfl (A9) (rfl) (l_ld0) ?_; intro D7; replace A_p1 := A_p1.rowOther (B' := w5.heap.size) (by omega) ((ld0).map (Value.int .u64)).toArray; replace A4 := A4.rowOther (B' := w5.heap.size) (by omega) ((ld0).map (Value.int .u64)).toArray; replace A13 := A13.rowOther (B' := w5.heap.size) (by omega) ((ld0).map (Value.int .u64)).toArray; replace A8 := A8.rowOther (B' := w5.heap.size) (by omega) ((ld0).map (Value.int .u64)).toArray; replace BB := Below.setRow BB (g := w5.heap.size) (by omega) ((ld0).map (Value.int .u64)).toArray; clear A9; have A9 := D7)
      | (with_reducible refine at_n 31 ?_; refine wpList_val' (fun R hR => Does.loadM rfl 46 _ rfl 20 _ Tryd.underlying46 rfl info_point (w5.heap.size) 0 rfl .u64 (ld0) (A9) (by omega) (sl_all l_ld0) hR) ?_)
      | (with_reducible refine at_n 32 ?_; refine wpList_val' (fun R hR => Does.indexS rfl 40 _ _ rfl Tryd.underlying40 info_point (w1.heap.size) 0 rfl .i64 0 rfl (by decide) (by decide) (o1 := 0) rfl hR) ?_)
      | (with_reducible refine at_op (o := ⟨_, .store 46 (.tmp 32) _, _, _, _, _⟩) ?_; refine wpList_storeW rfl 46 _ _ rfl 20 info_point (w1.heap.size) 0 rfl .u64 (List.replicate (2 * 20) 0) (ld0) rfl (A13) (l_ld0) (by simp only [List.length_replicate]; first | omega | (rw [rfl]; decide)) hpp0 ?_; intro w8 D8 O8 L8; replace A_p1 := O8 _ _ _ (by omega) A_p1; replace A4 := O8 _ _ _ (by omega) A4; replace A8 := O8 _ _ _ (by omega) A8; replace A9 := O8 _ _ _ (by omega) A9; replace BB := L8 _ _ BB (by omega); have z8 := BB.size; clear O8 L8 A13; have A13 := D8)
      | (go_at_call 36; first | ((with_reducible refine (H0 _ (hT.below BB)).mono ?_); rintro e w5 ⟨rfl, b5⟩; replace A_p1 := A_p1.below b5; replace A4 := A4.below b5; replace A13 := A13.below b5; replace A8 := A8.below b5; replace BB := below_then BB b5; have z5 := BB.size)))
  rw [rounds_succ]
  go_wp2_with (first
      | (with_reducible refine at_n 19 ?_; refine wpList_val' (fun R hR => Does.indexS rfl 61 _ _ rfl Tryd.underlying61 info_a32 (Ba) 0 rfl .i64 1 rfl (by decide) (by decide) (o1 := 32) rfl hR) ?_)
      | (with_reducible refine at_n 20 ?_; refine wpList_val' (fun R hR => Does.loadM rfl 22 _ rfl 32 _ und_a32 rfl info_a32 (Ba) 32 rfl .u8 (tms) (A_p1) (by omega) (h_tms_32_32) hR) ?_)
      | (with_reducible refine at_n 8 ?_; refine wpList_allocI rfl 22 rfl .u8 32 zero_a32 ?_; intro w9 A8 s9 b9; have q9_p1 := A_p1.lt; have q9_4 := A4.lt; have q9_13 := A13.lt; replace A_p1 := A_p1.below b9; replace A4 := A4.below b9; replace A13 := A13.below b9; replace BB := below_then BB b9; have y9 := BB.size)
      | (with_reducible refine at_op (o := ⟨_, .store 22 (.tmp 8) _, _, _, _, _⟩) ?_; refine wpList_storeI rfl 22 _ _ rfl 32 info_a32 (w8.heap.size) rfl .u8 _ (tms_32_32) rfl (A8) (rfl) (l_tms_32_32) ?_; intro D10; replace A_p1 := A_p1.rowOther (B' := w8.heap.size) (by omega) ((tms_32_32).map (Value.int .u8)).toArray; replace A4 := A4.rowOther (B' := w8.heap.size) (by omega) ((tms_32_32).map (Value.int .u8)).toArray; replace A13 := A13.rowOther (B' := w8.heap.size) (by omega) ((tms_32_32).map (Value.int .u8)).toArray; replace BB := Below.setRow BB (g := w8.heap.size) (by omega) ((tms_32_32).map (Value.int .u8)).toArray; clear A8; have A8 := D10)
      | (with_reducible refine at_n 22 ?_; refine wpList_val' (fun R hR => Does.loadM rfl 22 _ rfl 32 _ und_a32 rfl info_a32 (w8.heap.size) 0 rfl .u8 (tms_32_32) (A8) (by omega) (sl_all l_tms_32_32) hR) ?_)
      | (with_reducible refine at_n 9 ?_; refine wpList_allocI rfl 46 rfl .u64 20 zero_point ?_; intro w12 A9 s12 b12; have q12_p1 := A_p1.lt; have q12_4 := A4.lt; have q12_13 := A13.lt; have q12_8 := A8.lt; replace A_p1 := A_p1.below b12; replace A4 := A4.below b12; replace A13 := A13.below b12; replace A8 := A8.below b12; replace BB := below_then BB b12; have y12 := BB.size)
      | (with_reducible refine at_op (o := ⟨_, .store 46 (.tmp 9) _, _, _, _, _⟩) ?_; refine wpList_storeI rfl 46 _ _ rfl 20 info_point (w11.heap.size) rfl .u64 _ (ld1) rfl (A9) (rfl) (l_ld1) ?_; intro D13; replace A_p1 := A_p1.rowOther (B' := w11.heap.size) (by omega) ((ld1).map (Value.int .u64)).toArray; replace A4 := A4.rowOther (B' := w11.heap.size) (by omega) ((ld1).map (Value.int .u64)).toArray; replace A13 := A13.rowOther (B' := w11.heap.size) (by omega) ((ld1).map (Value.int .u64)).toArray; replace A8 := A8.rowOther (B' := w11.heap.size) (by omega) ((ld1).map (Value.int .u64)).toArray; replace BB := Below.setRow BB (g := w11.heap.size) (by omega) ((ld1).map (Value.int .u64)).toArray; clear A9; have A9 := D13)
      | (with_reducible refine at_n 31 ?_; refine wpList_val' (fun R hR => Does.loadM rfl 46 _ rfl 20 _ Tryd.underlying46 rfl info_point (w11.heap.size) 0 rfl .u64 (ld1) (A9) (by omega) (sl_all l_ld1) hR) ?_)
      | (with_reducible refine at_n 32 ?_; refine wpList_val' (fun R hR => Does.indexS rfl 40 _ _ rfl Tryd.underlying40 info_point (w1.heap.size) 0 rfl .i64 1 rfl (by decide) (by decide) (o1 := 20) rfl hR) ?_)
      | (with_reducible refine at_op (o := ⟨_, .store 46 (.tmp 32) _, _, _, _, _⟩) ?_; refine wpList_storeW rfl 46 _ _ rfl 20 info_point (w1.heap.size) 20 rfl .u64 (pp0) (ld1) rfl (A13) (l_ld1) (by first | omega | (rw [l_pp0]; decide)) hpp1 ?_; intro w14 D14 O14 L14; replace A_p1 := O14 _ _ _ (by omega) A_p1; replace A4 := O14 _ _ _ (by omega) A4; replace A8 := O14 _ _ _ (by omega) A8; replace A9 := O14 _ _ _ (by omega) A9; replace BB := L14 _ _ BB (by omega); have z14 := BB.size; clear O14 L14 A13; have A13 := D14)
      | (go_at_call 36; first | ((with_reducible refine (H1 _ (hT.below BB)).mono ?_); rintro e w11 ⟨rfl, b11⟩; replace A_p1 := A_p1.below b11; replace A4 := A4.below b11; replace A13 := A13.below b11; replace A8 := A8.below b11; replace BB := below_then BB b11; have z11 := BB.size)))
  rw [rounds_succ]
  go_wp2_with (first
      | (with_reducible refine at_op (o := ⟨_, .store 22 (.tmp 4) _, _, _, _, _⟩) ?_; refine wpList_storeI rfl 22 _ _ rfl 32 info_a32 (w.heap.size) rfl .u8 _ (cr4) rfl (A4) (rfl) (l_cr4) ?_; intro D18; replace A_p1 := A_p1.rowOther (B' := w.heap.size) (by omega) ((cr4).map (Value.int .u8)).toArray; replace A13 := A13.rowOther (B' := w.heap.size) (by omega) ((cr4).map (Value.int .u8)).toArray; replace A8 := A8.rowOther (B' := w.heap.size) (by omega) ((cr4).map (Value.int .u8)).toArray; replace A9 := A9.rowOther (B' := w.heap.size) (by omega) ((cr4).map (Value.int .u8)).toArray; replace BB := Below.setRow BB (g := w.heap.size) (by omega) ((cr4).map (Value.int .u8)).toArray; clear A4; have A4 := D18)
      | (go_at_call 27; first | ((with_reducible refine (H2 _ _ (hT.below BB) A13).mono ?_); rintro e w15 ⟨rfl, b15⟩; replace A_p1 := A_p1.below b15; replace A4 := A4.below b15; replace A13 := A13.below b15; replace A8 := A8.below b15; replace A9 := A9.below b15; replace BB := below_then BB b15; have z15 := BB.size))
      | (go_at_call 40; first | ((with_reducible refine (H3 _).mono ?_); rintro e w16 ⟨rfl, b16⟩; replace A_p1 := A_p1.below b16; replace A4 := A4.below b16; replace A13 := A13.below b16; replace A8 := A8.below b16; replace A9 := A9.below b16; replace BB := below_then BB b16; have z16 := BB.size))
      | (go_at_call 41; first | ((with_reducible refine (H4 _).mono ?_); rintro e w17 ⟨rfl, b17⟩; replace A_p1 := A_p1.below b17; replace A4 := A4.below b17; replace A13 := A13.below b17; replace A8 := A8.below b17; replace A9 := A9.below b17; replace BB := below_then BB b17; have z17 := BB.size)))
  refine bodyPost_ret (results_cell_tmpM rfl _ 32 _ und_a32 rfl info_a32 (w.heap.size) rfl .u8 _ A4 (l_cr4)) rfl ?_
  exact ⟨rfl, BB⟩
end Go.Proofs.YtelppapkffjmpaaDoor
end
section
namespace Go.Proofs.YtelppapkffjmpaaDoor
open Go.RowKit Go.Shelf
set_option linter.unusedVariables false
set_option maxRecDepth 8000

theorem wpList_buildS {P : Program} {ops : Array Oper} {o : Oper} {a : Act} {w : World} {rest : List Oper} {Q : Exit → Act → World → Prop} (hw : Region.wanted o (yielded ops a.tmps) = true) (t e : TypeId) (len : Nat) (parts : Array (Nat × Operand)) (ho : o.op = .buildSlice t len parts) (hu : P.underlying t = some (.slice e)) (K : IntKind) (s : Nat)
    (hs : (P.info? e).map (·.size) = some s) (hz : (P.info? e).bind (·.zero) = some (.agg (Array.replicate s (Value.int K 0)))) (hsmall : len * s ≤ 2 ^ 24) (hpos : 0 < len * s)
    (vs : List (Nat × Value)) (hv : (parts.toList.map fun (i, x) => (i, a.eval x)) = vs) (zs : List Int)
    (hf : Instr.fill (fun i => some (i * s, s)) ((Array.range (len * s)).map ((zeroC K s).cells[· % (zeroC K s).cells.size]!)) vs = some (zs.map (Value.int K)).toArray)
    (h : ∀ w1, Arr K w1 w.heap.size zs → w.heap.size < w1.heap.size → Below w.heap.size w w1 → wpList P ops Q rest (a.put o.dst (.slice (some ⟨w.heap.size, 0, none⟩) len len)) w1) : wpList P ops Q (o :: rest) a w :=
  wpList_does (R := fun v w1 => v = .slice (some ⟨w.heap.size, 0, none⟩) len len ∧ Arr K w1 w.heap.size zs ∧ w.heap.size < w1.heap.size ∧ Below w.heap.size w w1) (Does.buildS hw t e len parts ho hu K s hs hz hsmall hpos vs (by rw [Array.toList_map]; exact hv) zs hf fun w1 A s1 b => ⟨rfl, A, s1, b⟩) fun v w1 h' => by
    obtain ⟨rfl, hA, hS, hB⟩ := h'
    exact h w1 hA hS hB
set_option maxHeartbeats 2000000 in
theorem add_walk (xa xb rb : List Int) (ec : Int) (w : World) (hT : TabD w)
    (l_xa : xa.length = 32) (l_xb : xb.length = 32) (l_rb : rb.length = 32)
    (H0 : ∀ W B0, TabD W → Arr .u8 W B0 (xa ++ xb) → Ret 26 #[.func (.func 27) #[] #[], .slice (some ⟨B0, 0, none⟩) 2 2] (.tuple #[aggI .u8 rb, .int .i64 ec]) W) :
    Calls Tryd.prog 11 #[aggI .u8 xa, aggI .u8 xb] w fun e w' => e = .returned (.tuple #[aggI .u8 rb, .int .i64 ec]) ∧ Below w.heap.size w w' := by
  go_enter Tryd.func11, Tryd.ntmps11
  go_wp2_with (first
      | (with_reducible refine at_n 2 ?_; refine wpList_boxI rfl 22 _ rfl .u8 xa rfl ?_; intro w1 A2 s1 b1; have BB := b1; have y1 := BB.size)
      | (with_reducible refine at_n 3 ?_; refine wpList_boxI rfl 22 _ rfl .u8 xb rfl ?_; intro w2 A3 s2 b2; have q2_2 := A2.lt; replace A2 := A2.below b2; replace BB := below_then BB b2; have y2 := BB.size)
      | (with_reducible refine at_n 4 ?_; refine wpList_allocI rfl 22 rfl .u8 32 zero_a32 ?_; intro w3 A4 s3 b3; have q3_2 := A2.lt; have q3_3 := A3.lt; replace A2 := A2.below b3; replace A3 := A3.below b3; replace BB := below_then BB b3; have y3 := BB.size)
      | (with_reducible refine at_n 6 ?_; refine wpList_val' (fun R hR => Does.loadM rfl 22 _ rfl 32 _ und_a32 rfl info_a32 (w.heap.size) 0 rfl .u8 (xa) (A2) (by omega) (sl_all l_xa) hR) ?_)
      | (with_reducible refine at_n 7 ?_; refine wpList_val' (fun R hR => Does.loadM rfl 22 _ rfl 32 _ und_a32 rfl info_a32 (w1.heap.size) 0 rfl .u8 (xb) (A3) (by omega) (sl_all l_xb) hR) ?_)
      | (with_reducible refine at_n 8 ?_; refine wpList_buildS rfl 61 _ 2 _ rfl Tryd.underlying61 .u8 32 info_a32 zero_a32 (by decide) (by decide) [(0, aggI .u8 xa), (1, aggI .u8 xb)] rfl (xa ++ xb) (fill_a32_2 l_xa l_xb) ?_; intro w4 A8 s4 b4; have q4_2 := A2.lt; have q4_3 := A3.lt; have q4_4 := A4.lt; replace A2 := A2.below b4; replace A3 := A3.below b4; replace A4 := A4.below b4; replace BB := below_then BB b4; have y4 := BB.size)
      | (with_reducible refine at_op (o := ⟨_, .store 22 (.tmp 4) _, _, _, _, _⟩) ?_; refine wpList_storeI rfl 22 _ _ rfl 32 info_a32 (w2.heap.size) rfl .u8 _ (rb) rfl (A4) (rfl) (l_rb) ?_; intro D6; replace A2 := A2.rowOther (B' := w2.heap.size) (by omega) ((rb).map (Value.int .u8)).toArray; replace A3 := A3.rowOther (B' := w2.heap.size) (by omega) ((rb).map (Value.int .u8)).toArray; replace A8 := A8.rowOther (B' := w2.heap.size) (by omega) ((rb).map (Value.int .u8)).toArray; replace BB := Below.setRow BB (g := w2.heap.size) (by omega) ((rb).map (Value.int .u8)).toArray; clear A4; have A4 := D6)
      | (go_at_call 26; first | ((with_reducible refine (H0 _ _ (hT.below BB) A8).mono ?_); rintro e w5 ⟨rfl, b5⟩; replace A2 := A2.below b5; replace A3 := A3.below b5; replace A4 := A4.below b5; replace A8 := A8.below b5; replace BB := below_then BB b5; have z5 := BB.size)))
  refine bodyPost_ret (results_cell_tmpM rfl _ 32 _ und_a32 rfl info_a32 (w2.heap.size) rfl .u8 _ A4 (l_rb)) rfl ?_
  exact ⟨rfl, BB⟩
end Go.Proofs.YtelppapkffjmpaaDoor
end
section
namespace Go.Proofs.YtelppapkffjmpaaDoor
open Go.RowKit Go.Shelf
set_option linter.unusedVariables false
set_option maxRecDepth 8000

theorem sl_two {a b : List Int} {n : Nat} (ha : a.length = n) (hb : b.length = n) : sl (a ++ b) 0 n = a ∧ sl (a ++ b) n n = b :=
  ⟨sl_app0 ha, (sl_appn (o := 0) ha).trans (sl_all hb)⟩
theorem two_pts {ps qs : List Int} (hp : ps.length = 20) (hq : qs.length = 20) : (pt (List.replicate (2 * 20) 0) 0 ps).length = 40 ∧ (pt (pt (List.replicate (2 * 20) 0) 0 ps) 20 qs).length = 40 ∧ sl (pt (pt (List.replicate (2 * 20) 0) 0 ps) 20 qs) 0 20 = ps ∧ sl (pt (pt (List.replicate (2 * 20) 0) 0 ps) 20 qs) 20 20 = qs := by
  have l0 : (List.replicate (2 * 20) (0 : Int)).length = 40 := rfl
  have l1 : (pt (List.replicate (2 * 20) 0) 0 ps).length = 40 := by rw [pt_length (by omega), l0]
  have l2 : (pt (pt (List.replicate (2 * 20) 0) 0 ps) 20 qs).length = 40 := by rw [pt_length (by omega), l1]
  refine ⟨l1, l2, ?_, sl_pt_same (by omega) hq⟩
  rw [sl_pt_before (by omega) (by omega)]
  exact sl_pt_same (by omega) hp
theorem add_yes {a b : List Int} (ha : Bytes a) (la : a.length = 32) (hb : Bytes b) (lb : b.length = 32) (h : IsPt a) (k : IsPt b) (w : World) (hT : TabD w) : Calls Tryd.prog 11 #[aggI .u8 a, aggI .u8 b] w fun e w' => e = .returned (.tuple #[aggI .u8 (encB (padd (ptB a h) (ptB b k))), .int .i64 0]) ∧ Below w.heap.size w w' := by
  obtain ⟨ps, hp, H⟩ := load_yes ha la h
  obtain ⟨qs, hq, K⟩ := load_yes hb lb k
  obtain ⟨ss, hs, L⟩ := with_r hp hq
  obtain ⟨fs, hf, F⟩ := flat_r hs
  obtain ⟨l1, l2, e1, e2⟩ := two_pts hp.len hq.len
  obtain ⟨c1, c2⟩ := sl_two la lb
  have C1 := fun W B0 (hW : TabD W) (A : Arr .u64 W B0 _) => add1_walk (hT := hW) (A_p0 := A) (l_pts := l2) (l_pts_0_20 := hp.len) (l_pts_20_20 := hq.len) (l_cr0 := hs.len) (h_pts_0_20 := e1) (h_pts_20_20 := e2) (H0 := fun W' hW' => L W' hW'.c)
  exact add_walk (hT := hT) (l_xa := la) (l_xb := lb) (l_rb := encB_len _) (H0 := fun W B0 hW A => made_add (hT := hW) (A_p1 := A) (l_tms := by simp [la, lb]) (l_tms_0_32 := la) (l_ld0 := hp.len) (l_pp0 := l1) (l_tms_32_32 := lb) (l_ld1 := hq.len) (l_pp1 := l2) (l_cr2 := hs.len) (l_cr3 := hf.len) (l_cr4 := encB_len _) (h_tms_0_32 := c1) (h_tms_32_32 := c2) (hpp0 := rfl) (hpp1 := rfl) (H0 := H) (H1 := K) (H2 := C1) (H3 := F) (H4 := pbytes_r hf))
end Go.Proofs.YtelppapkffjmpaaDoor
end
