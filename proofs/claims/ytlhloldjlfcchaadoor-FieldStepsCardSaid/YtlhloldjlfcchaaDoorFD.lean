/- Numbers of five limbs: as bytes. -/
import Derived.Test.YtlhloldjlfcchaaDoorFC
namespace Go.Proofs.YtlhloldjlfcchaaDoor
open Go.RowKit Go.Shelf
set_option linter.unusedVariables false
set_option maxRecDepth 8000

/-- What runs over, with 19 more. -/
def ovS (cs : List Int) : Nat → Int
  | 0 => (at0 cs 0 + 19) / 2251799813685248
  | k + 1 => (at0 cs (k + 1) + ovS cs k) / 2251799813685248
/-- The limbs, with what is carried into them. -/
def yS (cs : List Int) : Nat → Int
  | 0 => at0 cs 0 + 19 * ovS cs 4
  | k + 1 => at0 cs (k + 1) + yS cs k / 2251799813685248
def dS (cs : List Int) (k : Nat) : Int := yS cs k % 2251799813685248
def wdS (cs : List Int) : List Int := [dS cs 0 + dS cs 1 * 2251799813685248 % 18446744073709551616, dS cs 1 / 8192 + dS cs 2 * 274877906944 % 18446744073709551616, dS cs 2 / 67108864 + dS cs 3 * 33554432 % 18446744073709551616, dS cs 3 / 549755813888 + dS cs 4 * 4096 % 18446744073709551616]
theorem ov_small {cs : List Int} (hc : Small cs) (k : Nat) : 0 ≤ ovS cs k ∧ ovS cs k ≤ 1 := by
  induction k with
  | zero => have := hc 0; simp only [ovS]; omega
  | succ k ih => have := hc (k + 1); simp only [ovS]; omega
theorem y_small {cs : List Int} (hc : Small cs) (k : Nat) : 0 ≤ yS cs k ∧ yS cs k < 4503599627370496 := by
  have ho := ov_small hc 4
  induction k with
  | zero => have := hc 0; simp only [yS]; omega
  | succ k ih => have := hc (k + 1); simp only [yS]; omega
theorem d_small (cs : List Int) (k : Nat) : 0 ≤ dS cs k ∧ dS cs k < 2251799813685248 := by unfold dS; omega
theorem wdS_num {cs : List Int} (hc : Small cs) : wdS cs = numW 4 (valL cs % pV) := by
  have h0 := hc 0; have h1 := hc 1; have h2 := hc 2; have h3 := hc 3; have h4 := hc 4
  have d0 := d_small cs 0; have d1 := d_small cs 1; have d2 := d_small cs 2; have d3 := d_small cs 3; have d4 := d_small cs 4
  have hD : dS cs 0 + dS cs 1 * 2251799813685248 + dS cs 2 * 5070602400912917605986812821504 + dS cs 3 * 11417981541647679048466287755595961091061972992 + dS cs 4 * 25711008708143844408671393477458601640355247900524685364822016 = valL cs % pV := by
    have ho := ov_small hc 4
    have e0 : ovS cs 0 = (at0 cs 0 + 19) / 2251799813685248 := rfl
    have e1 : ovS cs 1 = (at0 cs 1 + ovS cs 0) / 2251799813685248 := rfl
    have e2 : ovS cs 2 = (at0 cs 2 + ovS cs 1) / 2251799813685248 := rfl
    have e3 : ovS cs 3 = (at0 cs 3 + ovS cs 2) / 2251799813685248 := rfl
    have e4 : ovS cs 4 = (at0 cs 4 + ovS cs 3) / 2251799813685248 := rfl
    have g0 : yS cs 0 = at0 cs 0 + 19 * ovS cs 4 := rfl
    have g1 : yS cs 1 = at0 cs 1 + yS cs 0 / 2251799813685248 := rfl
    have g2 : yS cs 2 = at0 cs 2 + yS cs 1 / 2251799813685248 := rfl
    have g3 : yS cs 3 = at0 cs 3 + yS cs 2 / 2251799813685248 := rfl
    have g4 : yS cs 4 = at0 cs 4 + yS cs 3 / 2251799813685248 := rfl
    unfold dS pV
    simp only [valL, Int.reducePow]
    generalize ovS cs 0 = o0 at *
    generalize ovS cs 1 = o1 at *
    generalize ovS cs 2 = o2 at *
    generalize ovS cs 3 = o3 at *
    generalize ovS cs 4 = o4 at *
    generalize yS cs 0 = y0 at *
    generalize yS cs 1 = y1 at *
    generalize yS cs 2 = y2 at *
    generalize yS cs 3 = y3 at *
    generalize yS cs 4 = y4 at *
    generalize at0 cs 0 = x0 at *
    generalize at0 cs 1 = x1 at *
    generalize at0 cs 2 = x2 at *
    generalize at0 cs 3 = x3 at *
    generalize at0 cs 4 = x4 at *
    have r1 : 57896044618658097711785492504343953926634992332820282019728792003956564819968 * o4 ≤ x0 + x1 * 2251799813685248 + x2 * 5070602400912917605986812821504 + x3 * 11417981541647679048466287755595961091061972992 + x4 * 25711008708143844408671393477458601640355247900524685364822016 + 19 ∧
        x0 + x1 * 2251799813685248 + x2 * 5070602400912917605986812821504 + x3 * 11417981541647679048466287755595961091061972992 + x4 * 25711008708143844408671393477458601640355247900524685364822016 + 19 < 57896044618658097711785492504343953926634992332820282019728792003956564819968 * (o4 + 1) := by
      clear g0 g1 g2 g3 g4
      omega
    have r2 : y0 % 2251799813685248 + y1 % 2251799813685248 * 2251799813685248 + y2 % 2251799813685248 * 5070602400912917605986812821504 + y3 % 2251799813685248 * 11417981541647679048466287755595961091061972992 + y4 % 2251799813685248 * 25711008708143844408671393477458601640355247900524685364822016 + 57896044618658097711785492504343953926634992332820282019728792003956564819968 * (y4 / 2251799813685248) =
        x0 + x1 * 2251799813685248 + x2 * 5070602400912917605986812821504 + x3 * 11417981541647679048466287755595961091061972992 + x4 * 25711008708143844408671393477458601640355247900524685364822016 + 19 * o4 := by
      clear r1 e0 e1 e2 e3 e4
      omega
    have r3 : 0 ≤ y0 % 2251799813685248 + y1 % 2251799813685248 * 2251799813685248 + y2 % 2251799813685248 * 5070602400912917605986812821504 + y3 % 2251799813685248 * 11417981541647679048466287755595961091061972992 + y4 % 2251799813685248 * 25711008708143844408671393477458601640355247900524685364822016 ∧
        y0 % 2251799813685248 + y1 % 2251799813685248 * 2251799813685248 + y2 % 2251799813685248 * 5070602400912917605986812821504 + y3 % 2251799813685248 * 11417981541647679048466287755595961091061972992 + y4 % 2251799813685248 * 25711008708143844408671393477458601640355247900524685364822016 < 57896044618658097711785492504343953926634992332820282019728792003956564819968 := by
      clear r1 r2 e0 e1 e2 e3 e4 g0 g1 g2 g3 g4
      omega
    have r4 : 0 ≤ x0 + x1 * 2251799813685248 + x2 * 5070602400912917605986812821504 + x3 * 11417981541647679048466287755595961091061972992 + x4 * 25711008708143844408671393477458601640355247900524685364822016 ∧
        x0 + x1 * 2251799813685248 + x2 * 5070602400912917605986812821504 + x3 * 11417981541647679048466287755595961091061972992 + x4 * 25711008708143844408671393477458601640355247900524685364822016 < 57896044618658097711785492504343953926634992332820282019728792003956564819968 + 1725436586697640946858688965569256363112777243042596638790631055949824 := by
      clear r1 r2 r3 e0 e1 e2 e3 e4 g0 g1 g2 g3 g4
      omega
    clear e0 e1 e2 e3 e4 g0 g1 g2 g3 g4 h0 h1 h2 h3 h4
    generalize y0 % 2251799813685248 + y1 % 2251799813685248 * 2251799813685248 + y2 % 2251799813685248 * 5070602400912917605986812821504 + y3 % 2251799813685248 * 11417981541647679048466287755595961091061972992 + y4 % 2251799813685248 * 25711008708143844408671393477458601640355247900524685364822016 = D at *
    generalize x0 + x1 * 2251799813685248 + x2 * 5070602400912917605986812821504 + x3 * 11417981541647679048466287755595961091061972992 + x4 * 25711008708143844408671393477458601640355247900524685364822016 = V at *
    generalize y4 / 2251799813685248 = q at *
    have ho2 : o4 = 0 ∨ o4 = 1 := by omega
    rcases ho2 with rfl | rfl <;> omega
  have hw : Words (wdS cs) := by
    intro x hx
    simp only [wdS, List.mem_cons, List.not_mem_nil, or_false] at hx
    rcases hx with rfl | rfl | rfl | rfl <;> omega
  refine numW_eq hw rfl ?_
  rw [← hD]
  simp only [valW, wdS, at0_cons_zero, at0_cons_succ, Nat.reduceMul, Int.reducePow]
  generalize dS cs 0 = a at *
  generalize dS cs 1 = b at *
  generalize dS cs 2 = c at *
  generalize dS cs 3 = d at *
  generalize dS cs 4 = e at *
  omega
theorem und_a4 : Tryd.prog.underlying 34 = some (.array 4 33) := by kernel_rfl
theorem info_a4 : (Tryd.prog.info? 34).map (·.size) = some 4 := by kernel_rfl
theorem zero_a4 : (Tryd.prog.info? 34).bind (·.zero) = some (.agg (Array.replicate 4 (Value.int .u64 0))) := by kernel_rfl
theorem built_a4 (a b c d : Int) : Tryd.prog.built 34 [(0, .int .u64 a), (1, .int .u64 b), (2, .int .u64 c), (3, .int .u64 d)] = some (([a, b, c, d] : List Int).map (Value.int .u64)).toArray := by kernel_rfl

set_option maxHeartbeats 8000000 in
theorem fbytes_any (xs : List Int) (w : World) (hx : Words xs) (hl : xs.length = 5) :
    Calls Tryd.prog 31 #[aggI .u64 xs] w fun e w' => e = .returned (aggI .u8 (numB (valL xs % pV))) ∧ Below w.heap.size w w' := by
  have hF := carried_fel xs hx
  have HC := fun W => carried_any xs W hx hl
  obtain ⟨hcl, hc, hcv⟩ := hF
  rw [← hcv]
  generalize carriedS xs = cs at *
  clear hcv
  have hc0 := hc 0
  have ho := ov_small hc 4
  have w0 := wrap_id (x := at0 cs 0 + 19) (by omega) (by omega)
  have wa := wrap_id (x := 19 * ovS cs 4) (by omega) (by omega)
  have wb := wrap_id (x := at0 cs 0 + 19 * ovS cs 4) (by omega) (by omega)
  have hW4 := wdS_num hc
  go_enter Tryd.func31, Tryd.ntmps31
  go_wp2_with (first
    | (with_reducible refine at_op (o := ⟨some 1, _, _, _, _, _⟩) ?_; refine wpList_boxI rfl 38 _ rfl .u64 xs rfl ?_; intro w1 A1 s1 b1)
    | (with_reducible refine at_op (o := ⟨some 2, _, _, _, _, _⟩) ?_; refine wpList_allocI rfl 22 rfl .u8 32 zero_a32 ?_; intro w2 A2 s2 b2; have X2 := A1.below b2)
    | (with_reducible refine at_op (o := ⟨some 9, _, _, _, _, _⟩) ?_; refine wpList_loadI rfl 38 _ rfl 5 33 und_limbs info_limbs (w.heap.size) rfl .u64 (xs) (X2) (hl) ?_)
    | (go_at_call 47; refine (HC _).mono ?_; rintro e w3 ⟨rfl, b3⟩; have X3 := X2.below b3; have R := A2.below b3)
    | (with_reducible refine at_op (o := ⟨_, .store 38 (.tmp 1) _, _, _, _, _⟩) ?_; refine wpList_storeI rfl 38 _ _ rfl 5 info_limbs (w.heap.size) rfl .u64 _ (cs) rfl (X3) (hl) (hcl) ?_; intro X; replace R := R.rowOther (B' := w.heap.size) (by omega) (cs.map (Value.int .u64)).toArray; have hbel := Below.setRow (below_then (below_then b1 b2) b3) (g := w.heap.size) (Nat.le_refl _) (cs.map (Value.int .u64)).toArray; have c0 := X.cell (k := 0) (by omega)))
  clear c0
  go_loopw [3, 15] (fun ov i wr => ∃ (k : Nat), k ≤ 4 ∧ i = .int .i64 k ∧ ov = .int .u64 (ovS cs k) ∧ Arr .u64 wr w.heap.size cs ∧ Arr .u8 wr w1.heap.size (List.replicate 32 0) ∧ Below w.heap.size w wr) (fun _ i _ => 4 - (intOf i).toNat)
  case atStart => exact ⟨0, by omega, rfl, rfl, X, R, hbel⟩
  case round =>
    clear X R hbel
    obtain ⟨k, hk, rfl, rfl, X, R, hbel⟩ := hrel
    by_cases hlt : k < 4
    · have c1 := X.cell (k := k + 1) (by omega)
      have hck := hc (k + 1)
      have hok := ov_small hc k
      have wk := wrap_id (x := at0 cs (k + 1) + ovS cs k) (by omega) (by omega)
      go_wp2
      exact ⟨⟨k + 1, by omega, by go_num, rfl, X, R, hbel⟩, by simp [intOf]; omega⟩
    · obtain rfl : k = 4 := by omega
      have c0 := X.cell (k := 0) (by omega)
      have f0 := X.free (k := 0) (by omega)
      go_wp2
      clear c0 f0
      go_loopw [32] (fun i wr => ∃ (k : Nat) (zs : List Int), k ≤ 4 ∧ i = .int .i64 k ∧ Arr .u64 wr w.heap.size zs ∧ zs.length = 5 ∧ (∀ j, j < 5 → at0 zs j = if j < k then dS cs j else if j = k then yS cs j else at0 cs j) ∧ Arr .u8 wr w1.heap.size (List.replicate 32 0) ∧ Below w.heap.size w wr) (fun i _ => 4 - (intOf i).toNat)
      case atStart =>
        refine ⟨0, _, by omega, rfl, X.set _ _, by simp [hcl], fun j hj => ?_, R.setOther (by omega) _ _, hbel.setCell (Nat.le_refl _) _⟩
        rw [at0_set cs 0 j _ (by omega), if_neg (Nat.not_lt_zero _)]
        by_cases e : j = 0
        · rw [if_pos e, if_pos e, e]; rfl
        · rw [if_neg e, if_neg e]
      case round =>
        clear X R hbel
        obtain ⟨k, zs, hk, rfl, X, hz, hj, R, hbel⟩ := hrel
        by_cases hlt : k < 4
        · have e0 := hj k (by omega)
          rw [if_neg (Nat.lt_irrefl _), if_pos rfl] at e0
          have e1 := hj (k + 1) (by omega)
          rw [if_neg (by omega), if_neg (by omega)] at e1
          have c0 := X.cell (k := k) (by omega)
          have f0 := X.free (k := k) (by omega)
          have c1 := X.cell (k := k + 1) (by omega)
          have f1 := X.free (k := k + 1) (by omega)
          rw [e0] at c0
          rw [e1] at c1
          have hyk := y_small hc k
          have hck := hc (k + 1)
          have wk := wrap_id (x := at0 cs (k + 1) + yS cs k / 2251799813685248) (by omega) (by omega)
          have mk : bits BinOp.and IntKind.u64 (yS cs k) 2251799813685247 = dS cs k := mask51 (by omega)
          have HJ := Lib.hid hj
          clear hj e0 e1
          go_wp2
          go_region
          go_wp2
          refine ⟨⟨k + 1, (zs.set (k + 1) (yS cs (k + 1))).set k (dS cs k), by omega, by go_num, ((X.set _ _).drew).set _ _, by simp [hz], fun j hj' => ?_, ((R.setOther (by omega) _ _).drew).setOther (by omega) _ _, ((hbel.setCell (Nat.le_refl _) _).drew).setCell (Nat.le_refl _) _⟩, by simp [intOf]; omega⟩
          rw [at0_set _ k j _ (by simp; omega), at0_set zs (k + 1) j _ (by omega), HJ.out j hj']
          by_cases e : j = k
          · rw [if_pos e, if_pos (by omega), e]
          · rw [if_neg e]
            by_cases e2 : j = k + 1
            · rw [if_pos e2, if_neg (by omega), if_pos e2, e2]
            · rw [if_neg e2, if_neg e]
              by_cases e3 : j < k
              · rw [if_pos e3, if_pos (by omega)]
              · rw [if_neg e3, if_neg (by omega), if_neg e2]
        · obtain rfl : k = 4 := by omega
          have j0 := hj 0 (by omega); have j1 := hj 1 (by omega); have j2 := hj 2 (by omega); have j3 := hj 3 (by omega); have j4 := hj 4 (by omega)
          rw [if_pos (by omega)] at j0 j1 j2 j3
          rw [if_neg (by omega), if_pos rfl] at j4
          have m4 : bits BinOp.and IntKind.u64 (yS cs 4) 2251799813685247 = dS cs 4 := mask51 (by have := y_small hc 4; omega)
          have c0 := X.cell (k := 0) (by omega); have c1 := X.cell (k := 1) (by omega); have c2 := X.cell (k := 2) (by omega); have c3 := X.cell (k := 3) (by omega); have c4 := X.cell (k := 4) (by omega)
          rw [j0] at c0
          rw [j1] at c1
          rw [j2] at c2
          rw [j3] at c3
          rw [j4] at c4
          have f4 := X.free (k := 4) (by omega)
          have d0 := d_small cs 0; have d1 := d_small cs 1; have d2 := d_small cs 2; have d3 := d_small cs 3; have d4 := d_small cs 4
          have o0 := or_shl (dS cs 0) (dS cs 1) 51 (by omega) (by simp only [Int.reducePow]; omega) d1.1
          have o1 := or_shl (dS cs 1 / 8192) (dS cs 2) 38 (by omega) (by simp only [Int.reducePow]; omega) d2.1
          have o2 := or_shl (dS cs 2 / 67108864) (dS cs 3) 25 (by omega) (by simp only [Int.reducePow]; omega) d3.1
          have o3 := or_shl (dS cs 3 / 549755813888) (dS cs 4) 12 (by omega) (by simp only [Int.reducePow]; omega) d4.1
          simp only [Int.reducePow] at o0 o1 o2 o3
          have o3b := o3
          rw [wrap_id (by omega) (by omega)] at o3b
          have HW4 := Lib.hid hW4
          clear hj j0 j1 j2 j3 j4 hW4
          have X5 := X.set 4 (dS cs 4)
          have R5 := R.setOther (B' := w.heap.size) (by omega) 4 (.int .u64 (dS cs 4))
          have b5 := Below.setCell hbel (p := ⟨w.heap.size, 4, none⟩) (Nat.le_refl _) (.int .u64 (dS cs 4))
          clear hbel R X
          go_wp2_with (first
    | (with_reducible refine at_op (o := ⟨some 82, _, _, _, _, _⟩) ?_; refine wpList_buildI rfl 34 _ rfl .u64 (wdS cs) _ (built_a4 _ _ _ _) rfl ?_)
    | (with_reducible refine at_op (o := ⟨some 6, _, _, _, _, _⟩) ?_; go_loud (refine wpList_newI rfl rfl 34 6 _ rfl rfl rfl rfl .u64 4 zero_a4 info_a4 (by simp [put_size]) (wdS cs) (by simp) (by simp [Act.eval, Act.put]) rfl ?_); intro w6 B6 h6 l6 D b6; rw [HW4.out] at D; have R6 := R5.below b6; have hbel := below_then b5 b6)
    | (with_reducible refine at_op (o := ⟨some 7, _, _, _, _, _⟩) ?_; refine wpList_allocI rfl 22 rfl .u8 32 zero_a32 ?_; intro w7 A7 s7 b7; replace D := D.below b7; have R := R6.below b7; replace hbel := below_then hbel b7))
          go_loopw [83] (fun i wr => ∃ (k : Nat) (ys : List Int), k ≤ 32 ∧ i = .int .i64 k ∧ Arr .u64 wr B6 (numW 4 (valL cs % pV)) ∧ Arr .u8 wr w1.heap.size (List.replicate 32 0) ∧ Arr .u8 wr w6.heap.size ys ∧ ys.length = 32 ∧ (∀ j, j < k → at0 ys j = wbyte (numW 4 (valL cs % pV)) j) ∧ Below w.heap.size w wr) (fun i _ => 32 - (intOf i).toNat)
          case atStart => exact ⟨0, _, by omega, rfl, D, R, A7, by simp, fun j hj => by omega, hbel⟩
          case round =>
            have hB6 : B6 < w6.heap.size := l6
            have hR6 : w1.heap.size < w6.heap.size := Nat.lt_of_lt_of_le (Nat.lt_of_lt_of_le R5.lt h6) (Nat.le_of_lt l6)
            have hx6 : w.heap.size ≤ w6.heap.size := Nat.le_of_lt (Nat.lt_of_lt_of_le s1 (Nat.le_of_lt hR6))
            have hw6 := numW_words 4 (valL cs % pV)
            clear D R A7 hbel R6 R5 X5 b5 c0 c1 c2 c3 c4 f4
            generalize hNW : numW 4 (valL cs % pV) = ws at *
            have hwl : ws.length = 4 := by rw [← hNW]; exact numW_length _ _
            obtain ⟨k, ys, hk, rfl, A, R, D, hy, hj, hbel⟩ := hrel
            by_cases hlt : k < 32
            · have c0 := A.cell (k := k / 8) (by omega)
              have c1 := D.cell (k := k) (by omega)
              have f0 := D.free (k := k) (by omega)
              have w0 := hw6.at (k / 8)
              have HJ := Lib.hid hj
              clear hj
              go_wp2
              refine ⟨⟨k + 1, ys.set k (wbyte ws k), by omega, by go_num, A.setOther (by omega) _ _, R.setOther (by omega) _ _, D.set k _, by simp [hy], fun j hj' => ?_, hbel.setCell hx6 _⟩, by simp [intOf]; omega⟩
              rw [at0_set ys k j _ (by omega)]
              by_cases e : j = k
              · rw [if_pos e, e]
              · rw [if_neg e]; exact HJ.out j (by omega)
            · obtain rfl : k = 32 := by omega
              have hys : ys = numB (valL cs % pV) := by
                unfold numB
                rw [hNW]
                apply eq_of_all (by simp [bytesS, hy])
                intro j h
                rw [hj j (by omega)]
                simp [bytesS, at0, show j < 32 by omega]
              subst hys
              clear hj
              go_wp2_with (first
    | (with_reducible refine at_op (o := ⟨some 98, _, _, _, _, _⟩) ?_; refine wpList_loadI rfl 22 _ rfl 32 5 und_a32 info_a32 (w6.heap.size) rfl .u8 (numB (valL cs % pV)) (D) (numB_length _) ?_)
    | (with_reducible refine at_op (o := ⟨_, .store 22 _ _, _, _, _, _⟩) ?_; refine wpList_storeI rfl 22 _ _ rfl 32 info_a32 (w1.heap.size) rfl .u8 _ (numB (valL cs % pV)) rfl (R) (rfl) (numB_length _) ?_; intro A9))
              refine bodyPost_ret (results_cellI rfl _ 32 5 und_a32 info_a32 (w1.heap.size) rfl .u8 _ A9 (numB_length _)) rfl ?_
              exact ⟨rfl, Below.setRow hbel (by omega) _⟩
end Go.Proofs.YtlhloldjlfcchaaDoor
