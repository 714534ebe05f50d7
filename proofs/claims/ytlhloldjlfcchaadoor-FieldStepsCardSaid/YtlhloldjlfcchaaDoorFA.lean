/- Numbers of five limbs: carried, sums, differences. -/
import Derived.Test.YtlhloldjlfcchaaDoorFMath
import Derived.Test.YtlhloldjlfcchaaDoorFNum
import Derived.Test.YtlhloldjlfcchaaDoorArrEq
namespace Go.Proofs.YtlhloldjlfcchaaDoor
open Go.RowKit Go.Shelf
set_option linter.unusedVariables false
set_option maxRecDepth 4000

theorem und_limbs : Tryd.prog.underlying 38 = some (.array 5 33) := by kernel_rfl
theorem info_limbs : (Tryd.prog.info? 38).map (·.size) = some 5 := by kernel_rfl
theorem zero_limbs : (Tryd.prog.info? 38).bind (·.zero) = some (.agg (Array.replicate 5 (Value.int .u64 0))) := by kernel_rfl
theorem built_limbs (a b c d e : Int) : Tryd.prog.built 38 [(0, .int .u64 a), (1, .int .u64 b), (2, .int .u64 c), (3, .int .u64 d), (4, .int .u64 e)] = some (([a, b, c, d, e] : List Int).map (Value.int .u64)).toArray := by kernel_rfl
theorem mask51 {x : Int} (h : 0 ≤ x ∧ x < 18446744073709551616) : bits BinOp.and IntKind.u64 x 2251799813685247 = x % 2251799813685248 := by
  have h2 := u64_and_mask x 51 2251799813685247 (by decide) (by decide) h.1 h.2
  simp only [Int.reducePow] at h2
  exact h2
theorem wrap_id {x : Int} (h0 : 0 ≤ x) (h1 : x < 18446744073709551616) : IntKind.u64.wrap x = x := by rw [wrap_u64_eq]; omega

set_option maxHeartbeats 2000000 in
theorem carried_any (xs : List Int) (w : World) (hx : Words xs) (hl : xs.length = 5) :
    Calls Tryd.prog 47 #[aggI .u64 xs] w fun e w' => e = .returned (aggI .u64 (carriedS xs)) ∧ Below w.heap.size w w' := by
  have x0 := hx.at 0; have x1 := hx.at 1; have x2 := hx.at 2; have x3 := hx.at 3; have x4 := hx.at 4
  have m0 := mask51 x0; have m1 := mask51 x1; have m2 := mask51 x2; have m3 := mask51 x3; have m4 := mask51 x4
  have wm := wrap_id (x := at0 xs 4 / 2251799813685248 * 19) (by omega) (by omega)
  have w0 := wrap_id (x := at0 xs 0 % 2251799813685248 + at0 xs 4 / 2251799813685248 * 19) (by omega) (by omega)
  have w1 := wrap_id (x := at0 xs 1 % 2251799813685248 + at0 xs 0 / 2251799813685248) (by omega) (by omega)
  have w2 := wrap_id (x := at0 xs 2 % 2251799813685248 + at0 xs 1 / 2251799813685248) (by omega) (by omega)
  have w3 := wrap_id (x := at0 xs 3 % 2251799813685248 + at0 xs 2 / 2251799813685248) (by omega) (by omega)
  have w4 := wrap_id (x := at0 xs 4 % 2251799813685248 + at0 xs 3 / 2251799813685248) (by omega) (by omega)
  go_enter Tryd.func47, Tryd.ntmps47
  go_wp2_with (first
    | (with_reducible refine at_op (o := ⟨some 1, _, _, _, _, _⟩) ?_; refine wpList_boxI rfl 38 _ rfl .u64 xs rfl ?_; intro w1 A1 s1 b1)
    | (with_reducible refine at_op (o := ⟨some 2, _, _, _, _, _⟩) ?_; refine wpList_allocI rfl 38 rfl .u64 5 zero_limbs ?_; intro w2 A2 s2 b2; have X2 := A1.below b2))
  have c0 := X2.cell (k := 0) (by omega); have c1 := X2.cell (k := 1) (by omega); have c2 := X2.cell (k := 2) (by omega); have c3 := X2.cell (k := 3) (by omega); have c4 := X2.cell (k := 4) (by omega)
  go_quiet (fail)
  have R3 := A2.drewN nq
  go_wp2_with (first
    | (with_reducible refine at_op (o := ⟨some 49, _, _, _, _, _⟩) ?_; refine wpList_buildI rfl 38 _ rfl .u64 (carriedS xs) _ (built_limbs _ _ _ _ _) rfl ?_)
    | (with_reducible refine at_op (o := ⟨_, .store 38 _ _, _, _, _, _⟩) ?_; refine wpList_storeI rfl 38 _ _ rfl 5 info_limbs (w1.heap.size) rfl .u64 _ (carriedS xs) rfl (R3) (rfl) (rfl) ?_; intro A9))
  refine bodyPost_ret (results_cellI rfl _ 5 33 und_limbs info_limbs (w1.heap.size) rfl .u64 _ A9 rfl) rfl ?_
  exact ⟨rfl, Below.setRow (below_drewN (below_then b1 b2) _) (by omega) _⟩

set_option maxHeartbeats 2000000 in
theorem plus_any (xs ys : List Int) (w : World) (hx : Small xs) (hy : Small ys) (hl : xs.length = 5) (hm : ys.length = 5) :
    Calls Tryd.prog 30 #[aggI .u64 xs, aggI .u64 ys] w fun e w' => e = .returned (aggI .u64 (carriedS (plusL xs ys))) ∧ Below w.heap.size w w' := by
  go_enter Tryd.func30, Tryd.ntmps30
  go_wp2_with (first
    | (with_reducible refine at_op (o := ⟨some 2, _, _, _, _, _⟩) ?_; refine wpList_boxI rfl 38 _ rfl .u64 xs rfl ?_; intro w1 A1 s1 b1)
    | (with_reducible refine at_op (o := ⟨some 3, _, _, _, _, _⟩) ?_; refine wpList_boxI rfl 38 _ rfl .u64 ys rfl ?_; intro w2 A2 s2 b2; have X2 := A1.below b2)
    | (with_reducible refine at_op (o := ⟨some 4, _, _, _, _, _⟩) ?_; refine wpList_allocI rfl 38 rfl .u64 5 zero_limbs ?_; intro w3 A3 s3 b3; have X3 := X2.below b3; have Y3 := A2.below b3))
  go_loopw [6] (fun i wr => ∃ (k : Nat) (zs : List Int), k ≤ 5 ∧ i = .int .i64 k ∧ Arr .u64 wr w.heap.size zs ∧ zs.length = 5 ∧ (∀ j, j < 5 → at0 zs j = if j < k then at0 xs j + at0 ys j else at0 xs j) ∧ Arr .u64 wr w1.heap.size ys ∧ Arr .u64 wr w2.heap.size (List.replicate 5 0) ∧ Below w.heap.size w wr) (fun i _ => 5 - (intOf i).toNat)
  case atStart => exact ⟨0, xs, by omega, rfl, X3, hl, fun j hj => by simp, Y3, A3, below_then (below_then b1 b2) b3⟩
  case round =>
    obtain ⟨k, zs, hk, rfl, A, hz, hj, B, R, hbel⟩ := hrel
    by_cases hlt : k < 5
    · have ek := hj k hlt
      rw [if_neg (Nat.lt_irrefl _)] at ek
      have c0 := A.cell (k := k) (by omega)
      have f0 := A.free (k := k) (by omega)
      have c1 := B.cell (k := k) (by omega)
      rw [ek] at c0
      have hxk := hx k
      have hyk := hy k
      have wk := wrap_id (x := at0 xs k + at0 ys k) (by omega) (by omega)
      have HJ := Lib.hid hj
      clear hj ek
      go_wp2
      go_region
      go_wp2
      refine ⟨⟨k + 1, _, by omega, by go_num, (A.set _ _).drew, by simp [hz], fun j hj' => ?_, (B.setOther (by omega) _ _).drew, (R.setOther (by omega) _ _).drew, (hbel.setCell (Nat.le_refl _) _).drew⟩, by simp [intOf]; omega⟩
      rw [at0_set zs k j _ (by omega)]
      by_cases e : j = k
      · rw [if_pos e, if_pos (by omega), e]
      · rw [if_neg e, HJ.out j hj']
        by_cases e2 : j < k
        · rw [if_pos e2, if_pos (by omega)]
        · rw [if_neg e2, if_neg (by omega)]
    · obtain rfl : k = 5 := by omega
      have hzs : zs = plusL xs ys := by
        apply eq_of_all (by rw [hz]; rfl)
        intro j h
        rw [hj j (by omega), if_pos (by omega)]
        obtain rfl | rfl | rfl | rfl | rfl : j = 0 ∨ j = 1 ∨ j = 2 ∨ j = 3 ∨ j = 4 := by omega
        all_goals rfl
      subst hzs
      clear hj
      go_wp2_with (first
    | (with_reducible refine at_op (o := ⟨some 18, _, _, _, _, _⟩) ?_; refine wpList_loadI rfl 38 _ rfl 5 33 und_limbs info_limbs (w.heap.size) rfl .u64 (plusL xs ys) (A) (rfl) ?_)
    | (go_at_call 47; refine (carried_any _ _ (plusL_words hx hy) rfl).mono ?_; rintro e w5 ⟨rfl, b5⟩; replace R := R.below b5; replace hbel := below_then hbel b5)
    | (with_reducible refine at_op (o := ⟨_, .store 38 _ _, _, _, _, _⟩) ?_; refine wpList_storeI rfl 38 _ _ rfl 5 info_limbs (w2.heap.size) rfl .u64 _ (carriedS (plusL xs ys)) rfl (R) (rfl) (rfl) ?_; intro A9))
      refine bodyPost_ret (results_cellI rfl _ 5 33 und_limbs info_limbs (w2.heap.size) rfl .u64 _ A9 rfl) rfl ?_
      exact ⟨rfl, Below.setRow hbel (by omega) _⟩

set_option maxHeartbeats 2000000 in
theorem minus_any (xs ys : List Int) (w : World) (hx : Small xs) (hy : Small ys) (hl : xs.length = 5) (hm : ys.length = 5) :
    Calls Tryd.prog 35 #[aggI .u64 xs, aggI .u64 ys] w fun e w' => e = .returned (aggI .u64 (carriedS (minusL xs ys))) ∧ Below w.heap.size w w' := by
  have hx0 := hx 0
  have hy0 := hy 0
  have wa := wrap_id (x := 4503599627370458 - at0 ys 0) (by omega) (by omega)
  have wb := wrap_id (x := at0 xs 0 + (4503599627370458 - at0 ys 0)) (by omega) (by omega)
  go_enter Tryd.func35, Tryd.ntmps35
  go_wp2_with (first
    | (with_reducible refine at_op (o := ⟨some 2, _, _, _, _, _⟩) ?_; refine wpList_boxI rfl 38 _ rfl .u64 xs rfl ?_; intro w1 A1 s1 b1)
    | (with_reducible refine at_op (o := ⟨some 3, _, _, _, _, _⟩) ?_; refine wpList_boxI rfl 38 _ rfl .u64 ys rfl ?_; intro w2 A2 s2 b2; have X2 := A1.below b2)
    | (with_reducible refine at_op (o := ⟨some 4, _, _, _, _, _⟩) ?_; refine wpList_allocI rfl 38 rfl .u64 5 zero_limbs ?_; intro w3 A3 s3 b3; have X3 := X2.below b3; have Y3 := A2.below b3; have c0 := X3.cell (k := 0) (by omega); have f0 := X3.free (k := 0) (by omega); have d0 := Y3.cell (k := 0) (by omega)))
  clear c0 f0 d0
  go_loopw [13] (fun i wr => ∃ (k : Nat) (zs : List Int), k ≤ 4 ∧ i = .int .i64 k ∧ Arr .u64 wr w.heap.size zs ∧ zs.length = 5 ∧ (∀ j, j < 5 → at0 zs j = if j < k + 1 then at0 (minusL xs ys) j else at0 xs j) ∧ Arr .u64 wr w1.heap.size ys ∧ Arr .u64 wr w2.heap.size (List.replicate 5 0) ∧ Below w.heap.size w wr) (fun i _ => 4 - (intOf i).toNat)
  case atStart =>
    refine ⟨0, _, by omega, rfl, X3.set _ _, by simp [hl], fun j hj => ?_, Y3.setOther (by omega) _ _, A3.setOther (by omega) _ _, (below_then (below_then b1 b2) b3).setCell (Nat.le_refl _) _⟩
    rw [at0_set xs 0 j _ (by omega)]
    by_cases e : j = 0
    · rw [if_pos e, if_pos (by omega), e]; rfl
    · rw [if_neg e, if_neg (by omega)]
  case round =>
    obtain ⟨k, zs, hk, rfl, A, hz, hj, B, R, hbel⟩ := hrel
    by_cases hlt : k < 4
    · have ek := hj (k + 1) (by omega)
      rw [if_neg (by omega)] at ek
      have c0 := A.cell (k := k + 1) (by omega)
      have f0 := A.free (k := k + 1) (by omega)
      have c1 := B.cell (k := k + 1) (by omega)
      rw [ek] at c0
      have hxk := hx (k + 1)
      have hyk := hy (k + 1)
      have wk := wrap_id (x := 4503599627370494 - at0 ys (k + 1)) (by omega) (by omega)
      have wl := wrap_id (x := at0 xs (k + 1) + (4503599627370494 - at0 ys (k + 1))) (by omega) (by omega)
      have em : at0 (minusL xs ys) (k + 1) = at0 xs (k + 1) + (4503599627370494 - at0 ys (k + 1)) := by
        obtain rfl | rfl | rfl | rfl : k = 0 ∨ k = 1 ∨ k = 2 ∨ k = 3 := by omega
        all_goals rfl
      have HJ := Lib.hid hj
      have HM := Lib.hid em
      clear hj ek em
      go_wp2
      go_region
      go_wp2
      refine ⟨⟨k + 1, _, by omega, by go_num, (A.set _ _).drew, by simp [hz], fun j hj' => ?_, (B.setOther (by omega) _ _).drew, (R.setOther (by omega) _ _).drew, (hbel.setCell (Nat.le_refl _) _).drew⟩, by simp [intOf]; omega⟩
      rw [at0_set zs (k + 1) j _ (by omega)]
      by_cases e : j = k + 1
      · rw [if_pos e, if_pos (by omega), e, HM.out]
      · rw [if_neg e, HJ.out j hj']
        by_cases e2 : j < k + 1
        · rw [if_pos e2, if_pos (by omega)]
        · rw [if_neg e2, if_neg (by omega)]
    · obtain rfl : k = 4 := by omega
      have hzs : zs = minusL xs ys := by
        apply eq_of_all (by rw [hz]; rfl)
        intro j h
        rw [hj j (by omega), if_pos (by omega)]
      subst hzs
      clear hj
      go_wp2_with (first
    | (with_reducible refine at_op (o := ⟨some 28, _, _, _, _, _⟩) ?_; refine wpList_loadI rfl 38 _ rfl 5 33 und_limbs info_limbs (w.heap.size) rfl .u64 (minusL xs ys) (A) (rfl) ?_)
    | (go_at_call 47; refine (carried_any _ _ (minusL_words hx hy) rfl).mono ?_; rintro e w5 ⟨rfl, b5⟩; replace R := R.below b5; replace hbel := below_then hbel b5)
    | (with_reducible refine at_op (o := ⟨_, .store 38 _ _, _, _, _, _⟩) ?_; refine wpList_storeI rfl 38 _ _ rfl 5 info_limbs (w2.heap.size) rfl .u64 _ (carriedS (minusL xs ys)) rfl (R) (rfl) (rfl) ?_; intro A9))
      refine bodyPost_ret (results_cellI rfl _ 5 33 und_limbs info_limbs (w2.heap.size) rfl .u64 _ A9 rfl) rfl ?_
      exact ⟨rfl, Below.setRow hbel (by omega) _⟩
end Go.Proofs.YtlhloldjlfcchaaDoor
