/- Merged: Numbers of five limbs: carried, sums, differences. Numbers of five limbs: loaded; sums of 128 bits. Numbers of five limbs: products. Numbers of five limbs: as bytes. Numbers of five limbs: powers. -/
import Derived.Test.YtelppapkffjmpaaDoorShelf
import Derived.Test.YtelppapkffjmpaaDoorQMB
import Derived.Test.YtelppapkffjmpaaDoorQMA
section
namespace Go.Proofs.YtelppapkffjmpaaDoor
open Go.RowKit Go.Shelf
set_option linter.unusedVariables false
set_option maxRecDepth 4000

theorem und_limbs : Tryd.prog.underlying 42 = some (.array 5 34) := by kernel_rfl
theorem info_limbs : (Tryd.prog.info? 42).map (·.size) = some 5 := by kernel_rfl
theorem zero_limbs : (Tryd.prog.info? 42).bind (·.zero) = some (.agg (Array.replicate 5 (Value.int .u64 0))) := by kernel_rfl
theorem built_limbs (a b c d e : Int) : Tryd.prog.built 42 [(0, .int .u64 a), (1, .int .u64 b), (2, .int .u64 c), (3, .int .u64 d), (4, .int .u64 e)] = some (([a, b, c, d, e] : List Int).map (Value.int .u64)).toArray := by kernel_rfl
theorem mask51 {x : Int} (h : 0 ≤ x ∧ x < 18446744073709551616) : bits BinOp.and IntKind.u64 x 2251799813685247 = x % 2251799813685248 := by
  have h2 := u64_and_mask x 51 2251799813685247 (by decide) (by decide) h.1 h.2
  simp only [Int.reducePow] at h2
  exact h2
theorem wrap_id {x : Int} (h0 : 0 ≤ x) (h1 : x < 18446744073709551616) : IntKind.u64.wrap x = x := by rw [wrap_u64_eq]; omega

set_option maxHeartbeats 2000000 in
theorem carried_any (xs : List Int) (w : World) (hx : Words xs) (hl : xs.length = 5) :
    Calls Tryd.prog 83 #[aggI .u64 xs] w fun e w' => e = .returned (aggI .u64 (carriedS xs)) ∧ Below w.heap.size w w' := by
  have x0 := hx.at 0; have x1 := hx.at 1; have x2 := hx.at 2; have x3 := hx.at 3; have x4 := hx.at 4
  have m0 := mask51 x0; have m1 := mask51 x1; have m2 := mask51 x2; have m3 := mask51 x3; have m4 := mask51 x4
  have wm := wrap_id (x := at0 xs 4 / 2251799813685248 * 19) (by omega) (by omega)
  have w0 := wrap_id (x := at0 xs 0 % 2251799813685248 + at0 xs 4 / 2251799813685248 * 19) (by omega) (by omega)
  have w1 := wrap_id (x := at0 xs 1 % 2251799813685248 + at0 xs 0 / 2251799813685248) (by omega) (by omega)
  have w2 := wrap_id (x := at0 xs 2 % 2251799813685248 + at0 xs 1 / 2251799813685248) (by omega) (by omega)
  have w3 := wrap_id (x := at0 xs 3 % 2251799813685248 + at0 xs 2 / 2251799813685248) (by omega) (by omega)
  have w4 := wrap_id (x := at0 xs 4 % 2251799813685248 + at0 xs 3 / 2251799813685248) (by omega) (by omega)
  go_enter Tryd.func83, Tryd.ntmps83
  go_wp2_with (first
    | (with_reducible refine at_n 1 ?_; refine wpList_boxI rfl 42 _ rfl .u64 xs rfl ?_; intro w1 A1 s1 b1)
    | (with_reducible refine at_n 2 ?_; refine wpList_allocI rfl 42 rfl .u64 5 zero_limbs ?_; intro w2 A2 s2 b2; have X2 := A1.below b2))
  have c0 := X2.cell (k := 0) (by omega); have c1 := X2.cell (k := 1) (by omega); have c2 := X2.cell (k := 2) (by omega); have c3 := X2.cell (k := 3) (by omega); have c4 := X2.cell (k := 4) (by omega)
  go_quiet (fail)
  have R3 := A2.drewN nq
  go_wp2_with (first
    | (with_reducible refine at_n 49 ?_; refine wpList_buildI rfl 42 _ rfl .u64 (carriedS xs) _ (built_limbs _ _ _ _ _) rfl ?_)
    | (with_reducible refine at_op (o := ⟨_, .store 42 _ _, _, _, _, _⟩) ?_; refine wpList_storeI rfl 42 _ _ rfl 5 info_limbs (w1.heap.size) rfl .u64 _ (carriedS xs) rfl (R3) (rfl) (rfl) ?_; intro A9))
  refine bodyPost_ret (results_cellI rfl _ 5 34 und_limbs info_limbs (w1.heap.size) rfl .u64 _ A9 rfl) rfl ?_
  exact ⟨rfl, Below.setRow (below_drewN (below_then b1 b2) _) (by omega) _⟩

set_option maxHeartbeats 2000000 in
theorem plus_any (xs ys : List Int) (w : World) (hx : Small xs) (hy : Small ys) (hl : xs.length = 5) (hm : ys.length = 5) :
    Calls Tryd.prog 51 #[aggI .u64 xs, aggI .u64 ys] w fun e w' => e = .returned (aggI .u64 (carriedS (plusL xs ys))) ∧ Below w.heap.size w w' := by
  go_enter Tryd.func51, Tryd.ntmps51
  go_wp2_with (first
    | (with_reducible refine at_n 2 ?_; refine wpList_boxI rfl 42 _ rfl .u64 xs rfl ?_; intro w1 A1 s1 b1)
    | (with_reducible refine at_n 3 ?_; refine wpList_boxI rfl 42 _ rfl .u64 ys rfl ?_; intro w2 A2 s2 b2; have X2 := A1.below b2)
    | (with_reducible refine at_n 4 ?_; refine wpList_allocI rfl 42 rfl .u64 5 zero_limbs ?_; intro w3 A3 s3 b3; have X3 := X2.below b3; have Y3 := A2.below b3))
  go_loopw [6] (fun i wr => ∃ (k : Nat) (zs : List Int), k ≤ 5 ∧ i = .int .i64 k ∧ Arr .u64 wr w.heap.size zs ∧ zs.length = 5 ∧ (∀ j, j < 5 → at0 zs j = if j < k then at0 xs j + at0 ys j else at0 xs j) ∧ Arr .u64 wr w1.heap.size ys ∧ Arr .u64 wr w2.heap.size (List.replicate 5 0) ∧ Below w.heap.size w wr) (fun i _ => 5 - (intOf i).toNat)
  case atStart => exact ⟨0, xs, by omega, rfl, X3, hl, fun j hj => by simp, Y3, A3, below_then (below_then b1 b2) b3⟩
  case round =>
    obtain ⟨k, zs, hk, rfl, A, hz, hj, B, R, hbel⟩ := hrel
    by_cases hlt : k < 5
    · have ek := hj k hlt
      rw [if_neg (Nat.lt_irrefl _)] at ek
      have c0 := A.cell (k := k) (by omega)
      have f0 := A.free (k := k) (by omega)
      have c1 := B.cell (k := k) (by omega)
      rw [ek] at c0
      have hxk := hx k
      have hyk := hy k
      have wk := wrap_id (x := at0 xs k + at0 ys k) (by omega) (by omega)
      have HJ := Lib.hid hj
      clear hj ek
      go_wp2
      go_region
      go_wp2
      refine ⟨⟨k + 1, _, by omega, by go_num, (A.set _ _).drew, by simp [hz], fun j hj' => ?_, (B.setOther (by omega) _ _).drew, (R.setOther (by omega) _ _).drew, (hbel.setCell (Nat.le_refl _) _).drew⟩, by simp [intOf]; omega⟩
      rw [at0_set zs k j _ (by omega)]
      by_cases e : j = k
      · rw [if_pos e, if_pos (by omega), e]
      · rw [if_neg e, HJ.out j hj']
        by_cases e2 : j < k
        · rw [if_pos e2, if_pos (by omega)]
        · rw [if_neg e2, if_neg (by omega)]
    · obtain rfl : k = 5 := by omega
      have hzs : zs = plusL xs ys := by
        apply eq_of_all (by rw [hz]; rfl)
        intro j h
        rw [hj j (by omega), if_pos (by omega)]
        obtain rfl | rfl | rfl | rfl | rfl : j = 0 ∨ j = 1 ∨ j = 2 ∨ j = 3 ∨ j = 4 := by omega
        all_goals rfl
      subst hzs
      clear hj
      go_wp2_with (first
    | (with_reducible refine at_n 18 ?_; refine wpList_loadI rfl 42 _ rfl 5 34 und_limbs info_limbs (w.heap.size) rfl .u64 (plusL xs ys) (A) (rfl) ?_)
    | (go_at_call 83; refine (carried_any _ _ (plusL_words hx hy) rfl).mono ?_; rintro e w5 ⟨rfl, b5⟩; replace R := R.below b5; replace hbel := below_then hbel b5)
    | (with_reducible refine at_op (o := ⟨_, .store 42 _ _, _, _, _, _⟩) ?_; refine wpList_storeI rfl 42 _ _ rfl 5 info_limbs (w2.heap.size) rfl .u64 _ (carriedS (plusL xs ys)) rfl (R) (rfl) (rfl) ?_; intro A9))
      refine bodyPost_ret (results_cellI rfl _ 5 34 und_limbs info_limbs (w2.heap.size) rfl .u64 _ A9 rfl) rfl ?_
      exact ⟨rfl, Below.setRow hbel (by omega) _⟩

set_option maxHeartbeats 2000000 in
theorem minus_any (xs ys : List Int) (w : World) (hx : Small xs) (hy : Small ys) (hl : xs.length = 5) (hm : ys.length = 5) :
    Calls Tryd.prog 53 #[aggI .u64 xs, aggI .u64 ys] w fun e w' => e = .returned (aggI .u64 (carriedS (minusL xs ys))) ∧ Below w.heap.size w w' := by
  have hx0 := hx 0
  have hy0 := hy 0
  have wa := wrap_id (x := 4503599627370458 - at0 ys 0) (by omega) (by omega)
  have wb := wrap_id (x := at0 xs 0 + (4503599627370458 - at0 ys 0)) (by omega) (by omega)
  go_enter Tryd.func53, Tryd.ntmps53
  go_wp2_with (first
    | (with_reducible refine at_n 2 ?_; refine wpList_boxI rfl 42 _ rfl .u64 xs rfl ?_; intro w1 A1 s1 b1)
    | (with_reducible refine at_n 3 ?_; refine wpList_boxI rfl 42 _ rfl .u64 ys rfl ?_; intro w2 A2 s2 b2; have X2 := A1.below b2)
    | (with_reducible refine at_n 4 ?_; refine wpList_allocI rfl 42 rfl .u64 5 zero_limbs ?_; intro w3 A3 s3 b3; have X3 := X2.below b3; have Y3 := A2.below b3; have c0 := X3.cell (k := 0) (by omega); have f0 := X3.free (k := 0) (by omega); have d0 := Y3.cell (k := 0) (by omega)))
  clear c0 f0 d0
  go_loopw [13] (fun i wr => ∃ (k : Nat) (zs : List Int), k ≤ 4 ∧ i = .int .i64 k ∧ Arr .u64 wr w.heap.size zs ∧ zs.length = 5 ∧ (∀ j, j < 5 → at0 zs j = if j < k + 1 then at0 (minusL xs ys) j else at0 xs j) ∧ Arr .u64 wr w1.heap.size ys ∧ Arr .u64 wr w2.heap.size (List.replicate 5 0) ∧ Below w.heap.size w wr) (fun i _ => 4 - (intOf i).toNat)
  case atStart =>
    refine ⟨0, _, by omega, rfl, X3.set _ _, by simp [hl], fun j hj => ?_, Y3.setOther (by omega) _ _, A3.setOther (by omega) _ _, (below_then (below_then b1 b2) b3).setCell (Nat.le_refl _) _⟩
    rw [at0_set xs 0 j _ (by omega)]
    by_cases e : j = 0
    · rw [if_pos e, if_pos (by omega), e]; rfl
    · rw [if_neg e, if_neg (by omega)]
  case round =>
    obtain ⟨k, zs, hk, rfl, A, hz, hj, B, R, hbel⟩ := hrel
    by_cases hlt : k < 4
    · have ek := hj (k + 1) (by omega)
      rw [if_neg (by omega)] at ek
      have c0 := A.cell (k := k + 1) (by omega)
      have f0 := A.free (k := k + 1) (by omega)
      have c1 := B.cell (k := k + 1) (by omega)
      rw [ek] at c0
      have hxk := hx (k + 1)
      have hyk := hy (k + 1)
      have wk := wrap_id (x := 4503599627370494 - at0 ys (k + 1)) (by omega) (by omega)
      have wl := wrap_id (x := at0 xs (k + 1) + (4503599627370494 - at0 ys (k + 1))) (by omega) (by omega)
      have em : at0 (minusL xs ys) (k + 1) = at0 xs (k + 1) + (4503599627370494 - at0 ys (k + 1)) := by
        obtain rfl | rfl | rfl | rfl : k = 0 ∨ k = 1 ∨ k = 2 ∨ k = 3 := by omega
        all_goals rfl
      have HJ := Lib.hid hj
      have HM := Lib.hid em
      clear hj ek em
      go_wp2
      go_region
      go_wp2
      refine ⟨⟨k + 1, _, by omega, by go_num, (A.set _ _).drew, by simp [hz], fun j hj' => ?_, (B.setOther (by omega) _ _).drew, (R.setOther (by omega) _ _).drew, (hbel.setCell (Nat.le_refl _) _).drew⟩, by simp [intOf]; omega⟩
      rw [at0_set zs (k + 1) j _ (by omega)]
      by_cases e : j = k + 1
      · rw [if_pos e, if_pos (by omega), e, HM.out]
      · rw [if_neg e, HJ.out j hj']
        by_cases e2 : j < k + 1
        · rw [if_pos e2, if_pos (by omega)]
        · rw [if_neg e2, if_neg (by omega)]
    · obtain rfl : k = 4 := by omega
      have hzs : zs = minusL xs ys := by
        apply eq_of_all (by rw [hz]; rfl)
        intro j h
        rw [hj j (by omega), if_pos (by omega)]
      subst hzs
      clear hj
      go_wp2_with (first
    | (with_reducible refine at_n 28 ?_; refine wpList_loadI rfl 42 _ rfl 5 34 und_limbs info_limbs (w.heap.size) rfl .u64 (minusL xs ys) (A) (rfl) ?_)
    | (go_at_call 83; refine (carried_any _ _ (minusL_words hx hy) rfl).mono ?_; rintro e w5 ⟨rfl, b5⟩; replace R := R.below b5; replace hbel := below_then hbel b5)
    | (with_reducible refine at_op (o := ⟨_, .store 42 _ _, _, _, _, _⟩) ?_; refine wpList_storeI rfl 42 _ _ rfl 5 info_limbs (w2.heap.size) rfl .u64 _ (carriedS (minusL xs ys)) rfl (R) (rfl) (rfl) ?_; intro A9))
      refine bodyPost_ret (results_cellI rfl _ 5 34 und_limbs info_limbs (w2.heap.size) rfl .u64 _ A9 rfl) rfl ?_
      exact ⟨rfl, Below.setRow hbel (by omega) _⟩
end Go.Proofs.YtelppapkffjmpaaDoor
end
section
namespace Go.Proofs.YtelppapkffjmpaaDoor
open Go.RowKit Go.Shelf
set_option linter.unusedVariables false
set_option maxRecDepth 4000

set_option maxHeartbeats 2000000 in
theorem word_any (za : List Int) (B j : Nat) (w : World) (hz : Arr .u8 w B za) (hb : Bytes za) (hl : za.length = 32) (hj : j < 4) :
    Calls Tryd.prog 89 #[.pointer (some ⟨B, 0, none⟩), .int .i64 ((8 * j : Nat) : Int)] w fun e w' => e = .returned (.int .u64 (partW za j 8)) ∧ w = w' := by
  have hj4 : (j : Int) < 4 := by omega
  go_enter Tryd.func89, Tryd.ntmps89
  go_wp2
  go_loopw [5, 7] (fun x i wr => ∃ (k : Nat), k ≤ 8 ∧ i = .int .i64 k ∧ x = .int .u64 (partW za j k) ∧ w = wr) (fun _ i _ => 8 - (intOf i).toNat)
  case atStart => exact ⟨0, by omega, rfl, rfl, rfl⟩
  case round =>
    obtain ⟨k, hk, rfl, rfl, rfl⟩ := hrel
    by_cases hlt : k < 8
    · have c0 := hz.cell (k := 8 * j + k) (by omega)
      have ho := or_byte (partW za j k) (at0 za (8 * j + k)) k hlt (partW_lt za hb _ _ (by omega)) (hb.at (8 * j + k))
      have hw : IntKind.u64.wrap (at0 za (8 * j + k)) = at0 za (8 * j + k) := by have := hb.at (8 * j + k); rw [wrap_u64_eq]; omega
      go_wp2
      refine ⟨⟨k + 1, by omega, by go_num, ?_⟩, by simp [intOf]; omega⟩
      simp [partW]
    · obtain rfl : k = 8 := by omega
      go_wp2
      go_ret
      exact ⟨rfl, rfl⟩

def loadL (za : List Int) : List Int :=
  [partW za 0 8 % 2251799813685248, (partW za 0 8 / 2251799813685248 + partW za 1 8 * 8192) % 2251799813685248, (partW za 1 8 / 274877906944 + partW za 2 8 * 67108864) % 2251799813685248,
   (partW za 2 8 / 33554432 + partW za 3 8 * 549755813888) % 2251799813685248, partW za 3 8 / 4096]
theorem part_word (za : List Int) (hb : Bytes za) (j : Nat) : 0 ≤ partW za j 8 ∧ partW za j 8 < 18446744073709551616 := by
  have := partW_lt za hb j 8 (Nat.le_refl _)
  simp only [Nat.reduceMul, Int.reducePow] at this
  exact this
theorem loadL_words (za : List Int) (hb : Bytes za) : Words (loadL za) := by
  have h0 := part_word za hb 0; have h1 := part_word za hb 1; have h2 := part_word za hb 2; have h3 := part_word za hb 3
  exact words_of5 (by omega) (by omega) (by omega) (by omega) (by omega)
theorem loadL_fel (za : List Int) (hb : Bytes za) : Fel (carriedS (loadL za)) (valB za 32 % pV) := by
  have h := carried_fel _ (loadL_words za hb)
  have h0 := part_word za hb 0; have h1 := part_word za hb 1; have h2 := part_word za hb 2; have h3 := part_word za hb 3
  have e : valL (loadL za) = valB za 32 := by
    have p3 := valB_part za 3 8; have p2 := valB_part za 2 8; have p1 := valB_part za 1 8; have p0 := valB_part za 0 8
    simp only [Nat.reduceMul, Nat.reduceAdd, Int.reducePow] at p0 p1 p2 p3
    have p00 : valB za 0 = 0 := rfl
    rw [p3, p2, p1, p0, p00]
    simp only [valL, loadL, at0_cons_zero, at0_cons_succ, Int.reducePow]
    generalize partW za 0 8 = a at *
    generalize partW za 1 8 = b at *
    generalize partW za 2 8 = c at *
    generalize partW za 3 8 = d at *
    omega
  rw [e] at h
  exact h
theorem or_shl (a b : Int) (n : Nat) (hn : n ≤ 64) (ha : 0 ≤ a ∧ a < 2 ^ n) (hb : 0 ≤ b) : bits BinOp.or IntKind.u64 a (IntKind.u64.wrap (b * 2 ^ n)) = a + b * 2 ^ n % 18446744073709551616 := by
  rw [wrap_u64_eq]
  have hp : (0 : Int) < 2 ^ n := Int.pow_pos (by omega)
  have e64 : (18446744073709551616 : Int) = 2 ^ n * 2 ^ (64 - n) := by rw [← Int.pow_add, show n + (64 - n) = 64 by omega]; rfl
  have hm : b * 2 ^ n % 18446744073709551616 % 2 ^ n = 0 := by
    rw [e64, Int.emod_emod_of_dvd _ (Int.dvd_mul_right _ _), Int.mul_emod_left]
  have hle : (2 : Int) ^ n ≤ 18446744073709551616 := by
    have h1 : (0 : Int) < 2 ^ (64 - n) := Int.pow_pos (by omega)
    have h2 : (2 : Int) ^ n * 1 ≤ 2 ^ n * 2 ^ (64 - n) := Int.mul_le_mul_of_nonneg_left (by omega) (by omega)
    omega
  have h := u64_or_add (b * 2 ^ n % 18446744073709551616) a n (by omega) (by omega) hm ha.1 ha.2 (by omega)
  rw [show bits BinOp.or IntKind.u64 a (b * 2 ^ n % 18446744073709551616) = bits BinOp.or IntKind.u64 (b * 2 ^ n % 18446744073709551616) a from by simp only [bits, BitVec.or_comm], h]
  omega

set_option maxHeartbeats 2000000 in
theorem load_any (za : List Int) (w : World) (hb : Bytes za) (hl : za.length = 32) :
    Calls Tryd.prog 67 #[aggI .u8 za] w fun e w' => e = .returned (aggI .u64 (carriedS (loadL za))) ∧ Below w.heap.size w w' := by
  have h0 := part_word za hb 0; have h1 := part_word za hb 1; have h2 := part_word za hb 2; have h3 := part_word za hb 3
  have hw := loadL_words za hb
  have HW0 : ∀ W, Arr .u8 W w.heap.size za → Calls Tryd.prog 89 #[.pointer (some ⟨w.heap.size, 0, none⟩), .int .i64 0] W fun e w' => e = .returned (.int .u64 (partW za 0 8)) ∧ W = w' := fun W hz => word_any za w.heap.size 0 W hz hb hl (by omega)
  have HW1 : ∀ W, Arr .u8 W w.heap.size za → Calls Tryd.prog 89 #[.pointer (some ⟨w.heap.size, 0, none⟩), .int .i64 8] W fun e w' => e = .returned (.int .u64 (partW za 1 8)) ∧ W = w' := fun W hz => word_any za w.heap.size 1 W hz hb hl (by omega)
  have HW2 : ∀ W, Arr .u8 W w.heap.size za → Calls Tryd.prog 89 #[.pointer (some ⟨w.heap.size, 0, none⟩), .int .i64 16] W fun e w' => e = .returned (.int .u64 (partW za 2 8)) ∧ W = w' := fun W hz => word_any za w.heap.size 2 W hz hb hl (by omega)
  have HW3 : ∀ W, Arr .u8 W w.heap.size za → Calls Tryd.prog 89 #[.pointer (some ⟨w.heap.size, 0, none⟩), .int .i64 24] W fun e w' => e = .returned (.int .u64 (partW za 3 8)) ∧ W = w' := fun W hz => word_any za w.heap.size 3 W hz hb hl (by omega)
  have e1 : loadL za = loadL za := rfl
  conv at e1 => rhs; unfold loadL
  generalize partW za 0 8 = q0 at *
  generalize partW za 1 8 = q1 at *
  generalize partW za 2 8 = q2 at *
  generalize partW za 3 8 = q3 at *
  have m0 := mask51 h0
  have o1 := or_shl (q0 / 2251799813685248) q1 13 (by omega) (by simp only [Int.reducePow]; omega) h1.1
  have o2 := or_shl (q1 / 274877906944) q2 26 (by omega) (by simp only [Int.reducePow]; omega) h2.1
  have o3 := or_shl (q2 / 33554432) q3 39 (by omega) (by simp only [Int.reducePow]; omega) h3.1
  simp only [Int.reducePow] at o1 o2 o3
  have m1 := mask51 (x := q0 / 2251799813685248 + q1 * 8192 % 18446744073709551616) (by omega)
  have m2 := mask51 (x := q1 / 274877906944 + q2 * 67108864 % 18446744073709551616) (by omega)
  have m3 := mask51 (x := q2 / 33554432 + q3 * 549755813888 % 18446744073709551616) (by omega)
  rw [show (q0 / 2251799813685248 + q1 * 8192 % 18446744073709551616) % 2251799813685248 = (q0 / 2251799813685248 + q1 * 8192) % 2251799813685248 by omega] at m1
  rw [show (q1 / 274877906944 + q2 * 67108864 % 18446744073709551616) % 2251799813685248 = (q1 / 274877906944 + q2 * 67108864) % 2251799813685248 by omega] at m2
  rw [show (q2 / 33554432 + q3 * 549755813888 % 18446744073709551616) % 2251799813685248 = (q2 / 33554432 + q3 * 549755813888) % 2251799813685248 by omega] at m3
  rw [← o1] at m1
  rw [← o2] at m2
  rw [← o3] at m3
  clear o1 o2 o3
  rw [e1] at hw ⊢
  clear e1
  go_enter Tryd.func67, Tryd.ntmps67
  go_wp2_with (first
    | (with_reducible refine at_n 1 ?_; refine wpList_boxI rfl 22 _ rfl .u8 za rfl ?_; intro w1 A1 s1 b1)
    | (with_reducible refine at_n 2 ?_; refine wpList_allocI rfl 42 rfl .u64 5 zero_limbs ?_; intro w2 A2 s2 b2; have X2 := A1.below b2)
    | (go_at_call 89; first | ((with_reducible refine (HW0 _ X2).mono ?_); rintro e w' ⟨rfl, rfl⟩) | ((with_reducible refine (HW1 _ X2).mono ?_); rintro e w' ⟨rfl, rfl⟩) | ((with_reducible refine (HW2 _ X2).mono ?_); rintro e w' ⟨rfl, rfl⟩) | ((with_reducible refine (HW3 _ X2).mono ?_); rintro e w' ⟨rfl, rfl⟩))
    | (with_reducible refine at_n 34 ?_; refine wpList_buildI rfl 42 _ rfl .u64 [q0 % 2251799813685248, (q0 / 2251799813685248 + q1 * 8192) % 2251799813685248, (q1 / 274877906944 + q2 * 67108864) % 2251799813685248, (q2 / 33554432 + q3 * 549755813888) % 2251799813685248, q3 / 4096] _ (built_limbs _ _ _ _ _) rfl ?_)
    | (with_reducible refine at_n 7 ?_; refine wpList_allocI rfl 42 rfl .u64 5 zero_limbs ?_; intro w3 A3 s3 b3; have R3 := A2.below b3)
    | (with_reducible refine at_op (o := ⟨_, .store 42 (.tmp 7) _, _, _, _, _⟩) ?_; refine wpList_storeI rfl 42 _ _ rfl 5 info_limbs (w2.heap.size) rfl .u64 _ ([q0 % 2251799813685248, (q0 / 2251799813685248 + q1 * 8192) % 2251799813685248, (q1 / 274877906944 + q2 * 67108864) % 2251799813685248, (q2 / 33554432 + q3 * 549755813888) % 2251799813685248, q3 / 4096]) rfl (A3) (rfl) (rfl) ?_; intro D; have R4 := R3.rowOther (B' := w2.heap.size) (by omega) (([q0 % 2251799813685248, (q0 / 2251799813685248 + q1 * 8192) % 2251799813685248, (q1 / 274877906944 + q2 * 67108864) % 2251799813685248, (q2 / 33554432 + q3 * 549755813888) % 2251799813685248, q3 / 4096] : List Int).map (Value.int .u64)).toArray)
    | (with_reducible refine at_n 35 ?_; refine wpList_loadI rfl 42 _ rfl 5 34 und_limbs info_limbs (w2.heap.size) rfl .u64 ([q0 % 2251799813685248, (q0 / 2251799813685248 + q1 * 8192) % 2251799813685248, (q1 / 274877906944 + q2 * 67108864) % 2251799813685248, (q2 / 33554432 + q3 * 549755813888) % 2251799813685248, q3 / 4096]) (D) (rfl) ?_)
    | (go_at_call 83; refine (carried_any _ _ hw rfl).mono ?_; rintro e w5 ⟨rfl, b5⟩; have R5 := R4.below b5)
    | (with_reducible refine at_op (o := ⟨_, .store 42 (.tmp 2) _, _, _, _, _⟩) ?_; refine wpList_storeI rfl 42 _ _ rfl 5 info_limbs (w1.heap.size) rfl .u64 _ (carriedS [q0 % 2251799813685248, (q0 / 2251799813685248 + q1 * 8192) % 2251799813685248, (q1 / 274877906944 + q2 * 67108864) % 2251799813685248, (q2 / 33554432 + q3 * 549755813888) % 2251799813685248, q3 / 4096]) rfl (R5) (rfl) (rfl) ?_; intro A9))
  refine bodyPost_ret (results_cellI rfl _ 5 34 und_limbs info_limbs (w1.heap.size) rfl .u64 _ A9 rfl) rfl ?_
  exact ⟨rfl, Below.setRow (below_then (Below.setRow (below_then (below_then b1 b2) b3) (by omega) _) b5) (by omega) _⟩

/-- A sum of 128 bits. -/
def wv (v : Int) : Value := aggI .u64 [v / 18446744073709551616, v % 18446744073709551616]
theorem info_wide : (Tryd.prog.info? 97).map (·.size) = some 2 := by kernel_rfl
theorem zero_wide : (Tryd.prog.info? 97).bind (·.zero) = some (.agg (Array.replicate 2 (Value.int .u64 0))) := by kernel_rfl
theorem mul64_int (x y : Int) (hx : 0 ≤ x ∧ x < 18446744073709551616) (hy : 0 ≤ y ∧ y < 18446744073709551616) (w : World) : Calls Tryd.prog 77 #[.int .u64 x, .int .u64 y] w fun e w' => e = .returned (.tuple #[.int .u64 (x * y / 18446744073709551616), .int .u64 (x * y % 18446744073709551616)]) ∧ w = w' := by
  obtain ⟨a, rfl⟩ := Int.eq_ofNat_of_zero_le hx.1
  obtain ⟨b, rfl⟩ := Int.eq_ofNat_of_zero_le hy.1
  exact (Tryd.bits_Mul64 a b (by omega) (by omega) w).mono fun e w' h => ⟨h.1, h.2.symm⟩
section
variable {P : Program} {w : World}
theorem results_cellS {fn : Func} {p : Tmp} {ty : TypeId} (h : fn.results = #[.cell p ty]) (tmps : Array Value) (n : Nat) (fs : Array Field) (hu : P.underlying ty = some (.struct fs)) (hi : (P.info? ty).map (·.size) = some n)
    (B : Nat) (hp : tmps.getD p undef = .pointer (some ⟨B, 0, none⟩)) (K : IntKind) (zs : List Int) (hz : Arr K w B zs) (hn : zs.length = n) : (results fn tmps).run P w = .ok (aggI K zs) w := by
  obtain ⟨t, hz⟩ := hz
  exact results_cell_row h tmps w B t _ _ _ hp hz hu rfl (by rw [hi]; simp [hn])
end
theorem more_nums (v m : Int) (hv : 0 ≤ v) (hm : 0 ≤ m) (h : v + m < 340282366920938463463374607431768211456) :
    ∃ s1 c1 s2 c2 : Int, (∀ w, (callFunc 78 #[.int .u64 (v % 18446744073709551616), .int .u64 (m % 18446744073709551616), .int .u64 0]).run Tryd.prog w = .ok (.value (.tuple #[.int .u64 s1, .int .u64 c1])) w) ∧
      (∀ w, (callFunc 78 #[.int .u64 (v / 18446744073709551616), .int .u64 (m / 18446744073709551616), .int .u64 c1]).run Tryd.prog w = .ok (.value (.tuple #[.int .u64 s2, .int .u64 c2])) w) ∧ s2 = (v + m) / 18446744073709551616 ∧ s1 = (v + m) % 18446744073709551616 := by
  refine ⟨_, _, _, _, fun w => add64_run (v % 18446744073709551616) (m % 18446744073709551616) 0 (by omega) (by omega) (by omega) (by omega) w, fun w => add64_run (v / 18446744073709551616) (m / 18446744073709551616) ((v % 18446744073709551616 + m % 18446744073709551616 + 0) / 18446744073709551616) (by omega) (by omega) (by omega) (by omega) w, ?_, ?_⟩ <;> omega

set_option maxHeartbeats 2000000 in
theorem more_any (v a b : Int) (w : World) (hv : 0 ≤ v) (ha : 0 ≤ a ∧ a < 18446744073709551616) (hb : 0 ≤ b ∧ b < 18446744073709551616) (h : v + a * b < 340282366920938463463374607431768211456) :
    Calls Tryd.prog 81 #[wv v, .int .u64 a, .int .u64 b] w fun e w' => e = .returned (wv (v + a * b)) ∧ Below w.heap.size w w' := by
  have hM := mul64_int a b ha hb
  have hm : 0 ≤ a * b := Int.mul_nonneg ha.1 hb.1
  unfold wv
  generalize a * b = m at *
  obtain ⟨t1, g1, t2, g2, h1, h2, e2, e1⟩ := more_nums v m hv hm h
  rw [← e1, ← e2]
  clear e1 e2 h
  generalize m / 18446744073709551616 = mh at *
  generalize m % 18446744073709551616 = ml at *
  generalize v / 18446744073709551616 = vh at *
  generalize v % 18446744073709551616 = vl at *
  clear hv hm
  go_enter Tryd.func81, Tryd.ntmps81
  go_wp2_with (first
    | (with_reducible refine at_n 3 ?_; refine wpList_boxI rfl 97 _ rfl .u64 [vh, vl] rfl ?_; intro w1 A1 s1 b1)
    | (with_reducible refine at_n 6 ?_; refine wpList_allocI rfl 97 rfl .u64 2 zero_wide ?_; intro w2 A2 s2 b2; have X2 := A1.below b2; have k0 := X2.cell (k := 0) (by simp); have k1 := X2.cell (k := 1) (by simp); simp only [at0_cons_zero, at0_cons_succ] at k0 k1)
    | (go_at_call 77; refine (hM _).mono ?_; rintro e w' ⟨rfl, rfl⟩)
    | (with_reducible refine at_op (o := ⟨_, .store 97 _ _, _, _, _, _⟩) ?_; refine wpList_storeI rfl 97 _ _ rfl 2 info_wide (w1.heap.size) rfl .u64 _ ([t2, t1]) rfl (A2) (rfl) (rfl) ?_; intro A9))
  refine bodyPost_ret (results_cellS rfl _ 2 _ Tryd.underlying97 info_wide (w1.heap.size) rfl .u64 _ A9 rfl) rfl ?_
  exact ⟨rfl, Below.setRow (below_then b1 b2) (by omega) _⟩

set_option maxHeartbeats 2000000 in
theorem shifted_any (v : Int) (w : World) (hv : 0 ≤ v) (h : v < 41538374868278621028243970633760768) :
    Calls Tryd.prog 82 #[wv v] w fun e w' => e = .returned (.int .u64 (v / 2251799813685248)) ∧ Below w.heap.size w w' := by
  have o := or_shl (v % 18446744073709551616 / 2251799813685248) (v / 18446744073709551616) 13 (by omega) (by simp only [Int.reducePow]; omega) (by omega)
  simp only [Int.reducePow] at o
  rw [show v % 18446744073709551616 / 2251799813685248 + v / 18446744073709551616 * 8192 % 18446744073709551616 = v / 2251799813685248 by omega] at o
  rw [show ∀ x y, bits BinOp.or IntKind.u64 x y = bits BinOp.or IntKind.u64 y x from fun x y => by simp only [bits, BitVec.or_comm]] at o
  unfold wv
  generalize v / 18446744073709551616 = vh at *
  generalize v % 18446744073709551616 = vl at *
  generalize v / 2251799813685248 = r at *
  go_enter Tryd.func82, Tryd.ntmps82
  go_wp2_with (first
    | (with_reducible refine at_n 1 ?_; refine wpList_boxI rfl 97 _ rfl .u64 [vh, vl] rfl ?_; intro w1 A1 s1 b1; have c0 := A1.cell (k := 0) (by simp); have c1 := A1.cell (k := 1) (by simp); simp only [at0_cons_zero, at0_cons_succ] at c0 c1))
  go_ret
  exact ⟨rfl, b1⟩
end Go.Proofs.YtelppapkffjmpaaDoor
end
section
namespace Go.Proofs.YtelppapkffjmpaaDoor
open Go.RowKit Go.Shelf
set_option linter.unusedVariables false
set_option maxRecDepth 8000

theorem built_wide0 : Tryd.prog.built 97 [] = some (([0 / 18446744073709551616, 0 % 18446744073709551616] : List Int).map (Value.int .u64)).toArray := by kernel_rfl
def Bd (n : Int) (v : Int) : Prop := 0 ≤ v ∧ v ≤ n * 96341445662207916106233753370624
theorem Bd.one {t : Int} (h : 0 ≤ t ∧ t ≤ 96341445662207916106233753370624) : Bd 1 t := by unfold Bd; omega
theorem Bd.step {n v t : Int} (hv : Bd n v) (h : 0 ≤ t ∧ t ≤ 96341445662207916106233753370624) : Bd (n + 1) (v + t) := by unfold Bd at *; rw [Int.add_mul]; omega
theorem term0 {x y : List Int} (hx : Small x) (hy : Small y) (i j : Nat) : 0 ≤ at0 x i * at0 y j ∧ at0 x i * at0 y j ≤ 96341445662207916106233753370624 := by have := small_mul hx hy i j; omega
theorem term1 {x y : List Int} (hx : Small x) (hy : Small y) (i j : Nat) : 0 ≤ at0 x i * 19 * at0 y j ∧ at0 x i * 19 * at0 y j ≤ 96341445662207916106233753370624 := by
  have := small_mul hx hy i j
  rw [Int.mul_right_comm]
  omega
theorem word0 {x : List Int} (hx : Small x) (i : Nat) : 0 ≤ at0 x i ∧ at0 x i < 18446744073709551616 := by have := hx i; omega
theorem word1 {x : List Int} (hx : Small x) (i : Nat) : 0 ≤ at0 x i * 19 ∧ at0 x i * 19 < 18446744073709551616 := by have := hx i; omega
theorem more_bd (n v a b : Int) (w : World) (hn : n ≤ 5) (hv : Bd n v) (ha : 0 ≤ a ∧ a < 18446744073709551616) (hb : 0 ≤ b ∧ b < 18446744073709551616) (ht : 0 ≤ a * b ∧ a * b ≤ 96341445662207916106233753370624) :
    Calls Tryd.prog 81 #[wv v, .int .u64 a, .int .u64 b] w fun e w' => e = .returned (wv (v + a * b)) ∧ Below w.heap.size w w' := by
  refine more_any v a b w hv.1 ha hb ?_
  unfold Bd at hv
  generalize a * b = m at *
  omega
theorem wpList_wide0 {ops : Array Oper} {o : Oper} {a : Act} {w : World} {rest : List Oper} {Q : Exit → Act → World → Prop} (hgd : o.guard = none) (ho : o.op = .build 97 #[]) (h : wpList Tryd.prog ops Q rest (a.put o.dst (wv 0)) w) : wpList Tryd.prog ops Q (o :: rest) a w :=
  wpList_buildI hgd _ _ ho .u64 [0 / 18446744073709551616, 0 % 18446744073709551616] _ built_wide0 rfl h

set_option maxHeartbeats 8000000 in
theorem times_any (xs ys : List Int) (w : World) (hx : Small xs) (hy : Small ys) (hl : xs.length = 5) (hm : ys.length = 5) :
  Calls Tryd.prog 49 #[aggI .u64 xs, aggI .u64 ys] w fun e w' => e = .returned (aggI .u64 (carriedS (timesL xs ys))) ∧ Below w.heap.size w w' := by
 have x0 := hx 0; have x1 := hx 1; have x2 := hx 2; have x3 := hx 3; have x4 := hx 4
 have y0 := hy 0; have y1 := hy 1; have y2 := hy 2; have y3 := hy 3; have y4 := hy 4
 have z1 := wrap_id (x := at0 xs 1 * 19) (by omega) (by omega); have z2 := wrap_id (x := at0 xs 2 * 19) (by omega) (by omega)
 have z3 := wrap_id (x := at0 xs 3 * 19) (by omega) (by omega); have z4 := wrap_id (x := at0 xs 4 * 19) (by omega) (by omega)
 obtain ⟨WW, hW⟩ : ∃ WW : Int → Value, ∀ v, WW v = wv v := ⟨_, fun _ => rfl⟩
 have HM : ∀ (n v a b : Int) (w : World), n ≤ 5 → Bd n v → (0 ≤ a ∧ a < 18446744073709551616) → (0 ≤ b ∧ b < 18446744073709551616) → (0 ≤ a * b ∧ a * b ≤ 96341445662207916106233753370624) → Calls Tryd.prog 81 #[WW v, .int .u64 a, .int .u64 b] w fun e w' => e = .returned (WW (v + a * b)) ∧ Below w.heap.size w w' := by
  intro n v a b w h1 h2 h3 h4 h5
  rw [hW, hW]
  exact more_bd n v a b w h1 h2 h3 h4 h5
 have HM0 : ∀ (a b : Int) (w : World), (0 ≤ a ∧ a < 18446744073709551616) → (0 ≤ b ∧ b < 18446744073709551616) → (0 ≤ a * b ∧ a * b ≤ 96341445662207916106233753370624) → Calls Tryd.prog 81 #[WW 0, .int .u64 a, .int .u64 b] w fun e w' => e = .returned (WW (a * b)) ∧ Below w.heap.size w w' := by
  intro a b w h3 h4 h5
  have h := HM 0 0 a b w (by decide) ⟨Int.le_refl _, by decide⟩ h3 h4 h5
  rw [Int.zero_add] at h
  exact h
 have T0_0 := term0 hx hy 0 0
 have V0_1 : Bd 1 (at0 xs 0 * at0 ys 0) := Bd.one T0_0
 have M0_0 : ∀ W', Calls Tryd.prog 81 #[WW 0, .int .u64 (at0 xs 0), .int .u64 (at0 ys 0)] W' fun e w' => e = .returned (WW (at0 xs 0 * at0 ys 0)) ∧ Below W'.heap.size W' w' := fun W' => HM0 _ _ W' (word0 hx 0) (word0 hy 0) T0_0
 have T0_1 := term1 hx hy 1 4
 have V0_2 : Bd 2 (at0 xs 0 * at0 ys 0 + at0 xs 1 * 19 * at0 ys 4) := V0_1.step T0_1
 have M0_1 : ∀ W', Calls Tryd.prog 81 #[WW (at0 xs 0 * at0 ys 0), .int .u64 (at0 xs 1 * 19), .int .u64 (at0 ys 4)] W' fun e w' => e = .returned (WW (at0 xs 0 * at0 ys 0 + at0 xs 1 * 19 * at0 ys 4)) ∧ Below W'.heap.size W' w' := fun W' => HM _ _ _ _ W' (by decide) V0_1 (word1 hx 1) (word0 hy 4) T0_1
 have T0_2 := term1 hx hy 2 3
 have V0_3 : Bd 3 (at0 xs 0 * at0 ys 0 + at0 xs 1 * 19 * at0 ys 4 + at0 xs 2 * 19 * at0 ys 3) := V0_2.step T0_2
 have M0_2 : ∀ W', Calls Tryd.prog 81 #[WW (at0 xs 0 * at0 ys 0 + at0 xs 1 * 19 * at0 ys 4), .int .u64 (at0 xs 2 * 19), .int .u64 (at0 ys 3)] W' fun e w' => e = .returned (WW (at0 xs 0 * at0 ys 0 + at0 xs 1 * 19 * at0 ys 4 + at0 xs 2 * 19 * at0 ys 3)) ∧ Below W'.heap.size W' w' := fun W' => HM _ _ _ _ W' (by decide) V0_2 (word1 hx 2) (word0 hy 3) T0_2
 have T0_3 := term1 hx hy 3 2
 have V0_4 : Bd 4 (at0 xs 0 * at0 ys 0 + at0 xs 1 * 19 * at0 ys 4 + at0 xs 2 * 19 * at0 ys 3 + at0 xs 3 * 19 * at0 ys 2) := V0_3.step T0_3
 have M0_3 : ∀ W', Calls Tryd.prog 81 #[WW (at0 xs 0 * at0 ys 0 + at0 xs 1 * 19 * at0 ys 4 + at0 xs 2 * 19 * at0 ys 3), .int .u64 (at0 xs 3 * 19), .int .u64 (at0 ys 2)] W' fun e w' => e = .returned (WW (at0 xs 0 * at0 ys 0 + at0 xs 1 * 19 * at0 ys 4 + at0 xs 2 * 19 * at0 ys 3 + at0 xs 3 * 19 * at0 ys 2)) ∧ Below W'.heap.size W' w' := fun W' => HM _ _ _ _ W' (by decide) V0_3 (word1 hx 3) (word0 hy 2) T0_3
 have T0_4 := term1 hx hy 4 1
 have V0_5 : Bd 5 (at0 xs 0 * at0 ys 0 + at0 xs 1 * 19 * at0 ys 4 + at0 xs 2 * 19 * at0 ys 3 + at0 xs 3 * 19 * at0 ys 2 + at0 xs 4 * 19 * at0 ys 1) := V0_4.step T0_4
 have M0_4 : ∀ W', Calls Tryd.prog 81 #[WW (at0 xs 0 * at0 ys 0 + at0 xs 1 * 19 * at0 ys 4 + at0 xs 2 * 19 * at0 ys 3 + at0 xs 3 * 19 * at0 ys 2), .int .u64 (at0 xs 4 * 19), .int .u64 (at0 ys 1)] W' fun e w' => e = .returned (WW (at0 xs 0 * at0 ys 0 + at0 xs 1 * 19 * at0 ys 4 + at0 xs 2 * 19 * at0 ys 3 + at0 xs 3 * 19 * at0 ys 2 + at0 xs 4 * 19 * at0 ys 1)) ∧ Below W'.heap.size W' w' := fun W' => HM _ _ _ _ W' (by decide) V0_4 (word1 hx 4) (word0 hy 1) T0_4
 have T1_0 := term0 hx hy 0 1
 have V1_1 : Bd 1 (at0 xs 0 * at0 ys 1) := Bd.one T1_0
 have M1_0 : ∀ W', Calls Tryd.prog 81 #[WW 0, .int .u64 (at0 xs 0), .int .u64 (at0 ys 1)] W' fun e w' => e = .returned (WW (at0 xs 0 * at0 ys 1)) ∧ Below W'.heap.size W' w' := fun W' => HM0 _ _ W' (word0 hx 0) (word0 hy 1) T1_0
 have T1_1 := term0 hx hy 1 0
 have V1_2 : Bd 2 (at0 xs 0 * at0 ys 1 + at0 xs 1 * at0 ys 0) := V1_1.step T1_1
 have M1_1 : ∀ W', Calls Tryd.prog 81 #[WW (at0 xs 0 * at0 ys 1), .int .u64 (at0 xs 1), .int .u64 (at0 ys 0)] W' fun e w' => e = .returned (WW (at0 xs 0 * at0 ys 1 + at0 xs 1 * at0 ys 0)) ∧ Below W'.heap.size W' w' := fun W' => HM _ _ _ _ W' (by decide) V1_1 (word0 hx 1) (word0 hy 0) T1_1
 have T1_2 := term1 hx hy 2 4
 have V1_3 : Bd 3 (at0 xs 0 * at0 ys 1 + at0 xs 1 * at0 ys 0 + at0 xs 2 * 19 * at0 ys 4) := V1_2.step T1_2
 have M1_2 : ∀ W', Calls Tryd.prog 81 #[WW (at0 xs 0 * at0 ys 1 + at0 xs 1 * at0 ys 0), .int .u64 (at0 xs 2 * 19), .int .u64 (at0 ys 4)] W' fun e w' => e = .returned (WW (at0 xs 0 * at0 ys 1 + at0 xs 1 * at0 ys 0 + at0 xs 2 * 19 * at0 ys 4)) ∧ Below W'.heap.size W' w' := fun W' => HM _ _ _ _ W' (by decide) V1_2 (word1 hx 2) (word0 hy 4) T1_2
 have T1_3 := term1 hx hy 3 3
 have V1_4 : Bd 4 (at0 xs 0 * at0 ys 1 + at0 xs 1 * at0 ys 0 + at0 xs 2 * 19 * at0 ys 4 + at0 xs 3 * 19 * at0 ys 3) := V1_3.step T1_3
 have M1_3 : ∀ W', Calls Tryd.prog 81 #[WW (at0 xs 0 * at0 ys 1 + at0 xs 1 * at0 ys 0 + at0 xs 2 * 19 * at0 ys 4), .int .u64 (at0 xs 3 * 19), .int .u64 (at0 ys 3)] W' fun e w' => e = .returned (WW (at0 xs 0 * at0 ys 1 + at0 xs 1 * at0 ys 0 + at0 xs 2 * 19 * at0 ys 4 + at0 xs 3 * 19 * at0 ys 3)) ∧ Below W'.heap.size W' w' := fun W' => HM _ _ _ _ W' (by decide) V1_3 (word1 hx 3) (word0 hy 3) T1_3
 have T1_4 := term1 hx hy 4 2
 have V1_5 : Bd 5 (at0 xs 0 * at0 ys 1 + at0 xs 1 * at0 ys 0 + at0 xs 2 * 19 * at0 ys 4 + at0 xs 3 * 19 * at0 ys 3 + at0 xs 4 * 19 * at0 ys 2) := V1_4.step T1_4
 have M1_4 : ∀ W', Calls Tryd.prog 81 #[WW (at0 xs 0 * at0 ys 1 + at0 xs 1 * at0 ys 0 + at0 xs 2 * 19 * at0 ys 4 + at0 xs 3 * 19 * at0 ys 3), .int .u64 (at0 xs 4 * 19), .int .u64 (at0 ys 2)] W' fun e w' => e = .returned (WW (at0 xs 0 * at0 ys 1 + at0 xs 1 * at0 ys 0 + at0 xs 2 * 19 * at0 ys 4 + at0 xs 3 * 19 * at0 ys 3 + at0 xs 4 * 19 * at0 ys 2)) ∧ Below W'.heap.size W' w' := fun W' => HM _ _ _ _ W' (by decide) V1_4 (word1 hx 4) (word0 hy 2) T1_4
 have T2_0 := term0 hx hy 0 2
 have V2_1 : Bd 1 (at0 xs 0 * at0 ys 2) := Bd.one T2_0
 have M2_0 : ∀ W', Calls Tryd.prog 81 #[WW 0, .int .u64 (at0 xs 0), .int .u64 (at0 ys 2)] W' fun e w' => e = .returned (WW (at0 xs 0 * at0 ys 2)) ∧ Below W'.heap.size W' w' := fun W' => HM0 _ _ W' (word0 hx 0) (word0 hy 2) T2_0
 have T2_1 := term0 hx hy 1 1
 have V2_2 : Bd 2 (at0 xs 0 * at0 ys 2 + at0 xs 1 * at0 ys 1) := V2_1.step T2_1
 have M2_1 : ∀ W', Calls Tryd.prog 81 #[WW (at0 xs 0 * at0 ys 2), .int .u64 (at0 xs 1), .int .u64 (at0 ys 1)] W' fun e w' => e = .returned (WW (at0 xs 0 * at0 ys 2 + at0 xs 1 * at0 ys 1)) ∧ Below W'.heap.size W' w' := fun W' => HM _ _ _ _ W' (by decide) V2_1 (word0 hx 1) (word0 hy 1) T2_1
 have T2_2 := term0 hx hy 2 0
 have V2_3 : Bd 3 (at0 xs 0 * at0 ys 2 + at0 xs 1 * at0 ys 1 + at0 xs 2 * at0 ys 0) := V2_2.step T2_2
 have M2_2 : ∀ W', Calls Tryd.prog 81 #[WW (at0 xs 0 * at0 ys 2 + at0 xs 1 * at0 ys 1), .int .u64 (at0 xs 2), .int .u64 (at0 ys 0)] W' fun e w' => e = .returned (WW (at0 xs 0 * at0 ys 2 + at0 xs 1 * at0 ys 1 + at0 xs 2 * at0 ys 0)) ∧ Below W'.heap.size W' w' := fun W' => HM _ _ _ _ W' (by decide) V2_2 (word0 hx 2) (word0 hy 0) T2_2
 have T2_3 := term1 hx hy 3 4
 have V2_4 : Bd 4 (at0 xs 0 * at0 ys 2 + at0 xs 1 * at0 ys 1 + at0 xs 2 * at0 ys 0 + at0 xs 3 * 19 * at0 ys 4) := V2_3.step T2_3
 have M2_3 : ∀ W', Calls Tryd.prog 81 #[WW (at0 xs 0 * at0 ys 2 + at0 xs 1 * at0 ys 1 + at0 xs 2 * at0 ys 0), .int .u64 (at0 xs 3 * 19), .int .u64 (at0 ys 4)] W' fun e w' => e = .returned (WW (at0 xs 0 * at0 ys 2 + at0 xs 1 * at0 ys 1 + at0 xs 2 * at0 ys 0 + at0 xs 3 * 19 * at0 ys 4)) ∧ Below W'.heap.size W' w' := fun W' => HM _ _ _ _ W' (by decide) V2_3 (word1 hx 3) (word0 hy 4) T2_3
 have T2_4 := term1 hx hy 4 3
 have V2_5 : Bd 5 (at0 xs 0 * at0 ys 2 + at0 xs 1 * at0 ys 1 + at0 xs 2 * at0 ys 0 + at0 xs 3 * 19 * at0 ys 4 + at0 xs 4 * 19 * at0 ys 3) := V2_4.step T2_4
 have M2_4 : ∀ W', Calls Tryd.prog 81 #[WW (at0 xs 0 * at0 ys 2 + at0 xs 1 * at0 ys 1 + at0 xs 2 * at0 ys 0 + at0 xs 3 * 19 * at0 ys 4), .int .u64 (at0 xs 4 * 19), .int .u64 (at0 ys 3)] W' fun e w' => e = .returned (WW (at0 xs 0 * at0 ys 2 + at0 xs 1 * at0 ys 1 + at0 xs 2 * at0 ys 0 + at0 xs 3 * 19 * at0 ys 4 + at0 xs 4 * 19 * at0 ys 3)) ∧ Below W'.heap.size W' w' := fun W' => HM _ _ _ _ W' (by decide) V2_4 (word1 hx 4) (word0 hy 3) T2_4
 have T3_0 := term0 hx hy 0 3
 have V3_1 : Bd 1 (at0 xs 0 * at0 ys 3) := Bd.one T3_0
 have M3_0 : ∀ W', Calls Tryd.prog 81 #[WW 0, .int .u64 (at0 xs 0), .int .u64 (at0 ys 3)] W' fun e w' => e = .returned (WW (at0 xs 0 * at0 ys 3)) ∧ Below W'.heap.size W' w' := fun W' => HM0 _ _ W' (word0 hx 0) (word0 hy 3) T3_0
 have T3_1 := term0 hx hy 1 2
 have V3_2 : Bd 2 (at0 xs 0 * at0 ys 3 + at0 xs 1 * at0 ys 2) := V3_1.step T3_1
 have M3_1 : ∀ W', Calls Tryd.prog 81 #[WW (at0 xs 0 * at0 ys 3), .int .u64 (at0 xs 1), .int .u64 (at0 ys 2)] W' fun e w' => e = .returned (WW (at0 xs 0 * at0 ys 3 + at0 xs 1 * at0 ys 2)) ∧ Below W'.heap.size W' w' := fun W' => HM _ _ _ _ W' (by decide) V3_1 (word0 hx 1) (word0 hy 2) T3_1
 have T3_2 := term0 hx hy 2 1
 have V3_3 : Bd 3 (at0 xs 0 * at0 ys 3 + at0 xs 1 * at0 ys 2 + at0 xs 2 * at0 ys 1) := V3_2.step T3_2
 have M3_2 : ∀ W', Calls Tryd.prog 81 #[WW (at0 xs 0 * at0 ys 3 + at0 xs 1 * at0 ys 2), .int .u64 (at0 xs 2), .int .u64 (at0 ys 1)] W' fun e w' => e = .returned (WW (at0 xs 0 * at0 ys 3 + at0 xs 1 * at0 ys 2 + at0 xs 2 * at0 ys 1)) ∧ Below W'.heap.size W' w' := fun W' => HM _ _ _ _ W' (by decide) V3_2 (word0 hx 2) (word0 hy 1) T3_2
 have T3_3 := term0 hx hy 3 0
 have V3_4 : Bd 4 (at0 xs 0 * at0 ys 3 + at0 xs 1 * at0 ys 2 + at0 xs 2 * at0 ys 1 + at0 xs 3 * at0 ys 0) := V3_3.step T3_3
 have M3_3 : ∀ W', Calls Tryd.prog 81 #[WW (at0 xs 0 * at0 ys 3 + at0 xs 1 * at0 ys 2 + at0 xs 2 * at0 ys 1), .int .u64 (at0 xs 3), .int .u64 (at0 ys 0)] W' fun e w' => e = .returned (WW (at0 xs 0 * at0 ys 3 + at0 xs 1 * at0 ys 2 + at0 xs 2 * at0 ys 1 + at0 xs 3 * at0 ys 0)) ∧ Below W'.heap.size W' w' := fun W' => HM _ _ _ _ W' (by decide) V3_3 (word0 hx 3) (word0 hy 0) T3_3
 have T3_4 := term1 hx hy 4 4
 have V3_5 : Bd 5 (at0 xs 0 * at0 ys 3 + at0 xs 1 * at0 ys 2 + at0 xs 2 * at0 ys 1 + at0 xs 3 * at0 ys 0 + at0 xs 4 * 19 * at0 ys 4) := V3_4.step T3_4
 have M3_4 : ∀ W', Calls Tryd.prog 81 #[WW (at0 xs 0 * at0 ys 3 + at0 xs 1 * at0 ys 2 + at0 xs 2 * at0 ys 1 + at0 xs 3 * at0 ys 0), .int .u64 (at0 xs 4 * 19), .int .u64 (at0 ys 4)] W' fun e w' => e = .returned (WW (at0 xs 0 * at0 ys 3 + at0 xs 1 * at0 ys 2 + at0 xs 2 * at0 ys 1 + at0 xs 3 * at0 ys 0 + at0 xs 4 * 19 * at0 ys 4)) ∧ Below W'.heap.size W' w' := fun W' => HM _ _ _ _ W' (by decide) V3_4 (word1 hx 4) (word0 hy 4) T3_4
 have T4_0 := term0 hx hy 0 4
 have V4_1 : Bd 1 (at0 xs 0 * at0 ys 4) := Bd.one T4_0
 have M4_0 : ∀ W', Calls Tryd.prog 81 #[WW 0, .int .u64 (at0 xs 0), .int .u64 (at0 ys 4)] W' fun e w' => e = .returned (WW (at0 xs 0 * at0 ys 4)) ∧ Below W'.heap.size W' w' := fun W' => HM0 _ _ W' (word0 hx 0) (word0 hy 4) T4_0
 have T4_1 := term0 hx hy 1 3
 have V4_2 : Bd 2 (at0 xs 0 * at0 ys 4 + at0 xs 1 * at0 ys 3) := V4_1.step T4_1
 have M4_1 : ∀ W', Calls Tryd.prog 81 #[WW (at0 xs 0 * at0 ys 4), .int .u64 (at0 xs 1), .int .u64 (at0 ys 3)] W' fun e w' => e = .returned (WW (at0 xs 0 * at0 ys 4 + at0 xs 1 * at0 ys 3)) ∧ Below W'.heap.size W' w' := fun W' => HM _ _ _ _ W' (by decide) V4_1 (word0 hx 1) (word0 hy 3) T4_1
 have T4_2 := term0 hx hy 2 2
 have V4_3 : Bd 3 (at0 xs 0 * at0 ys 4 + at0 xs 1 * at0 ys 3 + at0 xs 2 * at0 ys 2) := V4_2.step T4_2
 have M4_2 : ∀ W', Calls Tryd.prog 81 #[WW (at0 xs 0 * at0 ys 4 + at0 xs 1 * at0 ys 3), .int .u64 (at0 xs 2), .int .u64 (at0 ys 2)] W' fun e w' => e = .returned (WW (at0 xs 0 * at0 ys 4 + at0 xs 1 * at0 ys 3 + at0 xs 2 * at0 ys 2)) ∧ Below W'.heap.size W' w' := fun W' => HM _ _ _ _ W' (by decide) V4_2 (word0 hx 2) (word0 hy 2) T4_2
 have T4_3 := term0 hx hy 3 1
 have V4_4 : Bd 4 (at0 xs 0 * at0 ys 4 + at0 xs 1 * at0 ys 3 + at0 xs 2 * at0 ys 2 + at0 xs 3 * at0 ys 1) := V4_3.step T4_3
 have M4_3 : ∀ W', Calls Tryd.prog 81 #[WW (at0 xs 0 * at0 ys 4 + at0 xs 1 * at0 ys 3 + at0 xs 2 * at0 ys 2), .int .u64 (at0 xs 3), .int .u64 (at0 ys 1)] W' fun e w' => e = .returned (WW (at0 xs 0 * at0 ys 4 + at0 xs 1 * at0 ys 3 + at0 xs 2 * at0 ys 2 + at0 xs 3 * at0 ys 1)) ∧ Below W'.heap.size W' w' := fun W' => HM _ _ _ _ W' (by decide) V4_3 (word0 hx 3) (word0 hy 1) T4_3
 have T4_4 := term0 hx hy 4 0
 have V4_5 : Bd 5 (at0 xs 0 * at0 ys 4 + at0 xs 1 * at0 ys 3 + at0 xs 2 * at0 ys 2 + at0 xs 3 * at0 ys 1 + at0 xs 4 * at0 ys 0) := V4_4.step T4_4
 have M4_4 : ∀ W', Calls Tryd.prog 81 #[WW (at0 xs 0 * at0 ys 4 + at0 xs 1 * at0 ys 3 + at0 xs 2 * at0 ys 2 + at0 xs 3 * at0 ys 1), .int .u64 (at0 xs 4), .int .u64 (at0 ys 0)] W' fun e w' => e = .returned (WW (at0 xs 0 * at0 ys 4 + at0 xs 1 * at0 ys 3 + at0 xs 2 * at0 ys 2 + at0 xs 3 * at0 ys 1 + at0 xs 4 * at0 ys 0)) ∧ Below W'.heap.size W' w' := fun W' => HM _ _ _ _ W' (by decide) V4_4 (word0 hx 4) (word0 hy 0) T4_4
 clear T0_0 T0_1 T0_2 T0_3 T0_4 T1_0 T1_1 T1_2 T1_3 T1_4 T2_0 T2_1 T2_2 T2_3 T2_4 T3_0 T3_1 T3_2 T3_3 T3_4 T4_0 T4_1 T4_2 T4_3 T4_4 V0_1 V0_2 V0_3 V0_4 V0_5 V1_1 V1_2 V1_3 V1_4 V1_5 V2_1 V2_2 V2_3 V2_4 V2_5 V3_1 V3_2 V3_3 V3_4 V3_5 V4_1 V4_2 V4_3 V4_4 V4_5 HM HM0
 replace M0_0 := Lib.hid M0_0
 replace M0_1 := Lib.hid M0_1
 replace M0_2 := Lib.hid M0_2
 replace M0_3 := Lib.hid M0_3
 replace M0_4 := Lib.hid M0_4
 replace M1_0 := Lib.hid M1_0
 replace M1_1 := Lib.hid M1_1
 replace M1_2 := Lib.hid M1_2
 replace M1_3 := Lib.hid M1_3
 replace M1_4 := Lib.hid M1_4
 replace M2_0 := Lib.hid M2_0
 replace M2_1 := Lib.hid M2_1
 replace M2_2 := Lib.hid M2_2
 replace M2_3 := Lib.hid M2_3
 replace M2_4 := Lib.hid M2_4
 replace M3_0 := Lib.hid M3_0
 replace M3_1 := Lib.hid M3_1
 replace M3_2 := Lib.hid M3_2
 replace M3_3 := Lib.hid M3_3
 replace M3_4 := Lib.hid M3_4
 replace M4_0 := Lib.hid M4_0
 replace M4_1 := Lib.hid M4_1
 replace M4_2 := Lib.hid M4_2
 replace M4_3 := Lib.hid M4_3
 replace M4_4 := Lib.hid M4_4
 have pr0 := prodR_bound hx hy 0; have pr1 := prodR_bound hx hy 1; have pr2 := prodR_bound hx hy 2; have pr3 := prodR_bound hx hy 3; have pr4 := prodR_bound hx hy 4
 have pr5 := prodR_bound4 hx hy
 have HP0 : WW (at0 xs 0 * at0 ys 0 + at0 xs 1 * 19 * at0 ys 4 + at0 xs 2 * 19 * at0 ys 3 + at0 xs 3 * 19 * at0 ys 2 + at0 xs 4 * 19 * at0 ys 1) = aggI .u64 [prodR xs ys 0 / 18446744073709551616, prodR xs ys 0 % 18446744073709551616] := by have h := hW (prodR xs ys 0); simp only [prodR] at h ⊢; exact h
 replace HP0 := Lib.hid HP0
 have HP1 : WW (at0 xs 0 * at0 ys 1 + at0 xs 1 * at0 ys 0 + at0 xs 2 * 19 * at0 ys 4 + at0 xs 3 * 19 * at0 ys 3 + at0 xs 4 * 19 * at0 ys 2) = aggI .u64 [prodR xs ys 1 / 18446744073709551616, prodR xs ys 1 % 18446744073709551616] := by have h := hW (prodR xs ys 1); simp only [prodR] at h ⊢; exact h
 replace HP1 := Lib.hid HP1
 have HP2 : WW (at0 xs 0 * at0 ys 2 + at0 xs 1 * at0 ys 1 + at0 xs 2 * at0 ys 0 + at0 xs 3 * 19 * at0 ys 4 + at0 xs 4 * 19 * at0 ys 3) = aggI .u64 [prodR xs ys 2 / 18446744073709551616, prodR xs ys 2 % 18446744073709551616] := by have h := hW (prodR xs ys 2); simp only [prodR] at h ⊢; exact h
 replace HP2 := Lib.hid HP2
 have HP3 : WW (at0 xs 0 * at0 ys 3 + at0 xs 1 * at0 ys 2 + at0 xs 2 * at0 ys 1 + at0 xs 3 * at0 ys 0 + at0 xs 4 * 19 * at0 ys 4) = aggI .u64 [prodR xs ys 3 / 18446744073709551616, prodR xs ys 3 % 18446744073709551616] := by have h := hW (prodR xs ys 3); simp only [prodR] at h ⊢; exact h
 replace HP3 := Lib.hid HP3
 have HP4 : WW (at0 xs 0 * at0 ys 4 + at0 xs 1 * at0 ys 3 + at0 xs 2 * at0 ys 2 + at0 xs 3 * at0 ys 1 + at0 xs 4 * at0 ys 0) = aggI .u64 [prodR xs ys 4 / 18446744073709551616, prodR xs ys 4 % 18446744073709551616] := by have h := hW (prodR xs ys 4); simp only [prodR] at h ⊢; exact h
 replace HP4 := Lib.hid HP4
 have HW := Lib.hid hW
 clear hW
 have mk0 : bits BinOp.and IntKind.u64 (prodR xs ys 0 % 18446744073709551616) 2251799813685247 = prodR xs ys 0 % 2251799813685248 := by rw [mask51 (by omega)]; omega
 have mk1 : bits BinOp.and IntKind.u64 (prodR xs ys 1 % 18446744073709551616) 2251799813685247 = prodR xs ys 1 % 2251799813685248 := by rw [mask51 (by omega)]; omega
 have mk2 : bits BinOp.and IntKind.u64 (prodR xs ys 2 % 18446744073709551616) 2251799813685247 = prodR xs ys 2 % 2251799813685248 := by rw [mask51 (by omega)]; omega
 have mk3 : bits BinOp.and IntKind.u64 (prodR xs ys 3 % 18446744073709551616) 2251799813685247 = prodR xs ys 3 % 2251799813685248 := by rw [mask51 (by omega)]; omega
 have mk4 : bits BinOp.and IntKind.u64 (prodR xs ys 4 % 18446744073709551616) 2251799813685247 = prodR xs ys 4 % 2251799813685248 := by rw [mask51 (by omega)]; omega
 have wm := wrap_id (x := prodR xs ys 4 / 2251799813685248 * 19) (by omega) (by omega)
 have ws0 := wrap_id (x := prodR xs ys 0 % 2251799813685248 + prodR xs ys 4 / 2251799813685248 * 19) (by omega) (by omega)
 have ws1 := wrap_id (x := prodR xs ys 1 % 2251799813685248 + prodR xs ys 0 / 2251799813685248) (by omega) (by omega)
 have ws2 := wrap_id (x := prodR xs ys 2 % 2251799813685248 + prodR xs ys 1 / 2251799813685248) (by omega) (by omega)
 have ws3 := wrap_id (x := prodR xs ys 3 % 2251799813685248 + prodR xs ys 2 / 2251799813685248) (by omega) (by omega)
 have ws4 := wrap_id (x := prodR xs ys 4 % 2251799813685248 + prodR xs ys 3 / 2251799813685248) (by omega) (by omega)
 replace mk0 := Lib.hid mk0
 replace mk1 := Lib.hid mk1
 replace mk2 := Lib.hid mk2
 replace mk3 := Lib.hid mk3
 replace mk4 := Lib.hid mk4
 replace wm := Lib.hid wm
 replace ws0 := Lib.hid ws0
 replace ws1 := Lib.hid ws1
 replace ws2 := Lib.hid ws2
 replace ws3 := Lib.hid ws3
 replace ws4 := Lib.hid ws4
 go_enter Tryd.func49, Tryd.ntmps49
 go_wp2_with (first
  | (with_reducible refine at_n 2 ?_; refine wpList_boxI rfl 42 _ rfl .u64 xs rfl ?_; intro w1 A1 s1 b1)
  | (with_reducible refine at_n 3 ?_; refine wpList_boxI rfl 42 _ rfl .u64 ys rfl ?_; intro w2 A2 s2 b2; have X2 := A1.below b2)
  | (with_reducible refine at_n 4 ?_; refine wpList_allocI rfl 42 rfl .u64 5 zero_limbs ?_; intro w3 A3 s3 b3; have X3 := X2.below b3; have Y3 := A2.below b3))
 have c0 := X3.cell (k := 0) (by omega); have c1 := X3.cell (k := 1) (by omega); have c2 := X3.cell (k := 2) (by omega); have c3 := X3.cell (k := 3) (by omega); have c4 := X3.cell (k := 4) (by omega)
 go_quiet (fail)
 clear c0 c1 c2 c3 c4
 generalize nq = n0 at *
 go_wp2
 have c0 := Y3.cell (k := 0) (by omega); have c1 := Y3.cell (k := 1) (by omega); have c2 := Y3.cell (k := 2) (by omega); have c3 := Y3.cell (k := 3) (by omega); have c4 := Y3.cell (k := 4) (by omega)
 go_quiet (fail)
 clear c0 c1 c2 c3 c4
 have R := A3.drewN (n0 + nq)
 have hbel := below_drewN (below_then (below_then b1 b2) b3) (n0 + nq)
 have hbel0 := hbel.size
 go_wp2_with (first
  | (with_reducible refine at_op (o := ⟨_, .build 97 #[], _, _, _, _⟩) ?_; refine wpList_wide0 rfl rfl ?_; rw [← HW.out])
  | (go_at_call 81; (first | (with_reducible refine (M0_0.out _).mono ?_) | (with_reducible refine (M0_1.out _).mono ?_) | (with_reducible refine (M0_2.out _).mono ?_) | (with_reducible refine (M0_3.out _).mono ?_) | (with_reducible refine (M0_4.out _).mono ?_) | (with_reducible refine (M1_0.out _).mono ?_) | (with_reducible refine (M1_1.out _).mono ?_) | (with_reducible refine (M1_2.out _).mono ?_) | (with_reducible refine (M1_3.out _).mono ?_) | (with_reducible refine (M1_4.out _).mono ?_) | (with_reducible refine (M2_0.out _).mono ?_) | (with_reducible refine (M2_1.out _).mono ?_) | (with_reducible refine (M2_2.out _).mono ?_) | (with_reducible refine (M2_3.out _).mono ?_) | (with_reducible refine (M2_4.out _).mono ?_) | (with_reducible refine (M3_0.out _).mono ?_) | (with_reducible refine (M3_1.out _).mono ?_) | (with_reducible refine (M3_2.out _).mono ?_) | (with_reducible refine (M3_3.out _).mono ?_) | (with_reducible refine (M3_4.out _).mono ?_) | (with_reducible refine (M4_0.out _).mono ?_) | (with_reducible refine (M4_1.out _).mono ?_) | (with_reducible refine (M4_2.out _).mono ?_) | (with_reducible refine (M4_3.out _).mono ?_) | (with_reducible refine (M4_4.out _).mono ?_)); rintro e wN ⟨rfl, bN⟩; replace R := R.below bN; (try replace Q0 := Q0.below bN); (try replace Q1 := Q1.below bN); (try replace Q2 := Q2.below bN); (try replace Q3 := Q3.below bN); replace hbel := below_then hbel bN)
  | (with_reducible refine at_n 19 ?_; go_loud (refine wpList_newI rfl rfl 97 19 _ rfl rfl rfl rfl .u64 2 zero_wide info_wide (by first | decide | simp) ([prodR xs ys 0 / 18446744073709551616, prodR xs ys 0 % 18446744073709551616]) (by simp) (by simp [Act.eval]; exact HP0.out) (rfl) ?_); intro w19 B0 h19 l19 Q0 b19; have bB0 : w.heap.size ≤ B0 := Nat.le_trans hbel.size h19; have nR0 : w2.heap.size < B0 := Nat.lt_of_lt_of_le R.lt h19; replace R := R.below b19; (try replace Q1 := Q1.below b19); (try replace Q2 := Q2.below b19); (try replace Q3 := Q3.below b19); replace hbel := below_then hbel b19)
  | (with_reducible refine at_n 20 ?_; go_loud (refine wpList_newI rfl rfl 97 20 _ rfl rfl rfl rfl .u64 2 zero_wide info_wide (by first | decide | simp) ([prodR xs ys 1 / 18446744073709551616, prodR xs ys 1 % 18446744073709551616]) (by simp) (by simp [Act.eval]; exact HP1.out) (rfl) ?_); intro w20 B1 h20 l20 Q1 b20; have bB1 : w.heap.size ≤ B1 := Nat.le_trans hbel.size h20; have nR1 : w2.heap.size < B1 := Nat.lt_of_lt_of_le R.lt h20; replace R := R.below b20; (try replace Q0 := Q0.below b20); (try replace Q2 := Q2.below b20); (try replace Q3 := Q3.below b20); replace hbel := below_then hbel b20)
  | (with_reducible refine at_n 21 ?_; go_loud (refine wpList_newI rfl rfl 97 21 _ rfl rfl rfl rfl .u64 2 zero_wide info_wide (by first | decide | simp) ([prodR xs ys 2 / 18446744073709551616, prodR xs ys 2 % 18446744073709551616]) (by simp) (by simp [Act.eval]; exact HP2.out) (rfl) ?_); intro w21 B2 h21 l21 Q2 b21; have bB2 : w.heap.size ≤ B2 := Nat.le_trans hbel.size h21; have nR2 : w2.heap.size < B2 := Nat.lt_of_lt_of_le R.lt h21; replace R := R.below b21; (try replace Q0 := Q0.below b21); (try replace Q1 := Q1.below b21); (try replace Q3 := Q3.below b21); replace hbel := below_then hbel b21)
  | (with_reducible refine at_n 22 ?_; go_loud (refine wpList_newI rfl rfl 97 22 _ rfl rfl rfl rfl .u64 2 zero_wide info_wide (by first | decide | simp) ([prodR xs ys 3 / 18446744073709551616, prodR xs ys 3 % 18446744073709551616]) (by simp) (by simp [Act.eval]; exact HP3.out) (rfl) ?_); intro w22 B3 h22 l22 Q3 b22; have bB3 : w.heap.size ≤ B3 := Nat.le_trans hbel.size h22; have nR3 : w2.heap.size < B3 := Nat.lt_of_lt_of_le R.lt h22; replace R := R.below b22; (try replace Q0 := Q0.below b22); (try replace Q1 := Q1.below b22); (try replace Q2 := Q2.below b22); replace hbel := below_then hbel b22)
  | (with_reducible refine at_n 23 ?_; go_loud (refine wpList_newI rfl rfl 97 23 _ rfl rfl rfl rfl .u64 2 zero_wide info_wide (by first | decide | simp) ([prodR xs ys 4 / 18446744073709551616, prodR xs ys 4 % 18446744073709551616]) (by simp) (by simp [Act.eval]; exact HP4.out) (rfl) ?_); intro w23 B4 h23 l23 Q4 b23; have bB4 : w.heap.size ≤ B4 := Nat.le_trans hbel.size h23; have nR4 : w2.heap.size < B4 := Nat.lt_of_lt_of_le R.lt h23; replace R := R.below b23; (try replace Q0 := Q0.below b23); (try replace Q1 := Q1.below b23); (try replace Q2 := Q2.below b23); (try replace Q3 := Q3.below b23); replace hbel := below_then hbel b23))
 simp only [Act.put, List.setIfInBounds_toArray, List.set_cons_zero, List.set_cons_succ]
 clear HW HP0 HP1 HP2 HP3 HP4 M0_0 M0_1 M0_2 M0_3 M0_4 M1_0 M1_1 M1_2 M1_3 M1_4 M2_0 M2_1 M2_2 M2_3 M2_4 M3_0 M3_1 M3_2 M3_3 M3_4 M4_0 M4_1 M4_2 M4_3 M4_4 x0 x1 x2 x3 x4 y0 y1 y2 y3 y4 z1 z2 z3 z4
 refine wp_abs fun a0 hAct => ?_
 have hAsz : a0.tmps.size = 165 := by rw [hAct]; simp
 have hAdef : a0.defers = [] := by rw [hAct]
 have hI19 : a0.eval (.tmp 19) = .pointer (some ⟨B0, 0, none⟩) := by rw [hAct]; simp [Act.eval]
 have hI20 : a0.eval (.tmp 20) = .pointer (some ⟨B1, 0, none⟩) := by rw [hAct]; simp [Act.eval]
 have hI21 : a0.eval (.tmp 21) = .pointer (some ⟨B2, 0, none⟩) := by rw [hAct]; simp [Act.eval]
 have hI22 : a0.eval (.tmp 22) = .pointer (some ⟨B3, 0, none⟩) := by rw [hAct]; simp [Act.eval]
 have hI23 : a0.eval (.tmp 23) = .pointer (some ⟨B4, 0, none⟩) := by rw [hAct]; simp [Act.eval]
 have hI4 : a0.eval (.tmp 4) = .pointer (some ⟨w2.heap.size, 0, none⟩) := by rw [hAct]; simp [Act.eval]
 clear hAct
 refine wp_region_ord [[], [0], [1], [], [3], [4], [2, 5], [], [7], [8], [], [10, 4], [9, 11], [], [13], [14], [], [16, 11], [15, 17], [], [19], [20], [], [22, 17], [21, 23], [], [25], [26], [], [28, 23], [27, 29], [6, 12, 18, 24, 30], [31, 29], [32, 32, 0, 1, 2, 3, 4, 5, 6, 7, 8, 9, 10, 11, 12, 13, 14, 15, 16, 17, 18, 19, 20, 21, 22, 23, 24, 25, 26, 27, 28, 29, 30, 31, 32]] [some 132, some 133, some 134, some 135, some 136, some 137, some 138, some 139, some 140, some 141, some 142, some 143, some 144, some 145, some 146, some 147, some 148, some 149, some 150, some 151, some 152, some 153, some 154, some 155, some 156, some 157, some 158, some 159, some 160, some 161, some 162, some 163, some 164, none] 33 (fun b w' => (Arr .u64 w' B0 [prodR xs ys 0 / 18446744073709551616, prodR xs ys 0 % 18446744073709551616] ∧ Arr .u64 w' B1 [prodR xs ys 1 / 18446744073709551616, prodR xs ys 1 % 18446744073709551616] ∧ Arr .u64 w' B2 [prodR xs ys 2 / 18446744073709551616, prodR xs ys 2 % 18446744073709551616] ∧ Arr .u64 w' B3 [prodR xs ys 3 / 18446744073709551616, prodR xs ys 3 % 18446744073709551616] ∧ Arr .u64 w' B4 [prodR xs ys 4 / 18446744073709551616, prodR xs ys 4 % 18446744073709551616]) ∧ Arr .u64 w' w2.heap.size (if b then carriedS (timesL xs ys) else List.replicate 5 0) ∧ Below w.heap.size w w') (fun opn f _ => match opn with | 0 => f 0 = .pointer (some ⟨B0, 1, none⟩) | 1 => f 1 = .int .u64 (prodR xs ys 0 % 18446744073709551616) | 2 => f 2 = .int .u64 (prodR xs ys 0 % 2251799813685248) | 3 => f 3 = aggI .u64 [prodR xs ys 4 / 18446744073709551616, prodR xs ys 4 % 18446744073709551616] | 4 => f 4 = .int .u64 (prodR xs ys 4 / 2251799813685248) | 5 => f 5 = .int .u64 (prodR xs ys 4 / 2251799813685248 * 19) | 6 => f 6 = .int .u64 (prodR xs ys 0 % 2251799813685248 + prodR xs ys 4 / 2251799813685248 * 19) | 7 => f 7 = .pointer (some ⟨B1, 1, none⟩) | 8 => f 8 = .int .u64 (prodR xs ys 1 % 18446744073709551616) | 9 => f 9 = .int .u64 (prodR xs ys 1 % 2251799813685248) | 10 => f 10 = aggI .u64 [prodR xs ys 0 / 18446744073709551616, prodR xs ys 0 % 18446744073709551616] | 11 => f 11 = .int .u64 (prodR xs ys 0 / 2251799813685248) | 12 => f 12 = .int .u64 (prodR xs ys 1 % 2251799813685248 + prodR xs ys 0 / 2251799813685248) | 13 => f 13 = .pointer (some ⟨B2, 1, none⟩) | 14 => f 14 = .int .u64 (prodR xs ys 2 % 18446744073709551616) | 15 => f 15 = .int .u64 (prodR xs ys 2 % 2251799813685248) | 16 => f 16 = aggI .u64 [prodR xs ys 1 / 18446744073709551616, prodR xs ys 1 % 18446744073709551616] | 17 => f 17 = .int .u64 (prodR xs ys 1 / 2251799813685248) | 18 => f 18 = .int .u64 (prodR xs ys 2 % 2251799813685248 + prodR xs ys 1 / 2251799813685248) | 19 => f 19 = .pointer (some ⟨B3, 1, none⟩) | 20 => f 20 = .int .u64 (prodR xs ys 3 % 18446744073709551616) | 21 => f 21 = .int .u64 (prodR xs ys 3 % 2251799813685248) | 22 => f 22 = aggI .u64 [prodR xs ys 2 / 18446744073709551616, prodR xs ys 2 % 18446744073709551616] | 23 => f 23 = .int .u64 (prodR xs ys 2 / 2251799813685248) | 24 => f 24 = .int .u64 (prodR xs ys 3 % 2251799813685248 + prodR xs ys 2 / 2251799813685248) | 25 => f 25 = .pointer (some ⟨B4, 1, none⟩) | 26 => f 26 = .int .u64 (prodR xs ys 4 % 18446744073709551616) | 27 => f 27 = .int .u64 (prodR xs ys 4 % 2251799813685248) | 28 => f 28 = aggI .u64 [prodR xs ys 3 / 18446744073709551616, prodR xs ys 3 % 18446744073709551616] | 29 => f 29 = .int .u64 (prodR xs ys 3 / 2251799813685248) | 30 => f 30 = .int .u64 (prodR xs ys 4 % 2251799813685248 + prodR xs ys 3 / 2251799813685248) | 31 => f 31 = aggI .u64 (timesL xs ys) | 32 => f 32 = aggI .u64 (carriedS (timesL xs ys)) | 33 => f 33 = undef | _ => True) (fun _ v v' => ∃ cs, v' = v.setRow w2.heap.size cs) (by kernel_rfl) (by kernel_rfl) (by kernel_rfl) (by kernel_rfl) (fun b v v' hb h => ⟨⟨h.1.1.below hb, h.1.2.1.below hb, h.1.2.2.1.below hb, h.1.2.2.2.1.below hb, h.1.2.2.2.2.below hb⟩, h.2.1.below hb, below_then h.2.2 hb⟩) (fun _ _ _ _ _ h => h) (fun _ _ _ _ _ _ _ h => h) ⟨⟨Q0.drew, Q1.drew, Q2.drew, Q3.drew, Q4.drew⟩, R.drew, hbel.drew⟩ ?_ ?_
 ·
  refine StepL.other (k := 0) rfl (fun b f W hb hG hH => ?_) ?_
  ·
   obtain rfl := hb rfl
   clear hH
   generalize hA : putL _ _ _ _ = A
   have q19 : A.eval (.tmp 19) = .pointer (some ⟨B0, 0, none⟩) := by rw [← hA]; exact putL_none rfl hAsz rfl hI19
   have r19 := slot_get q19
   clear hA
   refine Does.pure rfl (.pointer (some ⟨B0, 1, none⟩)) ?_ ⟨Below.refl _ _, rfl⟩
   go_simp
  refine StepL.other (k := 1) rfl (fun b f W hb hG hH => ?_) ?_
  ·
   obtain rfl := hb rfl
   obtain ⟨d0, -⟩ := hH
   generalize hA : putL _ _ _ _ = A
   have q132 : A.eval (.tmp 132) = .pointer (some ⟨B0, 1, none⟩) := by rw [← hA]; exact putL_look rfl hAsz rfl d0
   have r132 := slot_get q132
   clear hA
   have c0 := (hG.1.1).cell (k := 1) (by simp)
   have e0 : at0 [prodR xs ys 0 / 18446744073709551616, prodR xs ys 0 % 18446744073709551616] 1 = prodR xs ys 0 % 18446744073709551616 := rfl
   rw [e0] at c0
   refine Does.pure rfl (.int .u64 (prodR xs ys 0 % 18446744073709551616)) ?_ ⟨Below.refl _ _, rfl⟩
   go_simp
  refine StepL.other (k := 2) rfl (fun b f W hb hG hH => ?_) ?_
  ·
   obtain rfl := hb rfl
   obtain ⟨d1, -⟩ := hH
   generalize hA : putL _ _ _ _ = A
   have q133 : A.eval (.tmp 133) = .int .u64 (prodR xs ys 0 % 18446744073709551616) := by rw [← hA]; exact putL_look rfl hAsz rfl d1
   have r133 := slot_get q133
   clear hA
   have e0 := mk0.out
   refine Does.pure rfl (.int .u64 (prodR xs ys 0 % 2251799813685248)) ?_ ⟨Below.refl _ _, rfl⟩
   go_simp
  refine StepL.other (k := 3) rfl (fun b f W hb hG hH => ?_) ?_
  ·
   obtain rfl := hb rfl
   clear hH
   generalize hA : putL _ _ _ _ = A
   have q23 : A.eval (.tmp 23) = .pointer (some ⟨B4, 0, none⟩) := by rw [← hA]; exact putL_none rfl hAsz rfl hI23
   have r23 := slot_get q23
   clear hA
   exact Does.loadS rfl 97 _ rfl 2 _ Tryd.underlying97 info_wide B4 q23 .u64 [prodR xs ys 4 / 18446744073709551616, prodR xs ys 4 % 18446744073709551616] (hG.1.2.2.2.2) rfl ⟨Below.refl _ _, rfl⟩
  refine StepL.other (k := 4) rfl (fun b f W hb hG hH => ?_) ?_
  ·
   obtain rfl := hb rfl
   obtain ⟨d3, -⟩ := hH
   generalize hA : putL _ _ _ _ = A
   have q135 : A.eval (.tmp 135) = aggI .u64 [prodR xs ys 4 / 18446744073709551616, prodR xs ys 4 % 18446744073709551616] := by rw [← hA]; exact putL_look rfl hAsz rfl d3
   have r135 := slot_get q135
   clear hA
   have HS : Calls Tryd.prog 82 #[aggI .u64 [prodR xs ys 4 / 18446744073709551616, prodR xs ys 4 % 18446744073709551616]] W fun e w' => e = .returned (.int .u64 (prodR xs ys 4 / 2251799813685248)) ∧ Below W.heap.size W w' := shifted_any (prodR xs ys 4) W (pr4).1 (by have := (pr4).2; omega)
   refine Does.call rfl _ _ (by go_simp) ((HS).mono ?_)
   rintro e w' ⟨rfl, hb'⟩
   exact ⟨_, rfl, hb', rfl⟩
  refine StepL.other (k := 5) rfl (fun b f W hb hG hH => ?_) ?_
  ·
   obtain rfl := hb rfl
   obtain ⟨d4, -⟩ := hH
   generalize hA : putL _ _ _ _ = A
   have q136 : A.eval (.tmp 136) = .int .u64 (prodR xs ys 4 / 2251799813685248) := by rw [← hA]; exact putL_look rfl hAsz rfl d4
   have r136 := slot_get q136
   clear hA
   have e0 := wm.out
   refine Does.pure rfl (.int .u64 (prodR xs ys 4 / 2251799813685248 * 19)) ?_ ⟨Below.refl _ _, rfl⟩
   go_simp
  refine StepL.other (k := 6) rfl (fun b f W hb hG hH => ?_) ?_
  ·
   obtain rfl := hb rfl
   obtain ⟨d2, d5, -⟩ := hH
   generalize hA : putL _ _ _ _ = A
   have q134 : A.eval (.tmp 134) = .int .u64 (prodR xs ys 0 % 2251799813685248) := by rw [← hA]; exact putL_look rfl hAsz rfl d2
   have r134 := slot_get q134
   have q137 : A.eval (.tmp 137) = .int .u64 (prodR xs ys 4 / 2251799813685248 * 19) := by rw [← hA]; exact putL_look rfl hAsz rfl d5
   have r137 := slot_get q137
   clear hA
   have e0 := ws0.out
   refine Does.pure rfl (.int .u64 (prodR xs ys 0 % 2251799813685248 + prodR xs ys 4 / 2251799813685248 * 19)) ?_ ⟨Below.refl _ _, rfl⟩
   go_simp
  refine StepL.other (k := 7) rfl (fun b f W hb hG hH => ?_) ?_
  ·
   obtain rfl := hb rfl
   clear hH
   generalize hA : putL _ _ _ _ = A
   have q20 : A.eval (.tmp 20) = .pointer (some ⟨B1, 0, none⟩) := by rw [← hA]; exact putL_none rfl hAsz rfl hI20
   have r20 := slot_get q20
   clear hA
   refine Does.pure rfl (.pointer (some ⟨B1, 1, none⟩)) ?_ ⟨Below.refl _ _, rfl⟩
   go_simp
  refine StepL.other (k := 8) rfl (fun b f W hb hG hH => ?_) ?_
  ·
   obtain rfl := hb rfl
   obtain ⟨d7, -⟩ := hH
   generalize hA : putL _ _ _ _ = A
   have q139 : A.eval (.tmp 139) = .pointer (some ⟨B1, 1, none⟩) := by rw [← hA]; exact putL_look rfl hAsz rfl d7
   have r139 := slot_get q139
   clear hA
   have c0 := (hG.1.2.1).cell (k := 1) (by simp)
   have e0 : at0 [prodR xs ys 1 / 18446744073709551616, prodR xs ys 1 % 18446744073709551616] 1 = prodR xs ys 1 % 18446744073709551616 := rfl
   rw [e0] at c0
   refine Does.pure rfl (.int .u64 (prodR xs ys 1 % 18446744073709551616)) ?_ ⟨Below.refl _ _, rfl⟩
   go_simp
  refine StepL.other (k := 9) rfl (fun b f W hb hG hH => ?_) ?_
  ·
   obtain rfl := hb rfl
   obtain ⟨d8, -⟩ := hH
   generalize hA : putL _ _ _ _ = A
   have q140 : A.eval (.tmp 140) = .int .u64 (prodR xs ys 1 % 18446744073709551616) := by rw [← hA]; exact putL_look rfl hAsz rfl d8
   have r140 := slot_get q140
   clear hA
   have e0 := mk1.out
   refine Does.pure rfl (.int .u64 (prodR xs ys 1 % 2251799813685248)) ?_ ⟨Below.refl _ _, rfl⟩
   go_simp
  refine StepL.other (k := 10) rfl (fun b f W hb hG hH => ?_) ?_
  ·
   obtain rfl := hb rfl
   clear hH
   generalize hA : putL _ _ _ _ = A
   have q19 : A.eval (.tmp 19) = .pointer (some ⟨B0, 0, none⟩) := by rw [← hA]; exact putL_none rfl hAsz rfl hI19
   have r19 := slot_get q19
   clear hA
   exact Does.loadS rfl 97 _ rfl 2 _ Tryd.underlying97 info_wide B0 q19 .u64 [prodR xs ys 0 / 18446744073709551616, prodR xs ys 0 % 18446744073709551616] (hG.1.1) rfl ⟨Below.refl _ _, rfl⟩
  refine StepL.other (k := 11) rfl (fun b f W hb hG hH => ?_) ?_
  ·
   obtain rfl := hb rfl
   obtain ⟨d10, d4, -⟩ := hH
   generalize hA : putL _ _ _ _ = A
   have q142 : A.eval (.tmp 142) = aggI .u64 [prodR xs ys 0 / 18446744073709551616, prodR xs ys 0 % 18446744073709551616] := by rw [← hA]; exact putL_look rfl hAsz rfl d10
   have r142 := slot_get q142
   clear hA
   have HS : Calls Tryd.prog 82 #[aggI .u64 [prodR xs ys 0 / 18446744073709551616, prodR xs ys 0 % 18446744073709551616]] W fun e w' => e = .returned (.int .u64 (prodR xs ys 0 / 2251799813685248)) ∧ Below W.heap.size W w' := shifted_any (prodR xs ys 0) W (pr0).1 (by have := (pr0).2; omega)
   refine Does.call rfl _ _ (by go_simp) ((HS).mono ?_)
   rintro e w' ⟨rfl, hb'⟩
   exact ⟨_, rfl, hb', rfl⟩
  refine StepL.other (k := 12) rfl (fun b f W hb hG hH => ?_) ?_
  ·
   obtain rfl := hb rfl
   obtain ⟨d9, d11, -⟩ := hH
   generalize hA : putL _ _ _ _ = A
   have q141 : A.eval (.tmp 141) = .int .u64 (prodR xs ys 1 % 2251799813685248) := by rw [← hA]; exact putL_look rfl hAsz rfl d9
   have r141 := slot_get q141
   have q143 : A.eval (.tmp 143) = .int .u64 (prodR xs ys 0 / 2251799813685248) := by rw [← hA]; exact putL_look rfl hAsz rfl d11
   have r143 := slot_get q143
   clear hA
   have e0 := ws1.out
   refine Does.pure rfl (.int .u64 (prodR xs ys 1 % 2251799813685248 + prodR xs ys 0 / 2251799813685248)) ?_ ⟨Below.refl _ _, rfl⟩
   go_simp
  refine StepL.other (k := 13) rfl (fun b f W hb hG hH => ?_) ?_
  ·
   obtain rfl := hb rfl
   clear hH
   generalize hA : putL _ _ _ _ = A
   have q21 : A.eval (.tmp 21) = .pointer (some ⟨B2, 0, none⟩) := by rw [← hA]; exact putL_none rfl hAsz rfl hI21
   have r21 := slot_get q21
   clear hA
   refine Does.pure rfl (.pointer (some ⟨B2, 1, none⟩)) ?_ ⟨Below.refl _ _, rfl⟩
   go_simp
  refine StepL.other (k := 14) rfl (fun b f W hb hG hH => ?_) ?_
  ·
   obtain rfl := hb rfl
   obtain ⟨d13, -⟩ := hH
   generalize hA : putL _ _ _ _ = A
   have q145 : A.eval (.tmp 145) = .pointer (some ⟨B2, 1, none⟩) := by rw [← hA]; exact putL_look rfl hAsz rfl d13
   have r145 := slot_get q145
   clear hA
   have c0 := (hG.1.2.2.1).cell (k := 1) (by simp)
   have e0 : at0 [prodR xs ys 2 / 18446744073709551616, prodR xs ys 2 % 18446744073709551616] 1 = prodR xs ys 2 % 18446744073709551616 := rfl
   rw [e0] at c0
   refine Does.pure rfl (.int .u64 (prodR xs ys 2 % 18446744073709551616)) ?_ ⟨Below.refl _ _, rfl⟩
   go_simp
  refine StepL.other (k := 15) rfl (fun b f W hb hG hH => ?_) ?_
  ·
   obtain rfl := hb rfl
   obtain ⟨d14, -⟩ := hH
   generalize hA : putL _ _ _ _ = A
   have q146 : A.eval (.tmp 146) = .int .u64 (prodR xs ys 2 % 18446744073709551616) := by rw [← hA]; exact putL_look rfl hAsz rfl d14
   have r146 := slot_get q146
   clear hA
   have e0 := mk2.out
   refine Does.pure rfl (.int .u64 (prodR xs ys 2 % 2251799813685248)) ?_ ⟨Below.refl _ _, rfl⟩
   go_simp
  refine StepL.other (k := 16) rfl (fun b f W hb hG hH => ?_) ?_
  ·
   obtain rfl := hb rfl
   clear hH
   generalize hA : putL _ _ _ _ = A
   have q20 : A.eval (.tmp 20) = .pointer (some ⟨B1, 0, none⟩) := by rw [← hA]; exact putL_none rfl hAsz rfl hI20
   have r20 := slot_get q20
   clear hA
   exact Does.loadS rfl 97 _ rfl 2 _ Tryd.underlying97 info_wide B1 q20 .u64 [prodR xs ys 1 / 18446744073709551616, prodR xs ys 1 % 18446744073709551616] (hG.1.2.1) rfl ⟨Below.refl _ _, rfl⟩
  refine StepL.other (k := 17) rfl (fun b f W hb hG hH => ?_) ?_
  ·
   obtain rfl := hb rfl
   obtain ⟨d16, d11, -⟩ := hH
   generalize hA : putL _ _ _ _ = A
   have q148 : A.eval (.tmp 148) = aggI .u64 [prodR xs ys 1 / 18446744073709551616, prodR xs ys 1 % 18446744073709551616] := by rw [← hA]; exact putL_look rfl hAsz rfl d16
   have r148 := slot_get q148
   clear hA
   have HS : Calls Tryd.prog 82 #[aggI .u64 [prodR xs ys 1 / 18446744073709551616, prodR xs ys 1 % 18446744073709551616]] W fun e w' => e = .returned (.int .u64 (prodR xs ys 1 / 2251799813685248)) ∧ Below W.heap.size W w' := shifted_any (prodR xs ys 1) W (pr1).1 (by have := (pr1).2; omega)
   refine Does.call rfl _ _ (by go_simp) ((HS).mono ?_)
   rintro e w' ⟨rfl, hb'⟩
   exact ⟨_, rfl, hb', rfl⟩
  refine StepL.other (k := 18) rfl (fun b f W hb hG hH => ?_) ?_
  ·
   obtain rfl := hb rfl
   obtain ⟨d15, d17, -⟩ := hH
   generalize hA : putL _ _ _ _ = A
   have q147 : A.eval (.tmp 147) = .int .u64 (prodR xs ys 2 % 2251799813685248) := by rw [← hA]; exact putL_look rfl hAsz rfl d15
   have r147 := slot_get q147
   have q149 : A.eval (.tmp 149) = .int .u64 (prodR xs ys 1 / 2251799813685248) := by rw [← hA]; exact putL_look rfl hAsz rfl d17
   have r149 := slot_get q149
   clear hA
   have e0 := ws2.out
   refine Does.pure rfl (.int .u64 (prodR xs ys 2 % 2251799813685248 + prodR xs ys 1 / 2251799813685248)) ?_ ⟨Below.refl _ _, rfl⟩
   go_simp
  refine StepL.other (k := 19) rfl (fun b f W hb hG hH => ?_) ?_
  ·
   obtain rfl := hb rfl
   clear hH
   generalize hA : putL _ _ _ _ = A
   have q22 : A.eval (.tmp 22) = .pointer (some ⟨B3, 0, none⟩) := by rw [← hA]; exact putL_none rfl hAsz rfl hI22
   have r22 := slot_get q22
   clear hA
   refine Does.pure rfl (.pointer (some ⟨B3, 1, none⟩)) ?_ ⟨Below.refl _ _, rfl⟩
   go_simp
  refine StepL.other (k := 20) rfl (fun b f W hb hG hH => ?_) ?_
  ·
   obtain rfl := hb rfl
   obtain ⟨d19, -⟩ := hH
   generalize hA : putL _ _ _ _ = A
   have q151 : A.eval (.tmp 151) = .pointer (some ⟨B3, 1, none⟩) := by rw [← hA]; exact putL_look rfl hAsz rfl d19
   have r151 := slot_get q151
   clear hA
   have c0 := (hG.1.2.2.2.1).cell (k := 1) (by simp)
   have e0 : at0 [prodR xs ys 3 / 18446744073709551616, prodR xs ys 3 % 18446744073709551616] 1 = prodR xs ys 3 % 18446744073709551616 := rfl
   rw [e0] at c0
   refine Does.pure rfl (.int .u64 (prodR xs ys 3 % 18446744073709551616)) ?_ ⟨Below.refl _ _, rfl⟩
   go_simp
  refine StepL.other (k := 21) rfl (fun b f W hb hG hH => ?_) ?_
  ·
   obtain rfl := hb rfl
   obtain ⟨d20, -⟩ := hH
   generalize hA : putL _ _ _ _ = A
   have q152 : A.eval (.tmp 152) = .int .u64 (prodR xs ys 3 % 18446744073709551616) := by rw [← hA]; exact putL_look rfl hAsz rfl d20
   have r152 := slot_get q152
   clear hA
   have e0 := mk3.out
   refine Does.pure rfl (.int .u64 (prodR xs ys 3 % 2251799813685248)) ?_ ⟨Below.refl _ _, rfl⟩
   go_simp
  refine StepL.other (k := 22) rfl (fun b f W hb hG hH => ?_) ?_
  ·
   obtain rfl := hb rfl
   clear hH
   generalize hA : putL _ _ _ _ = A
   have q21 : A.eval (.tmp 21) = .pointer (some ⟨B2, 0, none⟩) := by rw [← hA]; exact putL_none rfl hAsz rfl hI21
   have r21 := slot_get q21
   clear hA
   exact Does.loadS rfl 97 _ rfl 2 _ Tryd.underlying97 info_wide B2 q21 .u64 [prodR xs ys 2 / 18446744073709551616, prodR xs ys 2 % 18446744073709551616] (hG.1.2.2.1) rfl ⟨Below.refl _ _, rfl⟩
  refine StepL.other (k := 23) rfl (fun b f W hb hG hH => ?_) ?_
  ·
   obtain rfl := hb rfl
   obtain ⟨d22, d17, -⟩ := hH
   generalize hA : putL _ _ _ _ = A
   have q154 : A.eval (.tmp 154) = aggI .u64 [prodR xs ys 2 / 18446744073709551616, prodR xs ys 2 % 18446744073709551616] := by rw [← hA]; exact putL_look rfl hAsz rfl d22
   have r154 := slot_get q154
   clear hA
   have HS : Calls Tryd.prog 82 #[aggI .u64 [prodR xs ys 2 / 18446744073709551616, prodR xs ys 2 % 18446744073709551616]] W fun e w' => e = .returned (.int .u64 (prodR xs ys 2 / 2251799813685248)) ∧ Below W.heap.size W w' := shifted_any (prodR xs ys 2) W (pr2).1 (by have := (pr2).2; omega)
   refine Does.call rfl _ _ (by go_simp) ((HS).mono ?_)
   rintro e w' ⟨rfl, hb'⟩
   exact ⟨_, rfl, hb', rfl⟩
  refine StepL.other (k := 24) rfl (fun b f W hb hG hH => ?_) ?_
  ·
   obtain rfl := hb rfl
   obtain ⟨d21, d23, -⟩ := hH
   generalize hA : putL _ _ _ _ = A
   have q153 : A.eval (.tmp 153) = .int .u64 (prodR xs ys 3 % 2251799813685248) := by rw [← hA]; exact putL_look rfl hAsz rfl d21
   have r153 := slot_get q153
   have q155 : A.eval (.tmp 155) = .int .u64 (prodR xs ys 2 / 2251799813685248) := by rw [← hA]; exact putL_look rfl hAsz rfl d23
   have r155 := slot_get q155
   clear hA
   have e0 := ws3.out
   refine Does.pure rfl (.int .u64 (prodR xs ys 3 % 2251799813685248 + prodR xs ys 2 / 2251799813685248)) ?_ ⟨Below.refl _ _, rfl⟩
   go_simp
  refine StepL.other (k := 25) rfl (fun b f W hb hG hH => ?_) ?_
  ·
   obtain rfl := hb rfl
   clear hH
   generalize hA : putL _ _ _ _ = A
   have q23 : A.eval (.tmp 23) = .pointer (some ⟨B4, 0, none⟩) := by rw [← hA]; exact putL_none rfl hAsz rfl hI23
   have r23 := slot_get q23
   clear hA
   refine Does.pure rfl (.pointer (some ⟨B4, 1, none⟩)) ?_ ⟨Below.refl _ _, rfl⟩
   go_simp
  refine StepL.other (k := 26) rfl (fun b f W hb hG hH => ?_) ?_
  ·
   obtain rfl := hb rfl
   obtain ⟨d25, -⟩ := hH
   generalize hA : putL _ _ _ _ = A
   have q157 : A.eval (.tmp 157) = .pointer (some ⟨B4, 1, none⟩) := by rw [← hA]; exact putL_look rfl hAsz rfl d25
   have r157 := slot_get q157
   clear hA
   have c0 := (hG.1.2.2.2.2).cell (k := 1) (by simp)
   have e0 : at0 [prodR xs ys 4 / 18446744073709551616, prodR xs ys 4 % 18446744073709551616] 1 = prodR xs ys 4 % 18446744073709551616 := rfl
   rw [e0] at c0
   refine Does.pure rfl (.int .u64 (prodR xs ys 4 % 18446744073709551616)) ?_ ⟨Below.refl _ _, rfl⟩
   go_simp
  refine StepL.other (k := 27) rfl (fun b f W hb hG hH => ?_) ?_
  ·
   obtain rfl := hb rfl
   obtain ⟨d26, -⟩ := hH
   generalize hA : putL _ _ _ _ = A
   have q158 : A.eval (.tmp 158) = .int .u64 (prodR xs ys 4 % 18446744073709551616) := by rw [← hA]; exact putL_look rfl hAsz rfl d26
   have r158 := slot_get q158
   clear hA
   have e0 := mk4.out
   refine Does.pure rfl (.int .u64 (prodR xs ys 4 % 2251799813685248)) ?_ ⟨Below.refl _ _, rfl⟩
   go_simp
  refine StepL.other (k := 28) rfl (fun b f W hb hG hH => ?_) ?_
  ·
   obtain rfl := hb rfl
   clear hH
   generalize hA : putL _ _ _ _ = A
   have q22 : A.eval (.tmp 22) = .pointer (some ⟨B3, 0, none⟩) := by rw [← hA]; exact putL_none rfl hAsz rfl hI22
   have r22 := slot_get q22
   clear hA
   exact Does.loadS rfl 97 _ rfl 2 _ Tryd.underlying97 info_wide B3 q22 .u64 [prodR xs ys 3 / 18446744073709551616, prodR xs ys 3 % 18446744073709551616] (hG.1.2.2.2.1) rfl ⟨Below.refl _ _, rfl⟩
  refine StepL.other (k := 29) rfl (fun b f W hb hG hH => ?_) ?_
  ·
   obtain rfl := hb rfl
   obtain ⟨d28, d23, -⟩ := hH
   generalize hA : putL _ _ _ _ = A
   have q160 : A.eval (.tmp 160) = aggI .u64 [prodR xs ys 3 / 18446744073709551616, prodR xs ys 3 % 18446744073709551616] := by rw [← hA]; exact putL_look rfl hAsz rfl d28
   have r160 := slot_get q160
   clear hA
   have HS : Calls Tryd.prog 82 #[aggI .u64 [prodR xs ys 3 / 18446744073709551616, prodR xs ys 3 % 18446744073709551616]] W fun e w' => e = .returned (.int .u64 (prodR xs ys 3 / 2251799813685248)) ∧ Below W.heap.size W w' := shifted_any (prodR xs ys 3) W (pr3).1 (by have := (pr3).2; omega)
   refine Does.call rfl _ _ (by go_simp) ((HS).mono ?_)
   rintro e w' ⟨rfl, hb'⟩
   exact ⟨_, rfl, hb', rfl⟩
  refine StepL.other (k := 30) rfl (fun b f W hb hG hH => ?_) ?_
  ·
   obtain rfl := hb rfl
   obtain ⟨d27, d29, -⟩ := hH
   generalize hA : putL _ _ _ _ = A
   have q159 : A.eval (.tmp 159) = .int .u64 (prodR xs ys 4 % 2251799813685248) := by rw [← hA]; exact putL_look rfl hAsz rfl d27
   have r159 := slot_get q159
   have q161 : A.eval (.tmp 161) = .int .u64 (prodR xs ys 3 / 2251799813685248) := by rw [← hA]; exact putL_look rfl hAsz rfl d29
   have r161 := slot_get q161
   clear hA
   have e0 := ws4.out
   refine Does.pure rfl (.int .u64 (prodR xs ys 4 % 2251799813685248 + prodR xs ys 3 / 2251799813685248)) ?_ ⟨Below.refl _ _, rfl⟩
   go_simp
  refine StepL.other (k := 31) rfl (fun b f W hb hG hH => ?_) ?_
  ·
   obtain rfl := hb rfl
   obtain ⟨d6, d12, d18, d24, d30, -⟩ := hH
   generalize hA : putL _ _ _ _ = A
   have q138 : A.eval (.tmp 138) = .int .u64 (prodR xs ys 0 % 2251799813685248 + prodR xs ys 4 / 2251799813685248 * 19) := by rw [← hA]; exact putL_look rfl hAsz rfl d6
   have r138 := slot_get q138
   have q144 : A.eval (.tmp 144) = .int .u64 (prodR xs ys 1 % 2251799813685248 + prodR xs ys 0 / 2251799813685248) := by rw [← hA]; exact putL_look rfl hAsz rfl d12
   have r144 := slot_get q144
   have q150 : A.eval (.tmp 150) = .int .u64 (prodR xs ys 2 % 2251799813685248 + prodR xs ys 1 / 2251799813685248) := by rw [← hA]; exact putL_look rfl hAsz rfl d18
   have r150 := slot_get q150
   have q156 : A.eval (.tmp 156) = .int .u64 (prodR xs ys 3 % 2251799813685248 + prodR xs ys 2 / 2251799813685248) := by rw [← hA]; exact putL_look rfl hAsz rfl d24
   have r156 := slot_get q156
   have q162 : A.eval (.tmp 162) = .int .u64 (prodR xs ys 4 % 2251799813685248 + prodR xs ys 3 / 2251799813685248) := by rw [← hA]; exact putL_look rfl hAsz rfl d30
   have r162 := slot_get q162
   clear hA
   exact Does.buildI rfl 42 _ rfl .u64 (timesL xs ys) _ (built_limbs _ _ _ _ _) (by simp only [List.map_cons, List.map_nil, q138, q144, q150, q156, q162]) ⟨Below.refl _ _, rfl⟩
  refine StepL.other (k := 32) rfl (fun b f W hb hG hH => ?_) ?_
  ·
   obtain rfl := hb rfl
   obtain ⟨d31, d29, -⟩ := hH
   generalize hA : putL _ _ _ _ = A
   have q163 : A.eval (.tmp 163) = aggI .u64 (timesL xs ys) := by rw [← hA]; exact putL_look rfl hAsz rfl d31
   have r163 := slot_get q163
   clear hA
   refine Does.call rfl _ _ (by go_simp) ((carried_any (timesL xs ys) W (timesL_words hx hy) rfl).mono ?_)
   rintro e w' ⟨rfl, hb'⟩
   exact ⟨_, rfl, hb', rfl⟩
  refine StepL.self (k := 33) rfl (fun f W hG hH => ?_) ?_
  ·
   obtain ⟨d32, -, d0, d1, d2, d3, d4, d5, d6, d7, d8, d9, d10, d11, d12, d13, d14, d15, d16, d17, d18, d19, d20, d21, d22, d23, d24, d25, d26, d27, d28, d29, d30, d31, -, -⟩ := hH
   generalize hA : putL _ _ _ _ = A
   have q4 : A.eval (.tmp 4) = .pointer (some ⟨w2.heap.size, 0, none⟩) := by rw [← hA]; exact putL_none rfl hAsz rfl hI4
   have r4 := slot_get q4
   have q164 : A.eval (.tmp 164) = aggI .u64 (carriedS (timesL xs ys)) := by rw [← hA]; exact putL_look rfl hAsz rfl d32
   have r164 := slot_get q164
   clear hA
   refine Does.storeI rfl 42 _ _ rfl 5 info_limbs w2.heap.size q4 .u64 (List.replicate 5 0) _ q164 hG.2.1 rfl rfl ?_
   intro A9
   exact ⟨⟨_, rfl⟩, ⟨⟨hG.1.1.rowOther (by omega) _, hG.1.2.1.rowOther (by omega) _, hG.1.2.2.1.rowOther (by omega) _, hG.1.2.2.2.1.rowOther (by omega) _, hG.1.2.2.2.2.rowOther (by omega) _⟩, A9, Below.setRow hG.2.2 (by omega) _⟩, rfl⟩
  exact trivial
 ·
  intro f W hG hH
  obtain ⟨d0, d1, d2, d3, d4, d5, d6, d7, d8, d9, d10, d11, d12, d13, d14, d15, d16, d17, d18, d19, d20, d21, d22, d23, d24, d25, d26, d27, d28, d29, d30, d31, d32, d33, -⟩ : (f 0 = .pointer (some ⟨B0, 1, none⟩)) ∧ (f 1 = .int .u64 (prodR xs ys 0 % 18446744073709551616)) ∧ (f 2 = .int .u64 (prodR xs ys 0 % 2251799813685248)) ∧ (f 3 = aggI .u64 [prodR xs ys 4 / 18446744073709551616, prodR xs ys 4 % 18446744073709551616]) ∧ (f 4 = .int .u64 (prodR xs ys 4 / 2251799813685248)) ∧ (f 5 = .int .u64 (prodR xs ys 4 / 2251799813685248 * 19)) ∧ (f 6 = .int .u64 (prodR xs ys 0 % 2251799813685248 + prodR xs ys 4 / 2251799813685248 * 19)) ∧ (f 7 = .pointer (some ⟨B1, 1, none⟩)) ∧ (f 8 = .int .u64 (prodR xs ys 1 % 18446744073709551616)) ∧ (f 9 = .int .u64 (prodR xs ys 1 % 2251799813685248)) ∧ (f 10 = aggI .u64 [prodR xs ys 0 / 18446744073709551616, prodR xs ys 0 % 18446744073709551616]) ∧ (f 11 = .int .u64 (prodR xs ys 0 / 2251799813685248)) ∧ (f 12 = .int .u64 (prodR xs ys 1 % 2251799813685248 + prodR xs ys 0 / 2251799813685248)) ∧ (f 13 = .pointer (some ⟨B2, 1, none⟩)) ∧ (f 14 = .int .u64 (prodR xs ys 2 % 18446744073709551616)) ∧ (f 15 = .int .u64 (prodR xs ys 2 % 2251799813685248)) ∧ (f 16 = aggI .u64 [prodR xs ys 1 / 18446744073709551616, prodR xs ys 1 % 18446744073709551616]) ∧ (f 17 = .int .u64 (prodR xs ys 1 / 2251799813685248)) ∧ (f 18 = .int .u64 (prodR xs ys 2 % 2251799813685248 + prodR xs ys 1 / 2251799813685248)) ∧ (f 19 = .pointer (some ⟨B3, 1, none⟩)) ∧ (f 20 = .int .u64 (prodR xs ys 3 % 18446744073709551616)) ∧ (f 21 = .int .u64 (prodR xs ys 3 % 2251799813685248)) ∧ (f 22 = aggI .u64 [prodR xs ys 2 / 18446744073709551616, prodR xs ys 2 % 18446744073709551616]) ∧ (f 23 = .int .u64 (prodR xs ys 2 / 2251799813685248)) ∧ (f 24 = .int .u64 (prodR xs ys 3 % 2251799813685248 + prodR xs ys 2 / 2251799813685248)) ∧ (f 25 = .pointer (some ⟨B4, 1, none⟩)) ∧ (f 26 = .int .u64 (prodR xs ys 4 % 18446744073709551616)) ∧ (f 27 = .int .u64 (prodR xs ys 4 % 2251799813685248)) ∧ (f 28 = aggI .u64 [prodR xs ys 3 / 18446744073709551616, prodR xs ys 3 % 18446744073709551616]) ∧ (f 29 = .int .u64 (prodR xs ys 3 / 2251799813685248)) ∧ (f 30 = .int .u64 (prodR xs ys 4 % 2251799813685248 + prodR xs ys 3 / 2251799813685248)) ∧ (f 31 = aggI .u64 (timesL xs ys)) ∧ (f 32 = aggI .u64 (carriedS (timesL xs ys))) ∧ (f 33 = undef) ∧ True := hH
  rw [show List.range (List.length [[], [0], [1], [], [3], [4], [2, 5], [], [7], [8], [], [10, 4], [9, 11], [], [13], [14], [], [16, 11], [15, 17], [], [19], [20], [], [22, 17], [21, 23], [], [25], [26], [], [28, 23], [27, 29], [6, 12, 18, 24, 30], [31, 29], [32, 32, 0, 1, 2, 3, 4, 5, 6, 7, 8, 9, 10, 11, 12, 13, 14, 15, 16, 17, 18, 19, 20, 21, 22, 23, 24, 25, 26, 27, 28, 29, 30, 31, 32]]) = [0, 1, 2, 3, 4, 5, 6, 7, 8, 9, 10, 11, 12, 13, 14, 15, 16, 17, 18, 19, 20, 21, 22, 23, 24, 25, 26, 27, 28, 29, 30, 31, 32, 33] from rfl]
  clear d0 d1 d2 d3 d4 d5 d6 d7 d8 d9 d10 d11 d12 d13 d14 d15 d16 d17 d18 d19 d20 d21 d22 d23 d24 d25 d26 d27 d28 d29 d30 d31 d32 d33
  obtain ⟨-, A9, hbel⟩ := hG
  have A9 : Arr .u64 W w2.heap.size (carriedS (timesL xs ys)) := A9
  have h4 := putL_none (f := f) (ds := [some 132, some 133, some 134, some 135, some 136, some 137, some 138, some 139, some 140, some 141, some 142, some 143, some 144, some 145, some 146, some 147, some 148, some 149, some 150, some 151, some 152, some 153, some 154, some 155, some 156, some 157, some 158, some 159, some 160, some 161, some 162, some 163, some 164, none]) (l := [0, 1, 2, 3, 4, 5, 6, 7, 8, 9, 10, 11, 12, 13, 14, 15, 16, 17, 18, 19, 20, 21, 22, 23, 24, 25, 26, 27, 28, 29, 30, 31, 32, 33]) (a := a0) (t := 4) rfl hAsz rfl hI4
  have hde : (putL [some 132, some 133, some 134, some 135, some 136, some 137, some 138, some 139, some 140, some 141, some 142, some 143, some 144, some 145, some 146, some 147, some 148, some 149, some 150, some 151, some 152, some 153, some 154, some 155, some 156, some 157, some 158, some 159, some 160, some 161, some 162, some 163, some 164, none] f [0, 1, 2, 3, 4, 5, 6, 7, 8, 9, 10, 11, 12, 13, 14, 15, 16, 17, 18, 19, 20, 21, 22, 23, 24, 25, 26, 27, 28, 29, 30, 31, 32, 33] a0).defers = [] := by rw [putL_defers]; exact hAdef
  generalize putL _ f _ a0 = aZ at *
  go_wp2
  refine bodyPost_ret (results_cellI rfl _ 5 34 und_limbs info_limbs (w2.heap.size) h4 .u64 _ A9 rfl) hde ?_
  exact ⟨rfl, hbel⟩
end Go.Proofs.YtelppapkffjmpaaDoor
end
section
namespace Go.Proofs.YtelppapkffjmpaaDoor
open Go.RowKit Go.Shelf
set_option linter.unusedVariables false
set_option maxRecDepth 8000

/-- What runs over, with 19 more. -/
def ovS (cs : List Int) : Nat → Int
  | 0 => (at0 cs 0 + 19) / 2251799813685248
  | k + 1 => (at0 cs (k + 1) + ovS cs k) / 2251799813685248
/-- The limbs, with what is carried into them. -/
def yS (cs : List Int) : Nat → Int
  | 0 => at0 cs 0 + 19 * ovS cs 4
  | k + 1 => at0 cs (k + 1) + yS cs k / 2251799813685248
def dS (cs : List Int) (k : Nat) : Int := yS cs k % 2251799813685248
def wdS (cs : List Int) : List Int := [dS cs 0 + dS cs 1 * 2251799813685248 % 18446744073709551616, dS cs 1 / 8192 + dS cs 2 * 274877906944 % 18446744073709551616, dS cs 2 / 67108864 + dS cs 3 * 33554432 % 18446744073709551616, dS cs 3 / 549755813888 + dS cs 4 * 4096 % 18446744073709551616]
theorem ov_small {cs : List Int} (hc : Small cs) (k : Nat) : 0 ≤ ovS cs k ∧ ovS cs k ≤ 1 := by
  induction k with
  | zero => have := hc 0; simp only [ovS]; omega
  | succ k ih => have := hc (k + 1); simp only [ovS]; omega
theorem y_small {cs : List Int} (hc : Small cs) (k : Nat) : 0 ≤ yS cs k ∧ yS cs k < 4503599627370496 := by
  have ho := ov_small hc 4
  induction k with
  | zero => have := hc 0; simp only [yS]; omega
  | succ k ih => have := hc (k + 1); simp only [yS]; omega
theorem d_small (cs : List Int) (k : Nat) : 0 ≤ dS cs k ∧ dS cs k < 2251799813685248 := by unfold dS; omega
theorem wdS_num {cs : List Int} (hc : Small cs) : wdS cs = numW 4 (valL cs % pV) := by
  have h0 := hc 0; have h1 := hc 1; have h2 := hc 2; have h3 := hc 3; have h4 := hc 4
  have d0 := d_small cs 0; have d1 := d_small cs 1; have d2 := d_small cs 2; have d3 := d_small cs 3; have d4 := d_small cs 4
  have hD : dS cs 0 + dS cs 1 * 2251799813685248 + dS cs 2 * 5070602400912917605986812821504 + dS cs 3 * 11417981541647679048466287755595961091061972992 + dS cs 4 * 25711008708143844408671393477458601640355247900524685364822016 = valL cs % pV := by
    have ho := ov_small hc 4
    have e0 : ovS cs 0 = (at0 cs 0 + 19) / 2251799813685248 := rfl
    have e1 : ovS cs 1 = (at0 cs 1 + ovS cs 0) / 2251799813685248 := rfl
    have e2 : ovS cs 2 = (at0 cs 2 + ovS cs 1) / 2251799813685248 := rfl
    have e3 : ovS cs 3 = (at0 cs 3 + ovS cs 2) / 2251799813685248 := rfl
    have e4 : ovS cs 4 = (at0 cs 4 + ovS cs 3) / 2251799813685248 := rfl
    have g0 : yS cs 0 = at0 cs 0 + 19 * ovS cs 4 := rfl
    have g1 : yS cs 1 = at0 cs 1 + yS cs 0 / 2251799813685248 := rfl
    have g2 : yS cs 2 = at0 cs 2 + yS cs 1 / 2251799813685248 := rfl
    have g3 : yS cs 3 = at0 cs 3 + yS cs 2 / 2251799813685248 := rfl
    have g4 : yS cs 4 = at0 cs 4 + yS cs 3 / 2251799813685248 := rfl
    unfold dS pV
    simp only [valL, Int.reducePow]
    generalize ovS cs 0 = o0 at *
    generalize ovS cs 1 = o1 at *
    generalize ovS cs 2 = o2 at *
    generalize ovS cs 3 = o3 at *
    generalize ovS cs 4 = o4 at *
    generalize yS cs 0 = y0 at *
    generalize yS cs 1 = y1 at *
    generalize yS cs 2 = y2 at *
    generalize yS cs 3 = y3 at *
    generalize yS cs 4 = y4 at *
    generalize at0 cs 0 = x0 at *
    generalize at0 cs 1 = x1 at *
    generalize at0 cs 2 = x2 at *
    generalize at0 cs 3 = x3 at *
    generalize at0 cs 4 = x4 at *
    have r1 : 57896044618658097711785492504343953926634992332820282019728792003956564819968 * o4 ≤ x0 + x1 * 2251799813685248 + x2 * 5070602400912917605986812821504 + x3 * 11417981541647679048466287755595961091061972992 + x4 * 25711008708143844408671393477458601640355247900524685364822016 + 19 ∧
        x0 + x1 * 2251799813685248 + x2 * 5070602400912917605986812821504 + x3 * 11417981541647679048466287755595961091061972992 + x4 * 25711008708143844408671393477458601640355247900524685364822016 + 19 < 57896044618658097711785492504343953926634992332820282019728792003956564819968 * (o4 + 1) := by
      clear g0 g1 g2 g3 g4
      omega
    have r2 : y0 % 2251799813685248 + y1 % 2251799813685248 * 2251799813685248 + y2 % 2251799813685248 * 5070602400912917605986812821504 + y3 % 2251799813685248 * 11417981541647679048466287755595961091061972992 + y4 % 2251799813685248 * 25711008708143844408671393477458601640355247900524685364822016 + 57896044618658097711785492504343953926634992332820282019728792003956564819968 * (y4 / 2251799813685248) =
        x0 + x1 * 2251799813685248 + x2 * 5070602400912917605986812821504 + x3 * 11417981541647679048466287755595961091061972992 + x4 * 25711008708143844408671393477458601640355247900524685364822016 + 19 * o4 := by
      clear r1 e0 e1 e2 e3 e4
      omega
    have r3 : 0 ≤ y0 % 2251799813685248 + y1 % 2251799813685248 * 2251799813685248 + y2 % 2251799813685248 * 5070602400912917605986812821504 + y3 % 2251799813685248 * 11417981541647679048466287755595961091061972992 + y4 % 2251799813685248 * 25711008708143844408671393477458601640355247900524685364822016 ∧
        y0 % 2251799813685248 + y1 % 2251799813685248 * 2251799813685248 + y2 % 2251799813685248 * 5070602400912917605986812821504 + y3 % 2251799813685248 * 11417981541647679048466287755595961091061972992 + y4 % 2251799813685248 * 25711008708143844408671393477458601640355247900524685364822016 < 57896044618658097711785492504343953926634992332820282019728792003956564819968 := by
      clear r1 r2 e0 e1 e2 e3 e4 g0 g1 g2 g3 g4
      omega
    have r4 : 0 ≤ x0 + x1 * 2251799813685248 + x2 * 5070602400912917605986812821504 + x3 * 11417981541647679048466287755595961091061972992 + x4 * 25711008708143844408671393477458601640355247900524685364822016 ∧
        x0 + x1 * 2251799813685248 + x2 * 5070602400912917605986812821504 + x3 * 11417981541647679048466287755595961091061972992 + x4 * 25711008708143844408671393477458601640355247900524685364822016 < 57896044618658097711785492504343953926634992332820282019728792003956564819968 + 1725436586697640946858688965569256363112777243042596638790631055949824 := by
      clear r1 r2 r3 e0 e1 e2 e3 e4 g0 g1 g2 g3 g4
      omega
    clear e0 e1 e2 e3 e4 g0 g1 g2 g3 g4 h0 h1 h2 h3 h4
    generalize y0 % 2251799813685248 + y1 % 2251799813685248 * 2251799813685248 + y2 % 2251799813685248 * 5070602400912917605986812821504 + y3 % 2251799813685248 * 11417981541647679048466287755595961091061972992 + y4 % 2251799813685248 * 25711008708143844408671393477458601640355247900524685364822016 = D at *
    generalize x0 + x1 * 2251799813685248 + x2 * 5070602400912917605986812821504 + x3 * 11417981541647679048466287755595961091061972992 + x4 * 25711008708143844408671393477458601640355247900524685364822016 = V at *
    generalize y4 / 2251799813685248 = q at *
    have ho2 : o4 = 0 ∨ o4 = 1 := by omega
    rcases ho2 with rfl | rfl <;> omega
  have hw : Words (wdS cs) := by
    intro x hx
    simp only [wdS, List.mem_cons, List.not_mem_nil, or_false] at hx
    rcases hx with rfl | rfl | rfl | rfl <;> omega
  refine numW_eq hw rfl ?_
  rw [← hD]
  simp only [valW, wdS, at0_cons_zero, at0_cons_succ, Nat.reduceMul, Int.reducePow]
  generalize dS cs 0 = a at *
  generalize dS cs 1 = b at *
  generalize dS cs 2 = c at *
  generalize dS cs 3 = d at *
  generalize dS cs 4 = e at *
  omega
theorem info_a4 : (Tryd.prog.info? 35).map (·.size) = some 4 := by kernel_rfl
theorem zero_a4 : (Tryd.prog.info? 35).bind (·.zero) = some (.agg (Array.replicate 4 (Value.int .u64 0))) := by kernel_rfl
theorem built_a4 (a b c d : Int) : Tryd.prog.built 35 [(0, .int .u64 a), (1, .int .u64 b), (2, .int .u64 c), (3, .int .u64 d)] = some (([a, b, c, d] : List Int).map (Value.int .u64)).toArray := by kernel_rfl

set_option maxHeartbeats 8000000 in
theorem fbytes_any (xs : List Int) (w : World) (hx : Words xs) (hl : xs.length = 5) :
    Calls Tryd.prog 75 #[aggI .u64 xs] w fun e w' => e = .returned (aggI .u8 (numB (valL xs % pV))) ∧ Below w.heap.size w w' := by
  have hF := carried_fel xs hx
  have HC := fun W => carried_any xs W hx hl
  obtain ⟨hcl, hc, hcv⟩ := hF
  rw [← hcv]
  generalize carriedS xs = cs at *
  clear hcv
  have hc0 := hc 0
  have ho := ov_small hc 4
  have w0 := wrap_id (x := at0 cs 0 + 19) (by omega) (by omega)
  have wa := wrap_id (x := 19 * ovS cs 4) (by omega) (by omega)
  have wb := wrap_id (x := at0 cs 0 + 19 * ovS cs 4) (by omega) (by omega)
  have hW4 := wdS_num hc
  go_enter Tryd.func75, Tryd.ntmps75
  go_wp2_with (first
    | (with_reducible refine at_n 1 ?_; refine wpList_boxI rfl 42 _ rfl .u64 xs rfl ?_; intro w1 A1 s1 b1)
    | (with_reducible refine at_n 2 ?_; refine wpList_allocI rfl 22 rfl .u8 32 zero_a32 ?_; intro w2 A2 s2 b2; have X2 := A1.below b2)
    | (with_reducible refine at_n 9 ?_; refine wpList_loadI rfl 42 _ rfl 5 34 und_limbs info_limbs (w.heap.size) rfl .u64 (xs) (X2) (hl) ?_)
    | (go_at_call 83; refine (HC _).mono ?_; rintro e w3 ⟨rfl, b3⟩; have X3 := X2.below b3; have R := A2.below b3)
    | (with_reducible refine at_op (o := ⟨_, .store 42 (.tmp 1) _, _, _, _, _⟩) ?_; refine wpList_storeI rfl 42 _ _ rfl 5 info_limbs (w.heap.size) rfl .u64 _ (cs) rfl (X3) (hl) (hcl) ?_; intro X; replace R := R.rowOther (B' := w.heap.size) (by omega) (cs.map (Value.int .u64)).toArray; have hbel := Below.setRow (below_then (below_then b1 b2) b3) (g := w.heap.size) (Nat.le_refl _) (cs.map (Value.int .u64)).toArray; have c0 := X.cell (k := 0) (by omega)))
  clear c0
  go_loopw [3, 15] (fun ov i wr => ∃ (k : Nat), k ≤ 4 ∧ i = .int .i64 k ∧ ov = .int .u64 (ovS cs k) ∧ Arr .u64 wr w.heap.size cs ∧ Arr .u8 wr w1.heap.size (List.replicate 32 0) ∧ Below w.heap.size w wr) (fun _ i _ => 4 - (intOf i).toNat)
  case atStart => exact ⟨0, by omega, rfl, rfl, X, R, hbel⟩
  case round =>
    clear X R hbel
    obtain ⟨k, hk, rfl, rfl, X, R, hbel⟩ := hrel
    by_cases hlt : k < 4
    · have c1 := X.cell (k := k + 1) (by omega)
      have hck := hc (k + 1)
      have hok := ov_small hc k
      have wk := wrap_id (x := at0 cs (k + 1) + ovS cs k) (by omega) (by omega)
      go_wp2
      exact ⟨⟨k + 1, by omega, by go_num, rfl, X, R, hbel⟩, by simp [intOf]; omega⟩
    · obtain rfl : k = 4 := by omega
      have c0 := X.cell (k := 0) (by omega)
      have f0 := X.free (k := 0) (by omega)
      go_wp2
      clear c0 f0
      go_loopw [32] (fun i wr => ∃ (k : Nat) (zs : List Int), k ≤ 4 ∧ i = .int .i64 k ∧ Arr .u64 wr w.heap.size zs ∧ zs.length = 5 ∧ (∀ j, j < 5 → at0 zs j = if j < k then dS cs j else if j = k then yS cs j else at0 cs j) ∧ Arr .u8 wr w1.heap.size (List.replicate 32 0) ∧ Below w.heap.size w wr) (fun i _ => 4 - (intOf i).toNat)
      case atStart =>
        refine ⟨0, _, by omega, rfl, X.set _ _, by simp [hcl], fun j hj => ?_, R.setOther (by omega) _ _, hbel.setCell (Nat.le_refl _) _⟩
        rw [at0_set cs 0 j _ (by omega), if_neg (Nat.not_lt_zero _)]
        by_cases e : j = 0
        · rw [if_pos e, if_pos e, e]; rfl
        · rw [if_neg e, if_neg e]
      case round =>
        clear X R hbel
        obtain ⟨k, zs, hk, rfl, X, hz, hj, R, hbel⟩ := hrel
        by_cases hlt : k < 4
        · have e0 := hj k (by omega)
          rw [if_neg (Nat.lt_irrefl _), if_pos rfl] at e0
          have e1 := hj (k + 1) (by omega)
          rw [if_neg (by omega), if_neg (by omega)] at e1
          have c0 := X.cell (k := k) (by omega)
          have f0 := X.free (k := k) (by omega)
          have c1 := X.cell (k := k + 1) (by omega)
          have f1 := X.free (k := k + 1) (by omega)
          rw [e0] at c0
          rw [e1] at c1
          have hyk := y_small hc k
          have hck := hc (k + 1)
          have wk := wrap_id (x := at0 cs (k + 1) + yS cs k / 2251799813685248) (by omega) (by omega)
          have mk : bits BinOp.and IntKind.u64 (yS cs k) 2251799813685247 = dS cs k := mask51 (by omega)
          have HJ := Lib.hid hj
          clear hj e0 e1
          go_wp2
          go_region
          go_wp2
          refine ⟨⟨k + 1, (zs.set (k + 1) (yS cs (k + 1))).set k (dS cs k), by omega, by go_num, ((X.set _ _).drew).set _ _, by simp [hz], fun j hj' => ?_, ((R.setOther (by omega) _ _).drew).setOther (by omega) _ _, ((hbel.setCell (Nat.le_refl _) _).drew).setCell (Nat.le_refl _) _⟩, by simp [intOf]; omega⟩
          rw [at0_set _ k j _ (by simp; omega), at0_set zs (k + 1) j _ (by omega), HJ.out j hj']
          by_cases e : j = k
          · rw [if_pos e, if_pos (by omega), e]
          · rw [if_neg e]
            by_cases e2 : j = k + 1
            · rw [if_pos e2, if_neg (by omega), if_pos e2, e2]
            · rw [if_neg e2, if_neg e]
              by_cases e3 : j < k
              · rw [if_pos e3, if_pos (by omega)]
              · rw [if_neg e3, if_neg (by omega), if_neg e2]
        · obtain rfl : k = 4 := by omega
          have j0 := hj 0 (by omega); have j1 := hj 1 (by omega); have j2 := hj 2 (by omega); have j3 := hj 3 (by omega); have j4 := hj 4 (by omega)
          rw [if_pos (by omega)] at j0 j1 j2 j3
          rw [if_neg (by omega), if_pos rfl] at j4
          have m4 : bits BinOp.and IntKind.u64 (yS cs 4) 2251799813685247 = dS cs 4 := mask51 (by have := y_small hc 4; omega)
          have c0 := X.cell (k := 0) (by omega); have c1 := X.cell (k := 1) (by omega); have c2 := X.cell (k := 2) (by omega); have c3 := X.cell (k := 3) (by omega); have c4 := X.cell (k := 4) (by omega)
          rw [j0] at c0
          rw [j1] at c1
          rw [j2] at c2
          rw [j3] at c3
          rw [j4] at c4
          have f4 := X.free (k := 4) (by omega)
          have d0 := d_small cs 0; have d1 := d_small cs 1; have d2 := d_small cs 2; have d3 := d_small cs 3; have d4 := d_small cs 4
          have o0 := or_shl (dS cs 0) (dS cs 1) 51 (by omega) (by simp only [Int.reducePow]; omega) d1.1
          have o1 := or_shl (dS cs 1 / 8192) (dS cs 2) 38 (by omega) (by simp only [Int.reducePow]; omega) d2.1
          have o2 := or_shl (dS cs 2 / 67108864) (dS cs 3) 25 (by omega) (by simp only [Int.reducePow]; omega) d3.1
          have o3 := or_shl (dS cs 3 / 549755813888) (dS cs 4) 12 (by omega) (by simp only [Int.reducePow]; omega) d4.1
          simp only [Int.reducePow] at o0 o1 o2 o3
          have o3b := o3
          rw [wrap_id (by omega) (by omega)] at o3b
          have HW4 := Lib.hid hW4
          clear hj j0 j1 j2 j3 j4 hW4
          have X5 := X.set 4 (dS cs 4)
          have R5 := R.setOther (B' := w.heap.size) (by omega) 4 (.int .u64 (dS cs 4))
          have b5 := Below.setCell hbel (p := ⟨w.heap.size, 4, none⟩) (Nat.le_refl _) (.int .u64 (dS cs 4))
          clear hbel R X
          go_wp2_with (first
    | (with_reducible refine at_n 82 ?_; refine wpList_buildI rfl 35 _ rfl .u64 (wdS cs) _ (built_a4 _ _ _ _) rfl ?_)
    | (with_reducible refine at_n 6 ?_; go_loud (refine wpList_newI rfl rfl 35 6 _ rfl rfl rfl rfl .u64 4 zero_a4 info_a4 (by simp [put_size]) (wdS cs) (by simp) (by simp [Act.eval, Act.put]) rfl ?_); intro w6 B6 h6 l6 D b6; rw [HW4.out] at D; have R6 := R5.below b6; have hbel := below_then b5 b6)
    | (with_reducible refine at_n 7 ?_; refine wpList_allocI rfl 22 rfl .u8 32 zero_a32 ?_; intro w7 A7 s7 b7; replace D := D.below b7; have R := R6.below b7; replace hbel := below_then hbel b7))
          go_loopw [83] (fun i wr => ∃ (k : Nat) (ys : List Int), k ≤ 32 ∧ i = .int .i64 k ∧ Arr .u64 wr B6 (numW 4 (valL cs % pV)) ∧ Arr .u8 wr w1.heap.size (List.replicate 32 0) ∧ Arr .u8 wr w6.heap.size ys ∧ ys.length = 32 ∧ (∀ j, j < k → at0 ys j = wbyte (numW 4 (valL cs % pV)) j) ∧ Below w.heap.size w wr) (fun i _ => 32 - (intOf i).toNat)
          case atStart => exact ⟨0, _, by omega, rfl, D, R, A7, by simp, fun j hj => by omega, hbel⟩
          case round =>
            have hB6 : B6 < w6.heap.size := l6
            have hR6 : w1.heap.size < w6.heap.size := Nat.lt_of_lt_of_le (Nat.lt_of_lt_of_le R5.lt h6) (Nat.le_of_lt l6)
            have hx6 : w.heap.size ≤ w6.heap.size := Nat.le_of_lt (Nat.lt_of_lt_of_le s1 (Nat.le_of_lt hR6))
            have hw6 := numW_words 4 (valL cs % pV)
            clear D R A7 hbel R6 R5 X5 b5 c0 c1 c2 c3 c4 f4
            generalize hNW : numW 4 (valL cs % pV) = ws at *
            have hwl : ws.length = 4 := by rw [← hNW]; exact numW_length _ _
            obtain ⟨k, ys, hk, rfl, A, R, D, hy, hj, hbel⟩ := hrel
            by_cases hlt : k < 32
            · have c0 := A.cell (k := k / 8) (by omega)
              have c1 := D.cell (k := k) (by omega)
              have f0 := D.free (k := k) (by omega)
              have w0 := hw6.at (k / 8)
              have HJ := Lib.hid hj
              clear hj
              go_wp2
              refine ⟨⟨k + 1, ys.set k (wbyte ws k), by omega, by go_num, A.setOther (by omega) _ _, R.setOther (by omega) _ _, D.set k _, by simp [hy], fun j hj' => ?_, hbel.setCell hx6 _⟩, by simp [intOf]; omega⟩
              rw [at0_set ys k j _ (by omega)]
              by_cases e : j = k
              · rw [if_pos e, e]
              · rw [if_neg e]; exact HJ.out j (by omega)
            · obtain rfl : k = 32 := by omega
              have hys : ys = numB (valL cs % pV) := by
                unfold numB
                rw [hNW]
                apply eq_of_all (by simp [bytesS, hy])
                intro j h
                rw [hj j (by omega)]
                simp [bytesS, at0, show j < 32 by omega]
              subst hys
              clear hj
              go_wp2_with (first
    | (with_reducible refine at_n 98 ?_; refine wpList_loadI rfl 22 _ rfl 32 5 und_a32 info_a32 (w6.heap.size) rfl .u8 (numB (valL cs % pV)) (D) (numB_length _) ?_)
    | (with_reducible refine at_op (o := ⟨_, .store 22 _ _, _, _, _, _⟩) ?_; refine wpList_storeI rfl 22 _ _ rfl 32 info_a32 (w1.heap.size) rfl .u8 _ (numB (valL cs % pV)) rfl (R) (rfl) (numB_length _) ?_; intro A9))
              refine bodyPost_ret (results_cellI rfl _ 32 5 und_a32 info_a32 (w1.heap.size) rfl .u8 _ A9 (numB_length _)) rfl ?_
              exact ⟨rfl, Below.setRow hbel (by omega) _⟩
end Go.Proofs.YtelppapkffjmpaaDoor
end
section
namespace Go.Proofs.YtelppapkffjmpaaDoor
open Go.RowKit Go.Shelf
set_option linter.unusedVariables false
set_option maxRecDepth 8000

theorem built_limbs1 (a : Int) : Tryd.prog.built 42 [(0, .int .u64 a)] = some (([a, 0, 0, 0, 0] : List Int).map (Value.int .u64)).toArray := by kernel_rfl
theorem one_fel : Fel [1, 0, 0, 0, 0] 1 := ⟨rfl, small_of5 (by omega) (by omega) (by omega) (by omega) (by omega), by decide +kernel⟩
set_option maxHeartbeats 2000000 in
theorem small_any (w : World) : Calls Tryd.prog 63 #[.int .u32 1] w fun e w' => e = .returned (aggI .u64 [1, 0, 0, 0, 0]) ∧ Below w.heap.size w w' := by
  go_enter Tryd.func63, Tryd.ntmps63
  go_wp2_with (first
    | (with_reducible refine at_n 2 ?_; refine wpList_allocI rfl 42 rfl .u64 5 zero_limbs ?_; intro w1 A1 s1 b1)
    | (with_reducible refine at_n 5 ?_; refine wpList_buildI rfl 42 _ rfl .u64 [1, 0, 0, 0, 0] _ (built_limbs1 1) rfl ?_)
    | (with_reducible refine at_op (o := ⟨_, .store 42 _ _, _, _, _, _⟩) ?_; refine wpList_storeI rfl 42 _ _ rfl 5 info_limbs (w.heap.size) rfl .u64 _ ([1, 0, 0, 0, 0]) rfl (A1) (rfl) (rfl) ?_; intro A9))
  refine bodyPost_ret (results_cellI rfl _ 5 34 und_limbs info_limbs (w.heap.size) rfl .u64 _ A9 (rfl)) rfl ?_
  exact ⟨rfl, Below.setRow b1 (Nat.le_refl _) _⟩

/-- A number of 1 bits, but for two bytes. -/
def powN (lo hi : Int) : List Int := ((List.replicate 32 (255 : Int)).set 0 lo).set 31 hi
set_option maxHeartbeats 2000000 in
theorem pow_any (lo hi : Int) (w : World) : Calls Tryd.prog 91 #[.int .u8 lo, .int .u8 hi] w fun e w' => e = .returned (aggI .u8 (powN lo hi)) ∧ Below w.heap.size w w' := by
  go_enter Tryd.func91, Tryd.ntmps91
  go_wp2_with (first
    | (with_reducible refine at_n 4 ?_; refine wpList_allocI rfl 22 rfl .u8 32 zero_a32 ?_; intro w1 A1 s1 b1)
    | (with_reducible refine at_n 5 ?_; refine wpList_allocI rfl 22 rfl .u8 32 zero_a32 ?_; intro w2 A2 s2 b2; have R2 := A1.below b2))
  go_loopw [7] (fun i wr => ∃ (k : Nat) (zs : List Int), k ≤ 32 ∧ i = .int .i64 k ∧ Arr .u8 wr w.heap.size (List.replicate 32 0) ∧ Arr .u8 wr w1.heap.size zs ∧ zs.length = 32 ∧ (∀ j, j < k → at0 zs j = 255) ∧ Below w.heap.size w wr) (fun i _ => 32 - (intOf i).toNat)
  case atStart => exact ⟨0, _, by omega, rfl, R2, A2, by simp, fun j hj => by omega, below_then b1 b2⟩
  case round =>
    obtain ⟨k, zs, hk, rfl, R, D, hz, hj, hbel⟩ := hrel
    by_cases hlt : k < 32
    · have c1 := D.cell (k := k) (by omega)
      have f0 := D.free (k := k) (by omega)
      have HJ := Lib.hid hj
      clear hj
      go_wp2
      refine ⟨⟨k + 1, _, by omega, by go_num, R.setOther (by omega) _ _, D.set _ _, by simp [hz], fun j hj' => ?_, hbel.setCell (by show w.heap.size ≤ w1.heap.size; omega) _⟩, by simp [intOf]; omega⟩
      rw [at0_set zs k j _ (by omega)]
      by_cases e : j = k
      · rw [if_pos e]
      · rw [if_neg e]; exact HJ.out j (by omega)
    · obtain rfl : k = 32 := by omega
      have hzs : zs = List.replicate 32 255 := by
        apply eq_of_all (by simp [hz])
        intro j h
        rw [hj j (by omega)]
        simp only [at0, List.getElem?_replicate]
        rw [if_pos (by omega)]
        rfl
      subst hzs
      have c0 := D.cell (k := 0) (by simp)
      have f0 := D.free (k := 0) (by simp)
      have D1 := D.set 0 lo
      have c1 := D1.cell (k := 31) (by simp)
      have f1 := D1.free (k := 31) (by simp)
      have D2 : Arr .u8 _ w1.heap.size (powN lo hi) := D1.set 31 hi
      have R1 := (R.setOther (B' := w1.heap.size) (by omega) 0 (.int .u8 lo)).setOther (B' := w1.heap.size) (by omega) 31 (.int .u8 hi)
      have b9 := Below.setCell (Below.setCell hbel (p := ⟨w1.heap.size, 0, none⟩) (by show w.heap.size ≤ w1.heap.size; omega) (.int .u8 lo)) (p := ⟨w1.heap.size, 31, none⟩) (by show w.heap.size ≤ w1.heap.size; omega) (.int .u8 hi)
      clear hj D D1 R hbel
      go_wp2_with (first
    | (with_reducible refine at_n 17 ?_; refine wpList_loadI rfl 22 _ rfl 32 5 und_a32 info_a32 (w1.heap.size) rfl .u8 (powN lo hi) (D2) (by simp [powN]) ?_)
    | (with_reducible refine at_op (o := ⟨_, .store 22 _ _, _, _, _, _⟩) ?_; refine wpList_storeI rfl 22 _ _ rfl 32 info_a32 (w.heap.size) rfl .u8 _ (powN lo hi) rfl (R1) (rfl) (by simp [powN]) ?_; intro A9))
      refine bodyPost_ret (results_cellI rfl _ 32 5 und_a32 info_a32 (w.heap.size) rfl .u8 _ A9 (by simp [powN])) rfl ?_
      exact ⟨rfl, Below.setRow b9 (Nat.le_refl _) _⟩

/-- A power, behind so many of the exponent's bits. -/
def powS (xs nb : List Int) : Nat → List Int
  | 0 => [1, 0, 0, 0, 0]
  | k + 1 => if bitB nb (255 - k) = 1 then carriedS (timesL (carriedS (timesL (powS xs nb k) (powS xs nb k))) xs) else carriedS (timesL (powS xs nb k) (powS xs nb k))
theorem pow_step (u : Int) (e : Nat) : ((u ^ e % pV) * (u ^ e % pV)) % pV = u ^ (2 * e) % pV := by
  rw [← Int.mul_emod, ← Int.pow_add, show e + e = 2 * e by omega]
theorem pow_step1 (u v : Int) (e : Nat) (hv : v % pV = u % pV) : ((u ^ (2 * e) % pV) * v) % pV = u ^ (2 * e + 1) % pV := by
  rw [Int.mul_emod, Int.emod_emod_of_dvd _ (Int.dvd_refl _), hv, ← Int.mul_emod, Int.pow_succ]
theorem powS_fel (xs nb : List Int) (u : Int) (hx : Fel xs u) (hn : Bytes nb) : ∀ k, k ≤ 256 → Fel (powS xs nb k) (u ^ (valB nb 32 / 2 ^ (256 - k)).toNat % pV)
  | 0, _ => by
    have h := valB_32 nb hn
    rw [Nat.sub_zero, Int.ediv_eq_zero_of_lt h.1 h.2, show u ^ Int.toNat 0 % pV = 1 by rw [show Int.toNat 0 = 0 from rfl, Int.pow_zero]; decide +kernel]
    exact one_fel
  | k + 1, hk => by
    have ih := powS_fel xs nb u hx hn k (by omega)
    have h2 := times_fel ih ih
    rw [pow_step] at h2
    have hb := bitB_val nb hn 32 (255 - k) (by omega)
    have hh := half_val (valB nb 32) (255 - k)
    rw [show 255 - k + 1 = 256 - k by omega, ← hb] at hh
    have h0 := (valB_32 nb hn).1
    have hy : 0 ≤ valB nb 32 / 2 ^ (256 - k) := Int.ediv_nonneg h0 (Int.le_of_lt (pow_pos2 _))
    rw [show 256 - (k + 1) = 255 - k by omega]
    have hbit := bitB_bit nb (255 - k)
    unfold powS
    split
    · next h1 =>
      rw [h1] at hh
      have e : (valB nb 32 / 2 ^ (255 - k)).toNat = 2 * (valB nb 32 / 2 ^ (256 - k)).toNat + 1 := by omega
      rw [e]
      have h3 := times_fel h2 hx
      have hu : u % pV = u % pV := rfl
      rw [pow_step1 u u _ rfl] at h3
      exact h3
    · next h1 =>
      have h10 : bitB nb (255 - k) = 0 := by omega
      rw [h10] at hh
      have e : (valB nb 32 / 2 ^ (255 - k)).toNat = 2 * (valB nb 32 / 2 ^ (256 - k)).toNat := by omega
      rw [e]
      exact h2

set_option maxHeartbeats 4000000 in
theorem power_any (xs nb : List Int) (u : Int) (w : World) (hx : Fel xs u) (hn : Bytes nb) (hl : nb.length = 32) :
    Calls Tryd.prog 90 #[aggI .u64 xs, aggI .u8 nb] w fun e w' => e = .returned (aggI .u64 (powS xs nb 256)) ∧ Below w.heap.size w w' := by
  have hxl := hx.len
  go_enter Tryd.func90, Tryd.ntmps90
  go_wp2_with (first
    | (with_reducible refine at_n 2 ?_; refine wpList_boxI rfl 42 _ rfl .u64 xs rfl ?_; intro w1 A1 s1 b1)
    | (with_reducible refine at_n 3 ?_; refine wpList_boxI rfl 22 _ rfl .u8 nb rfl ?_; intro w2 A2 s2 b2; have X2 := A1.below b2)
    | (with_reducible refine at_n 4 ?_; refine wpList_allocI rfl 42 rfl .u64 5 zero_limbs ?_; intro w3 A3 s3 b3; have X3 := X2.below b3; have N3 := A2.below b3)
    | (go_at_call 63; refine (small_any _).mono ?_; rintro e w4 ⟨rfl, b4⟩; have X4 := X3.below b4; have N4 := N3.below b4; have R4 := A3.below b4)
    | (with_reducible refine at_n 5 ?_; refine wpList_newI rfl rfl 42 5 _ rfl rfl rfl rfl .u64 5 zero_limbs info_limbs (by simp) [1, 0, 0, 0, 0] (by simp) (by simp [Act.eval]) rfl ?_; intro w5 B5 h5 l5 D5 b5; have X5 := X4.below b5; have N5 := N4.below b5; have R5 := R4.below b5))
  have hs4 := b4.size
  have q1 : w2.heap.size < B5 := by omega
  go_loopw [9] (fun i wr => ∃ (k : Nat), k ≤ 256 ∧ i = .int .i64 k ∧ Arr .u64 wr w.heap.size xs ∧ Arr .u8 wr w1.heap.size nb ∧ Arr .u64 wr w2.heap.size (List.replicate 5 0) ∧ Arr .u64 wr B5 (powS xs nb k) ∧ Below w.heap.size w wr) (fun i _ => 256 - (intOf i).toNat)
  case atStart => exact ⟨0, by omega, rfl, X5, N5, R5, D5, below_then (below_then (below_then (below_then b1 b2) b3) b4) b5⟩
  case round =>
    obtain ⟨k, hk, rfl, X, NN, R, D, hbel⟩ := hrel
    have hF := powS_fel xs nb u hx hn k hk
    have hFl := hF.len
    by_cases hlt : k < 256
    · obtain ⟨j, hj, hjk, hj5⟩ : ∃ j : Nat, (255 - (k : Int)) = (j : Nat) ∧ 255 - k = j ∧ j < 256 := ⟨255 - k, by omega, rfl, by omega⟩
      have hF2 := times_fel hF hF
      have T1 := fun W => times_any (powS xs nb k) (powS xs nb k) W hF.small hF.small hF.len hF.len
      have T2 := fun W => times_any (carriedS (timesL (powS xs nb k) (powS xs nb k))) xs W hF2.small hx.small hF2.len hx.len
      have hst : powS xs nb (k + 1) = if bitB nb j = 1 then carriedS (timesL (carriedS (timesL (powS xs nb k) (powS xs nb k))) xs) else carriedS (timesL (powS xs nb k) (powS xs nb k)) := by rw [← hjk]; rfl
      have hl2 := hF2.len
      generalize carriedS (timesL (powS xs nb k) (powS xs nb k)) = r2 at *
      have hl3 : (carriedS (timesL r2 xs)).length = 5 := rfl
      generalize carriedS (timesL r2 xs) = r3 at *
      generalize powS xs nb k = r1 at *
      have HST := Lib.hid hst
      clear hst hF hF2
      have hbit := u8_and_one (byte_shift (hn.at (j / 8)) (j % 8))
      have hbd := bitB_bit nb j
      have HB : bitB nb j = bits BinOp.and IntKind.u8 (at0 nb (j / 8) / 2 ^ (j % 8)) 1 := hbit.symm
      rw [HB] at hbd
      have HB := Lib.hid HB
      clear hbit
      have c0 := NN.cell (k := j / 8) (by omega)
      have hx64 := hn.at (j / 8)
      have e2 : (j : Int).tmod 8 = (j : Int) % 8 := rfl
      have e3 : (0 : Int) ≤ (j : Int) / 8 := by omega
      have e4 : (j : Int) / 8 < 32 := by omega
      have e8 : ((j : Int) / 8).toNat = j / 8 := by omega
      have e9 : ((j : Int) % 8).toNat = j % 8 := by omega
      have hm9 : (j : Int) < 256 := by omega
      rcases hbd with h0 | h1
      · go_wp2_with (first
    | (with_reducible refine at_n 12 ?_; refine wpList_loadI rfl 42 _ rfl 5 34 und_limbs info_limbs (B5) rfl .u64 (r1) (D) (hFl) ?_)
    | (with_reducible refine at_n 13 ?_; refine wpList_loadI rfl 42 _ rfl 5 34 und_limbs info_limbs (B5) rfl .u64 (r1) (D) (hFl) ?_)
    | (go_at_call 49; (with_reducible refine (T1 _).mono ?_); rintro e wN ⟨rfl, bN⟩; replace X := X.below bN; replace NN := NN.below bN; replace R := R.below bN; replace D := D.below bN; replace hbel := below_then hbel bN)
    | (with_reducible refine at_op (o := ⟨_, .store 42 (.tmp 5) (.tmp 14), _, _, _, _⟩) ?_; refine wpList_storeI rfl 42 _ _ rfl 5 info_limbs (B5) rfl .u64 _ (r2) rfl D (by first | assumption | rfl) (by first | assumption | rfl) ?_; replace X := X.rowOther (B' := B5) (by omega) ((r2).map (Value.int .u64)).toArray; replace NN := NN.rowOther (B' := B5) (by omega) ((r2).map (Value.int .u64)).toArray; replace R := R.rowOther (B' := B5) (by omega) ((r2).map (Value.int .u64)).toArray; replace hbel := Below.setRow hbel (g := B5) (by omega) ((r2).map (Value.int .u64)).toArray; clear D; intro D; have c0 := NN.cell (k := j / 8) (by omega)))
        have hs := HST.out
        rw [HB.out, h0, if_neg (by decide)] at hs
        exact ⟨⟨k + 1, by omega, by go_num, X, NN, R, by rw [hs]; exact D, hbel⟩, by simp [intOf]; omega⟩
      · go_wp2_with (first
    | (with_reducible refine at_n 12 ?_; refine wpList_loadI rfl 42 _ rfl 5 34 und_limbs info_limbs (B5) rfl .u64 (r1) (D) (hFl) ?_)
    | (with_reducible refine at_n 13 ?_; refine wpList_loadI rfl 42 _ rfl 5 34 und_limbs info_limbs (B5) rfl .u64 (r1) (D) (hFl) ?_)
    | (with_reducible refine at_n 26 ?_; refine wpList_loadI rfl 42 _ rfl 5 34 und_limbs info_limbs (B5) rfl .u64 (r2) (D) (hl2) ?_)
    | (with_reducible refine at_n 27 ?_; refine wpList_loadI rfl 42 _ rfl 5 34 und_limbs info_limbs (w.heap.size) rfl .u64 (xs) (X) (hxl) ?_)
    | (go_at_call 49; first | ((with_reducible refine (T1 _).mono ?_); rintro e wN ⟨rfl, bN⟩; replace X := X.below bN; replace NN := NN.below bN; replace R := R.below bN; replace D := D.below bN; replace hbel := below_then hbel bN) | ((with_reducible refine (T2 _).mono ?_); rintro e wN ⟨rfl, bN⟩; replace X := X.below bN; replace NN := NN.below bN; replace R := R.below bN; replace D := D.below bN; replace hbel := below_then hbel bN))
    | (with_reducible refine at_op (o := ⟨_, .store 42 (.tmp 5) (.tmp 14), _, _, _, _⟩) ?_; refine wpList_storeI rfl 42 _ _ rfl 5 info_limbs (B5) rfl .u64 _ (r2) rfl D (by first | assumption | rfl) (by first | assumption | rfl) ?_; replace X := X.rowOther (B' := B5) (by omega) ((r2).map (Value.int .u64)).toArray; replace NN := NN.rowOther (B' := B5) (by omega) ((r2).map (Value.int .u64)).toArray; replace R := R.rowOther (B' := B5) (by omega) ((r2).map (Value.int .u64)).toArray; replace hbel := Below.setRow hbel (g := B5) (by omega) ((r2).map (Value.int .u64)).toArray; clear D; intro D; have c0 := NN.cell (k := j / 8) (by omega))
    | (with_reducible refine at_op (o := ⟨_, .store 42 (.tmp 5) (.tmp 28), _, _, _, _⟩) ?_; refine wpList_storeI rfl 42 _ _ rfl 5 info_limbs (B5) rfl .u64 _ (r3) rfl D (by first | assumption | rfl) (by first | assumption | rfl) ?_; replace X := X.rowOther (B' := B5) (by omega) ((r3).map (Value.int .u64)).toArray; replace NN := NN.rowOther (B' := B5) (by omega) ((r3).map (Value.int .u64)).toArray; replace R := R.rowOther (B' := B5) (by omega) ((r3).map (Value.int .u64)).toArray; replace hbel := Below.setRow hbel (g := B5) (by omega) ((r3).map (Value.int .u64)).toArray; clear D; intro D; have c0 := NN.cell (k := j / 8) (by omega)))
        have hs := HST.out
        rw [HB.out, h1, if_pos rfl] at hs
        exact ⟨⟨k + 1, by omega, by go_num, X, NN, R, by rw [hs]; exact D, hbel⟩, by simp [intOf]; omega⟩
    · obtain rfl : k = 256 := by omega
      obtain ⟨r1, hr1⟩ : ∃ r1, powS xs nb 256 = r1 := ⟨_, rfl⟩
      rw [hr1] at D hFl
      have HR1 := Lib.hid hr1
      clear hF hr1
      go_wp2_with (first
    | (with_reducible refine at_n 30 ?_; refine wpList_loadI rfl 42 _ rfl 5 34 und_limbs info_limbs (B5) rfl .u64 (r1) (D) (hFl) ?_)
    | (with_reducible refine at_op (o := ⟨_, .store 42 _ _, _, _, _, _⟩) ?_; refine wpList_storeI rfl 42 _ _ rfl 5 info_limbs (w2.heap.size) rfl .u64 _ (r1) rfl (R) (rfl) (hFl) ?_; intro A9))
      refine bodyPost_ret (results_cellI rfl _ 5 34 und_limbs info_limbs (w2.heap.size) rfl .u64 _ A9 (hFl)) rfl ?_
      exact ⟨by rw [HR1.out], Below.setRow hbel (by omega) _⟩
end Go.Proofs.YtelppapkffjmpaaDoor
end
