/- The reference's product. -/
import Derived.Test.YtlhloldjlfcchaaDoorFR
namespace Go.Proofs.YtlhloldjlfcchaaDoor
open Go.RowKit Go.Shelf
set_option linter.unusedVariables false
set_option maxRecDepth 8000

theorem und_eight : Tryd.prog.underlying 60 = some (.array 8 33) := by kernel_rfl
theorem info_eight : (Tryd.prog.info? 60).map (·.size) = some 8 := by kernel_rfl
theorem zero_eight : (Tryd.prog.info? 60).bind (·.zero) = some (.agg (Array.replicate 8 (Value.int .u64 0))) := by kernel_rfl
theorem mul_step2 (x y p c : Int) (hx : 0 ≤ x ∧ x < 18446744073709551616) (hy : 0 ≤ y ∧ y < 18446744073709551616) (hp : 0 ≤ p ∧ p < 18446744073709551616) (hc : 0 ≤ c ∧ c < 18446744073709551616) :
    ∃ h l l1 o1 h1 l2 o2 c2 : Int, (∀ w, Calls Tryd.prog 52 #[.int .u64 x, .int .u64 y] w fun e w' => e = .returned (.tuple #[.int .u64 h, .int .u64 l]) ∧ w' = w) ∧
      (∀ w, (callFunc 53 #[.int .u64 p, .int .u64 l, .int .u64 0]).run Tryd.prog w = .ok (.value (.tuple #[.int .u64 l1, .int .u64 o1])) w) ∧ IntKind.u64.wrap (h + o1) = h1 ∧
      (∀ w, (callFunc 53 #[.int .u64 l1, .int .u64 c, .int .u64 0]).run Tryd.prog w = .ok (.value (.tuple #[.int .u64 l2, .int .u64 o2])) w) ∧ IntKind.u64.wrap (h1 + o2) = c2 ∧
      (0 ≤ l2 ∧ l2 < 18446744073709551616) ∧ (0 ≤ c2 ∧ c2 < 18446744073709551616) ∧ l2 + c2 * 18446744073709551616 = x * y + p + c := by
  have hm := mul_words (p := p) (c := c) hx hy
  have hM : ∀ w, Calls Tryd.prog 52 #[.int .u64 x, .int .u64 y] w fun e w' => e = .returned (.tuple #[.int .u64 (x * y / 18446744073709551616), .int .u64 (x * y % 18446744073709551616)]) ∧ w' = w := by
    intro w
    obtain ⟨a, rfl⟩ := Int.eq_ofNat_of_zero_le hx.1
    obtain ⟨b, rfl⟩ := Int.eq_ofNat_of_zero_le hy.1
    exact Tryd.bits_Mul64 a b (by omega) (by omega) w
  generalize x * y = m at *
  refine ⟨_, _, _, _, _, _, _, _, hM, fun w => add64_run p (m % 18446744073709551616) 0 hp.1 (by omega) (by omega) (by omega) w, rfl, fun w => add64_run ((p + m % 18446744073709551616 + 0) % 18446744073709551616) c 0 (by omega) hc.1 (by omega) (by omega) w, rfl, ?_, ?_, ?_⟩
  · omega
  · rw [wrap_u64_eq, wrap_u64_eq]; omega
  · rw [wrap_u64_eq, wrap_u64_eq]; omega
theorem row_next (xs ys : List Int) (k : Nat) (T : Int) (h : T = valW xs k * valW ys 4 + at0 xs k * valW ys 4 * 2 ^ (64 * k)) : T = valW xs (k + 1) * valW ys 4 := by
  have e : valW xs (k + 1) = valW xs k + at0 xs k * 2 ^ (64 * k) := rfl
  rw [h, e]
  clear h e
  generalize (2 : Int) ^ (64 * k) = q
  generalize valW ys 4 = y
  generalize valW xs k = x
  grind
theorem zeros8 : valW (List.replicate 8 0) 8 = 0 := by decide +kernel
theorem at0_zeros8 (j : Nat) : at0 (List.replicate 8 (0 : Int)) j = 0 := by
  simp only [at0, List.getElem?_replicate]; split <;> rfl

set_option maxHeartbeats 1000000 in
theorem ref_prod_any (xs ys : List Int) (w : World) (hx : Words xs) (hy : Words ys) (hxl : xs.length = 4) (hyl : ys.length = 4) :
    Calls Tryd.prog 39 #[aggI .u64 xs, aggI .u64 ys] w fun e w' => e = .returned (aggI .u64 (numW 4 ((valW xs 4 * valW ys 4) % pV))) ∧ Below w.heap.size w w' := by
  go_enter Tryd.func39, Tryd.ntmps39
  go_wp2_with (first
    | (with_reducible refine at_op (o := ⟨some 2, _, _, _, _, _⟩) ?_; refine wpList_boxI rfl 35 _ rfl .u64 xs rfl ?_; intro w1 A1 s1 b1)
    | (with_reducible refine at_op (o := ⟨some 3, _, _, _, _, _⟩) ?_; refine wpList_boxI rfl 35 _ rfl .u64 ys rfl ?_; intro w2 B2 s2 b2; have A2 := A1.below b2)
    | (with_reducible refine at_op (o := ⟨some 4, _, _, _, _, _⟩) ?_; refine wpList_allocI rfl 35 rfl .u64 4 zero_num ?_; intro w3 R3 s3 b3; have A3 := A2.below b3; have B3 := B2.below b3)
    | (with_reducible refine at_op (o := ⟨some 5, _, _, _, _, _⟩) ?_; refine wpList_allocI rfl 60 rfl .u64 8 zero_eight ?_; intro w4 D4 s4 b4; have A4 := A3.below b4; have B4 := B3.below b4; have R4 := R3.below b4))
  go_loopw [6] (fun i wr => ∃ (k : Nat) (ps : List Int), k ≤ 4 ∧ i = .int .i64 k ∧ Arr .u64 wr w.heap.size xs ∧ Arr .u64 wr w1.heap.size ys ∧ Arr .u64 wr w2.heap.size (List.replicate 4 0) ∧ Arr .u64 wr w3.heap.size ps ∧ Words ps ∧ ps.length = 8 ∧ valW ps 8 = valW xs k * valW ys 4 ∧ RowKit.Hid (∀ j, k + 4 ≤ j → at0 ps j = 0) ∧ Below w.heap.size w wr) (fun i _ => 4 - (intOf i).toNat)
  case atStart => exact ⟨0, _, by omega, rfl, A4, B4, R4, D4, fun x h => by simp at h; omega, by simp, by rw [zeros8]; simp [valW], Lib.hid fun j _ => at0_zeros8 j, below_then (below_then (below_then b1 b2) b3) b4⟩
  case round =>
    obtain ⟨k, ps, hk, rfl, A, B, R, D, hpw, hpl, hpv, hpz, hbel⟩ := hrel
    by_cases hlt : k < 4
    · go_wp2
      go_loopw [7, 8] (fun c j wr => ∃ (m : Nat) (qs : List Int) (cr : Int), m ≤ 4 ∧ j = .int .i64 m ∧ c = .int .u64 cr ∧ (0 ≤ cr ∧ cr < 18446744073709551616) ∧ Arr .u64 wr w.heap.size xs ∧ Arr .u64 wr w1.heap.size ys ∧ Arr .u64 wr w2.heap.size (List.replicate 4 0) ∧ Arr .u64 wr w3.heap.size qs ∧ Words qs ∧ qs.length = 8 ∧ valW qs 8 + cr * 2 ^ (64 * (k + m)) = valW xs k * valW ys 4 + at0 xs k * valW ys m * 2 ^ (64 * k) ∧ RowKit.Hid (∀ j, k + 4 ≤ j → at0 qs j = 0) ∧ Below w.heap.size w wr) (fun _ j _ => 4 - (intOf j).toNat)
      case atStart => exact ⟨0, ps, 0, by omega, rfl, rfl, by omega, A, B, R, D, hpw, hpl, by rw [hpv]; simp [valW], hpz, hbel⟩
      case round =>
        clear A B R D hbel hpv hpw hpl hpz
        obtain ⟨m, qs, cr, hm, rfl, rfl, hcr, A, B, R, D, hqw, hql, hqv, hqz, hbel⟩ := hrel
        by_cases hlm : m < 4
        · obtain ⟨h, l, l1, o1, h1, l2, o2, c2, hM, ha1, hw1, ha2, hw2, hl2, hc2, heq⟩ := mul_step2 (at0 xs k) (at0 ys m) (at0 qs (k + m)) cr (hx.at k) (hy.at m) (hqw.at (k + m)) hcr
          have hrow := row_step qs xs ys k m (valW xs k * valW ys 4) cr l2 c2 hql hlt hlm hqv heq
          have hqw2 := hqw.set (k + m) hl2
          have hqz2 := Lib.hid (fun j (hj : k + 4 ≤ j) => (at0_set_other qs (k + m) j l2 (by omega)).trans (hqz.out j hj))
          clear heq hqv
          have c0 := A.cell (k := k) (by omega)
          have c1 := B.cell (k := m) (by omega)
          have c2' := D.cell (k := k + m) (by omega)
          have f0 := D.free (k := k + m) (by omega)
          go_wp2
          go_quiet ((go_at_call 52; exact Calls.quiet_of_same (hM _)))
          go_wp2
          refine ⟨⟨m + 1, _, c2, by omega, by go_num, rfl, hc2, (A.drewN _).setOther (by omega) _ _, (B.drewN _).setOther (by omega) _ _, (R.drewN _).setOther (by omega) _ _, (D.drewN _).set _ _, hqw2, by simp [hql], hrow, hqz2, (below_drewN hbel _).setCell (by show w.heap.size ≤ w3.heap.size; omega) _⟩, by simp [intOf]; omega⟩
        · obtain rfl : m = 4 := by omega
          have hz := hqz.out (k + 4) (by omega)
          have hend := row_next xs ys k _ (row_carry qs (k + 4) _ cr hql (by omega) hz hqv)
          have hqw2 := hqw.set (k + 4) hcr
          have hqz2 := Lib.hid (fun j (hj : k + 1 + 4 ≤ j) => (at0_set_other qs (k + 4) j cr (by omega)).trans (hqz.out j (by omega)))
          have c2' := D.cell (k := k + 4) (by omega)
          have f0 := D.free (k := k + 4) (by omega)
          clear hz hqv
          go_wp2
          exact ⟨⟨k + 1, _, by omega, by go_num, A.setOther (by omega) _ _, B.setOther (by omega) _ _, R.setOther (by omega) _ _, D.set _ _, hqw2, by simp [hql], hend, hqz2, hbel.setCell (by show w.heap.size ≤ w3.heap.size; omega) _⟩, by simp [intOf]; omega⟩
    · obtain rfl : k = 4 := by omega
      have FO : ∀ W, Calls Tryd.prog 54 #[aggI .u64 [at0 ps 0, at0 ps 1, at0 ps 2, at0 ps 3], aggI .u64 [at0 ps 4, at0 ps 5, at0 ps 6, at0 ps 7]] W fun e w' => e = .returned (aggI .u64 (numW 4 ((valW xs 4 * valW ys 4) % pV))) ∧ Below W.heap.size W w' := by
        intro W
        have q1 : Words [at0 ps 0, at0 ps 1, at0 ps 2, at0 ps 3] := fun x h => by simp at h; rcases h with rfl | rfl | rfl | rfl <;> exact hpw.at _
        have q2 : Words [at0 ps 4, at0 ps 5, at0 ps 6, at0 ps 7] := fun x h => by simp at h; rcases h with rfl | rfl | rfl | rfl <;> exact hpw.at _
        have h := ref_fold_v (valW [at0 ps 0, at0 ps 1, at0 ps 2, at0 ps 3] 4) (valW [at0 ps 4, at0 ps 5, at0 ps 6, at0 ps 7] 4) W (valW_lt _ q1 4) (valW_lt _ q2 4)
        rw [halves ps hpw hpl, hpv, ← eq_numW _ q1 4 rfl, ← eq_numW _ q2 4 rfl] at h
        exact h
      have e0 := D.cell (k := 0) (by omega); have e1 := D.cell (k := 1) (by omega); have e2 := D.cell (k := 2) (by omega); have e3 := D.cell (k := 3) (by omega)
      have e4 := D.cell (k := 4) (by omega); have e5 := D.cell (k := 5) (by omega); have e6 := D.cell (k := 6) (by omega); have e7 := D.cell (k := 7) (by omega)
      clear hpv hpz
      have HRL := numW_length 4 ((valW xs 4 * valW ys 4) % pV)
      generalize hrr : numW 4 ((valW xs 4 * valW ys 4) % pV) = rr at *
      have HRR := Lib.hid hrr
      clear hrr
      go_wp2_with (first
        | (with_reducible refine at_op (o := ⟨some 71, _, _, _, _, _⟩) ?_; refine wpList_buildI rfl 35 _ rfl .u64 [_, _, _, _] _ (built_num4 _ _ _ _) rfl ?_)
        | (with_reducible refine at_op (o := ⟨some 80, _, _, _, _, _⟩) ?_; refine wpList_buildI rfl 35 _ rfl .u64 [_, _, _, _] _ (built_num4 _ _ _ _) rfl ?_)
        | (go_at_call 54; refine (FO _).mono ?_; rintro e w9 ⟨rfl, b9⟩; have R9 := R.below b9; have B9 := below_then hbel b9)
        | (with_reducible refine at_op (o := ⟨_, .store 35 _ _, _, _, _, _⟩) ?_; refine wpList_storeI rfl 35 _ _ rfl 4 info_num w2.heap.size rfl .u64 _ rr rfl R9 (by simp) HRL ?_; intro A9))
      refine bodyPost_ret (results_cellI rfl _ 4 33 und_num info_num w2.heap.size rfl .u64 _ A9 HRL) rfl ?_
      exact ⟨by rw [HRR.out], Below.setRow B9 (by omega) _⟩
end Go.Proofs.YtlhloldjlfcchaaDoor
