/- Package scalar's times: a product, and a number more, as eight words. -/
import Derived.Test.YteocdjgdljfpdaaTimA
namespace Go.Proofs.Yteocdjgdljfpdaa
open Go.RowKit Go.Shelf
set_option linter.unusedVariables false
set_option maxRecDepth 8000

set_option maxHeartbeats 4000000 in
theorem times_any (xs ys cs : List Int) (w : World) (hx : Words xs) (hy : Words ys) (hc : Words cs) (hxl : xs.length = 4) (hyl : ys.length = 4) (hcl : cs.length = 4) :
    Calls Try.prog 31 #[aggI .u64 xs, aggI .u64 ys, aggI .u64 cs] w fun e w' => e = .returned (aggI .u64 (numW 8 (valW cs 4 + valW xs 4 * valW ys 4))) ∧ Below w.heap.size w w' := by
  have hpad : cs ++ (List.replicate 8 (0 : Int)).drop cs.length = cs ++ [0, 0, 0, 0] := by rw [hcl]; rfl
  go_enter Try.func31, Try.ntmps31
  go_wp2_with (first
    | (with_reducible refine at_op (o := ⟨some 3, _, _, _, _, _⟩) ?_; refine wpList_boxI rfl 39 _ rfl .u64 xs rfl ?_; intro w1 A1 s1 b1)
    | (with_reducible refine at_op (o := ⟨some 4, _, _, _, _, _⟩) ?_; refine wpList_boxI rfl 39 _ rfl .u64 ys rfl ?_; intro w2 B2 s2 b2; have A2 := A1.below b2)
    | (with_reducible refine at_op (o := ⟨some 5, _, _, _, _, _⟩) ?_; refine wpList_boxI rfl 39 _ rfl .u64 cs rfl ?_; intro w3 C3 s3 b3; have A3 := A2.below b3; have B3 := B2.below b3)
    | (with_reducible refine at_op (o := ⟨some 6, _, _, _, _, _⟩) ?_; refine wpList_allocI rfl 38 rfl .u64 8 zero_long ?_; intro w4 R4 s4 b4; have A4 := A3.below b4; have B4 := B3.below b4; have C4 := C3.below b4)
    | (with_reducible refine at_op (o := ⟨some 7, _, _, _, _, _⟩) ?_; refine wpList_allocI rfl 38 rfl .u64 8 zero_long ?_; intro w5 D5 s5 b5; have A5 := A4.below b5; have B5 := B4.below b5; have C5 := C4.below b5; have R5 := R4.below b5))
  refine wp_region_ord [[], [], [0, 1]] [some 15, some 16, some 17] 2 (fun b w' => Arr .u64 w' w.heap.size xs ∧ Arr .u64 w' w1.heap.size ys ∧ Arr .u64 w' w2.heap.size cs ∧ Arr .u64 w' w3.heap.size (List.replicate 8 0) ∧ Arr .u64 w' w4.heap.size (if b then cs ++ [0, 0, 0, 0] else List.replicate 8 0) ∧ Below w.heap.size w w') (fun opn f _ => match opn with | 0 => f 0 = .slice (some ⟨w4.heap.size, 0, none⟩) 8 8 | 1 => f 1 = .slice (some ⟨w2.heap.size, 0, none⟩) 4 4 | 2 => f 2 = goInt 4 | _ => True) (fun _ v v' => ∃ zs, v' = v.setRow w4.heap.size zs) (by kernel_rfl) (by kernel_rfl) (by kernel_rfl) (by kernel_rfl) (fun b v v' hb h => ⟨h.1.below hb, h.2.1.below hb, h.2.2.1.below hb, h.2.2.2.1.below hb, h.2.2.2.2.1.below hb, below_then h.2.2.2.2.2 hb⟩) (fun _ _ _ _ _ h => h) (fun _ _ _ _ _ _ _ h => h) ⟨A5.drew, B5.drew, C5.drew, R5.drew, D5.drew, (below_then (below_then (below_then (below_then b1 b2) b3) b4) b5).drew⟩ ?_ ?_
  ·
    refine StepL.other (k := 0) rfl (fun b f W hb hG hH => ?_) ?_
    · -- 0
      obtain rfl := hb rfl
      clear hH
      generalize hA : putL _ _ _ _ = A
      have q7 : A.eval (.tmp 7) = .pointer (some ⟨w4.heap.size, 0, none⟩) := by rw [← hA]; exact putL_none rfl rfl rfl rfl
      have r7 : A.tmps[7]?.getD undef = .pointer (some ⟨w4.heap.size, 0, none⟩) := slot_get q7
      clear hA
      refine Does.pure rfl (.slice (some ⟨w4.heap.size, 0, none⟩) 8 8) ?_ ⟨Below.refl _ _, rfl⟩
      go_simp
    refine StepL.other (k := 1) rfl (fun b f W hb hG hH => ?_) ?_
    · -- 1
      obtain rfl := hb rfl
      clear hH
      generalize hA : putL _ _ _ _ = A
      have q5 : A.eval (.tmp 5) = .pointer (some ⟨w2.heap.size, 0, none⟩) := by rw [← hA]; exact putL_none rfl rfl rfl rfl
      have r5 : A.tmps[5]?.getD undef = .pointer (some ⟨w2.heap.size, 0, none⟩) := slot_get q5
      clear hA
      refine Does.pure rfl (.slice (some ⟨w2.heap.size, 0, none⟩) 4 4) ?_ ⟨Below.refl _ _, rfl⟩
      go_simp
    refine StepL.self (k := 2) rfl (fun f W hG hH => ?_) ?_
    · -- 2
      obtain ⟨d0, d1, -⟩ : (f 0 = .slice (some ⟨w4.heap.size, 0, none⟩) 8 8) ∧ (f 1 = .slice (some ⟨w2.heap.size, 0, none⟩) 4 4) ∧ True := hH
      generalize hA : putL _ _ _ _ = A
      have q15 : A.eval (.tmp 15) = .slice (some ⟨w4.heap.size, 0, none⟩) 8 8 := by rw [← hA]; exact putL_look rfl rfl rfl d0
      have r15 : A.tmps[15]?.getD undef = .slice (some ⟨w4.heap.size, 0, none⟩) 8 8 := slot_get q15
      have q16 : A.eval (.tmp 16) = .slice (some ⟨w2.heap.size, 0, none⟩) 4 4 := by rw [← hA]; exact putL_look rfl rfl rfl d1
      have r16 : A.tmps[16]?.getD undef = .slice (some ⟨w2.heap.size, 0, none⟩) 4 4 := slot_get q16
      clear hA
      refine Does.copyI rfl _ _ _ _ rfl 33 (by kernel_rfl) (by kernel_rfl) w4.heap.size w2.heap.size 8 4 8 4 q15 q16 .u64 (List.replicate 8 0) cs hG.2.2.2.2.1 hG.2.2.1 (by simp) hcl (by omega) ?_
      rw [hpad]
      intro A9
      exact ⟨⟨_, rfl⟩, ⟨hG.1.rowOther (by omega) _, hG.2.1.rowOther (by omega) _, hG.2.2.1.rowOther (by omega) _, hG.2.2.2.1.rowOther (by omega) _, A9, Below.setRow hG.2.2.2.2.2 (by omega) _⟩, rfl⟩
    exact trivial
  ·
    intro f W hG hH
    obtain ⟨d0, d1, d2, -⟩ : (f 0 = .slice (some ⟨w4.heap.size, 0, none⟩) 8 8) ∧ (f 1 = .slice (some ⟨w2.heap.size, 0, none⟩) 4 4) ∧ (f 2 = goInt 4) ∧ True := hH
    rw [show List.range (List.length [[], [], [0, 1]]) = [0, 1, 2] from rfl]
    simp only [putL, List.getElem?_cons_zero, List.getElem?_cons_succ, Option.join, Option.bind_some, id_eq, Act.put, List.setIfInBounds_toArray, List.set_cons_zero, List.set_cons_succ, d0, d1, d2]
    clear d0 d1 d2
    obtain ⟨A, B, CC, R, D, hbel⟩ := hG
    have D : Arr .u64 W w4.heap.size (cs ++ [0, 0, 0, 0]) := D
    go_wp2
    have hG0 : Words (cs ++ [0, 0, 0, 0]) := pad_words hc
    have hL0 : (cs ++ [0, 0, 0, 0]).length = 8 := by simp [hcl]
    have hV0 : valW (cs ++ [0, 0, 0, 0]) 8 = valW cs 4 := valW_pad cs hcl
    generalize cs ++ [0, 0, 0, 0] = ps0 at *
    clear hpad
    go_loopw [18] (fun i wr => ∃ (k : Nat) (ps : List Int), k ≤ 4 ∧ i = .int .i64 k ∧ Arr .u64 wr w.heap.size xs ∧ Arr .u64 wr w1.heap.size ys ∧ Arr .u64 wr w3.heap.size (List.replicate 8 0) ∧ Arr .u64 wr w4.heap.size ps ∧ Words ps ∧ ps.length = 8 ∧ valW ps 8 = valW cs 4 + valW xs k * valW ys 4 ∧ Below w.heap.size w wr) (fun i _ => 4 - (intOf i).toNat)
    case atStart => exact ⟨0, ps0, by omega, rfl, A, B, R, D, hG0, hL0, by rw [hV0]; simp [valW], hbel⟩
    case round =>
      clear A B CC R D hbel hV0 hL0 hG0
      obtain ⟨k, ps, hk, rfl, A, B, R, D, hpw, hpl, hpv, hbel⟩ := hrel
      by_cases hlt : k < 4
      · go_wp2
        go_loopw [9, 21] (fun c j wr => ∃ (m : Nat) (qs : List Int) (cr : Int), m ≤ 4 ∧ j = .int .i64 m ∧ c = .int .u64 cr ∧ (0 ≤ cr ∧ cr < 18446744073709551616) ∧ Arr .u64 wr w.heap.size xs ∧ Arr .u64 wr w1.heap.size ys ∧ Arr .u64 wr w3.heap.size (List.replicate 8 0) ∧ Arr .u64 wr w4.heap.size qs ∧ Words qs ∧ qs.length = 8 ∧ valW qs 8 + cr * 2 ^ (64 * (k + m)) = valW cs 4 + valW xs k * valW ys 4 + at0 xs k * valW ys m * 2 ^ (64 * k) ∧ Below w.heap.size w wr) (fun _ j _ => 4 - (intOf j).toNat)
        case atStart => exact ⟨0, ps, 0, by omega, rfl, rfl, by omega, A, B, R, D, hpw, hpl, by rw [hpv]; simp [valW], hbel⟩
        case round =>
          clear A B R D hbel hpv hpw hpl
          obtain ⟨m, qs, cr, hm, rfl, rfl, hcr, A, B, R, D, hqw, hql, hqv, hbel⟩ := hrel
          by_cases hlm : m < 4
          · obtain ⟨h, l, l1, o1, h1, l2, o2, c2, hM, ha1, hw1, ha2, hw2, hl2, hc2, heq⟩ := mul_step (at0 xs k) (at0 ys m) (at0 qs (k + m)) cr (hx.at k) (hy.at m) (hqw.at (k + m)) hcr
            have hrow := row_step qs xs ys k m (valW cs 4 + valW xs k * valW ys 4) cr l2 c2 hql hlt hlm hqv heq
            have hqw2 := hqw.set (k + m) hl2
            clear heq hqv
            have c0 := A.cell (k := k) (by omega)
            have c1 := B.cell (k := m) (by omega)
            have c2' := D.cell (k := k + m) (by omega)
            have f0 := D.free (k := k + m) (by omega)
            go_wp2
            go_quiet ((go_at_call 35; exact Calls.quiet_of_same (hM _)))
            go_wp2
            refine ⟨⟨m + 1, _, c2, by omega, by go_num, rfl, hc2, (A.drewN _).setOther (by omega) _ _, (B.drewN _).setOther (by omega) _ _, (R.drewN _).setOther (by omega) _ _, (D.drewN _).set _ _, hqw2, by simp [hql], hrow, (below_drewN hbel _).setCell (by show w.heap.size ≤ w4.heap.size; omega) _⟩, by simp [intOf]; omega⟩
          · obtain rfl : m = 4 := by omega
            go_wp2
            go_loopw [9, 14] (fun c j wr => ∃ (t : Nat) (rs : List Int) (cr : Int), k + 4 ≤ t ∧ t ≤ 8 ∧ j = .int .i64 t ∧ c = .int .u64 cr ∧ (0 ≤ cr ∧ cr < 18446744073709551616) ∧ Arr .u64 wr w.heap.size xs ∧ Arr .u64 wr w1.heap.size ys ∧ Arr .u64 wr w3.heap.size (List.replicate 8 0) ∧ Arr .u64 wr w4.heap.size rs ∧ Words rs ∧ rs.length = 8 ∧ valW rs 8 + cr * 2 ^ (64 * t) = valW cs 4 + valW xs k * valW ys 4 + at0 xs k * valW ys 4 * 2 ^ (64 * k) ∧ Below w.heap.size w wr) (fun _ j _ => 8 - (intOf j).toNat)
            case atStart => exact ⟨k + 4, qs, cr, by omega, by omega, by go_num, rfl, hcr, A, B, R, D, hqw, hql, hqv, hbel⟩
            case round =>
              clear A B R D hbel hqv hqw hql hcr
              obtain ⟨t, rs, cr, ht0, ht, rfl, rfl, hcr, A, B, R, D, hrw, hrl, hrv, hbel⟩ := hrel
              by_cases hlt8 : t < 8
              · obtain ⟨l, c2, ha, hl2, hc2, heq⟩ := add_step (at0 rs t) cr (hrw.at t) hcr
                have hrow := tail_step rs t _ cr l c2 hrl hlt8 hrv heq
                have hrw2 := hrw.set t hl2
                clear heq hrv
                have c0 := D.cell (k := t) (by omega)
                have f0 := D.free (k := t) (by omega)
                go_wp2
                exact ⟨⟨t + 1, _, c2, by omega, by omega, by go_num, rfl, hc2, A.setOther (by omega) _ _, B.setOther (by omega) _ _, R.setOther (by omega) _ _, D.set _ _, hrw2, by simp [hrl], hrow, hbel.setCell (by show w.heap.size ≤ w4.heap.size; omega) _⟩, by simp [intOf]; omega⟩
              · obtain rfl : t = 8 := by omega
                have hend := row_end rs xs ys cs hx hy hc hrw k hlt cr hcr.1 hrv
                clear hrv
                go_wp2
                exact ⟨⟨k + 1, rs, by omega, by go_num, A, B, R, D, hrw, hrl, hend, hbel⟩, by simp [intOf]; omega⟩
      · obtain rfl : k = 4 := by omega
        have hys : ps = numW 8 (valW cs 4 + valW xs 4 * valW ys 4) := by rw [← hpv]; exact eq_numW ps hpw 8 hpl
        subst hys
        go_wp2_with (first
          | (with_reducible refine at_op (o := ⟨some 79, _, _, _, _, _⟩) ?_; refine wpList_loadI rfl 38 _ rfl 8 33 und_long info_long w4.heap.size rfl .u64 _ D hpl ?_)
          | (with_reducible refine at_op (o := ⟨_, .store 38 _ _, _, _, _, _⟩) ?_; refine wpList_storeI rfl 38 _ _ rfl 8 info_long w3.heap.size rfl .u64 _ _ rfl R (by simp) hpl ?_; intro A9))
        refine bodyPost_ret (results_cellI rfl _ 8 33 und_long info_long w3.heap.size rfl .u64 _ A9 hpl) rfl ?_
        exact ⟨rfl, Below.setRow hbel (by omega) _⟩
end Go.Proofs.Yteocdjgdljfpdaa
