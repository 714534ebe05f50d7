/- The reference's MulAdd. -/
import Derived.Test.YteocdjgdljfpdaaLeft
namespace Go.Proofs.Yteocdjgdljfpdaa
open Go.RowKit Go.Shelf
set_option linter.unusedVariables false
set_option maxRecDepth 8000

theorem rmul_step (yb : List Int) (hy : Bytes yb) (n m : Nat) (h : m < 8 * n) (b : Int) (hb : bitB yb m = b) (xv v : Int) (hv : v = (xv * (valB yb n / 2 ^ (m + 1))) % ordV) : ((v + v) % ordV + b * (xv % ordV)) % ordV = (xv * (valB yb n / 2 ^ m)) % ordV := by
  have h1 := bitB_val yb hy n m h
  have h2 := half_val (valB yb n) m
  rw [← h1, hb] at h2
  rw [h2, hv]
  generalize valB yb n / 2 ^ (m + 1) = y
  have e : xv * (2 * y + b) = 2 * (xv * y) + b * xv := by grind
  rw [e]
  have h3 : b = 0 ∨ b = 1 := hb ▸ bitB_bit yb m
  generalize xv * y = p
  unfold ordV
  rcases h3 with rfl | rfl <;> omega

set_option maxHeartbeats 8000000 in
theorem ref_muladd_v (xb yb cb : List Int) (w : World) (hxb : Bytes xb) (hyb : Bytes yb) (hcb : Bytes cb) (hxl : xb.length = 32) (hyl : yb.length = 32) (hcl : cb.length = 32) :
    Calls Try.prog 17 #[aggI .u8 xb, aggI .u8 yb, aggI .u8 cb] w fun e w' => e = .returned (aggI .u8 (numB ((valB cb 32 + valB xb 32 * valB yb 32) % ordV))) ∧ Below w.heap.size w w' := by
  have LL : ∀ W, Arr .u8 W w.heap.size xb → Calls Try.prog 23 #[.slice (some ⟨w.heap.size, 0, none⟩) 32 32] W fun e w' => e = .returned (aggI .u64 (numW 4 (valB xb 32 % ordV))) ∧ Below W.heap.size W w' := fun W h => left_v xb _ 32 W h hxb hxl (by omega)
  have hyv := valB_32 yb hyb
  have hyv2 := valB_lt yb hyb 32
  go_enter Try.func17, Try.ntmps17
  go_wp2_with (first
    | (with_reducible refine at_op (o := ⟨some 3, _, _, _, _, _⟩) ?_; refine wpList_boxI rfl 23 _ rfl .u8 xb rfl ?_; intro w1 A1 s1 b1)
    | (with_reducible refine at_op (o := ⟨some 4, _, _, _, _, _⟩) ?_; refine wpList_boxI rfl 23 _ rfl .u8 yb rfl ?_; intro w2 A2 s2 b2; have X2 := A1.below b2)
    | (with_reducible refine at_op (o := ⟨some 5, _, _, _, _, _⟩) ?_; refine wpList_boxI rfl 23 _ rfl .u8 cb rfl ?_; intro w3 A3 s3 b3; have X3 := X2.below b3; have Y3 := A2.below b3)
    | (with_reducible refine at_op (o := ⟨some 6, _, _, _, _, _⟩) ?_; refine wpList_allocI rfl 23 rfl .u8 32 zero_a32 ?_; intro w4 A4 s4 b4; have X4 := X3.below b4; have Y4 := Y3.below b4; have C4 := A3.below b4)
    | (go_at_call 23; refine (LL _ X4).mono ?_; rintro e w5 ⟨rfl, b5⟩; have X5 := X4.below b5; have Y5 := Y4.below b5; have C5 := C4.below b5; have R5 := A4.below b5)
    | (with_reducible refine at_op (o := ⟨some 12, _, _, _, _, _⟩) ?_; refine wpList_buildI rfl 35 _ rfl .u64 [0, 0, 0, 0] _ built_num0 rfl ?_)
    | (with_reducible refine at_op (o := ⟨some 7, _, _, _, _, _⟩) ?_; refine wpList_allocI rfl 35 rfl .u64 4 zero_num ?_; intro w6 A6 s6 b6; have X6 := X5.below b6; have Y6 := Y5.below b6; have C6 := C5.below b6; have R6 := R5.below b6)
    | (with_reducible refine at_op (o := ⟨some 8, _, _, _, _, _⟩) ?_; refine wpList_allocI rfl 35 rfl .u64 4 zero_num ?_; intro w7 A7 s7 b7; have X7 := X6.below b7; have Y7 := Y6.below b7; have C7 := C6.below b7; have R7 := R6.below b7; have E7 := A6.below b7)
    | (with_reducible refine at_op (o := ⟨_, .store 35 (.tmp 7) _, _, _, _, _⟩) ?_; refine wpList_storeI rfl 35 _ _ rfl 4 info_num (w5.heap.size) rfl .u64 _ (numW 4 (valB xb 32 % ordV)) rfl (E7) (rfl) (numW_length _ _) ?_; intro E8)
    | (with_reducible refine at_op (o := ⟨_, .store 35 (.tmp 8) _, _, _, _, _⟩) ?_; refine wpList_storeI rfl 35 _ _ rfl 4 info_num (w6.heap.size) rfl .u64 _ ([0, 0, 0, 0]) rfl (A7.rowOther (by omega) _) (rfl) (rfl) ?_; intro D9))
  have hs5 := b5.size
  have q1 := ((numW 4 (valB xb 32 % ordV)).map (Value.int .u64)).toArray
  have A := (X7.rowOther (B' := w5.heap.size) (by omega) ((numW 4 (valB xb 32 % ordV)).map (Value.int .u64)).toArray).rowOther (B' := w6.heap.size) (by omega) (([0, 0, 0, 0] : List Int).map (Value.int .u64)).toArray
  have Y := (Y7.rowOther (B' := w5.heap.size) (by omega) ((numW 4 (valB xb 32 % ordV)).map (Value.int .u64)).toArray).rowOther (B' := w6.heap.size) (by omega) (([0, 0, 0, 0] : List Int).map (Value.int .u64)).toArray
  have C := (C7.rowOther (B' := w5.heap.size) (by omega) ((numW 4 (valB xb 32 % ordV)).map (Value.int .u64)).toArray).rowOther (B' := w6.heap.size) (by omega) (([0, 0, 0, 0] : List Int).map (Value.int .u64)).toArray
  have R := (R7.rowOther (B' := w5.heap.size) (by omega) ((numW 4 (valB xb 32 % ordV)).map (Value.int .u64)).toArray).rowOther (B' := w6.heap.size) (by omega) (([0, 0, 0, 0] : List Int).map (Value.int .u64)).toArray
  have E := E8.rowOther (B' := w6.heap.size) (by omega) (([0, 0, 0, 0] : List Int).map (Value.int .u64)).toArray
  have hbel := Below.setRow (Below.setRow (below_then (below_then (below_then (below_then (below_then (below_then b1 b2) b3) b4) b5) b6) b7) (g := w5.heap.size) (by omega) ((numW 4 (valB xb 32 % ordV)).map (Value.int .u64)).toArray) (g := w6.heap.size) (by omega) (([0, 0, 0, 0] : List Int).map (Value.int .u64)).toArray
  have hxm := ordV_mod (valB xb 32)
  have hxv := valB_32 xb hxb
  have hzero : [0, 0, 0, 0] = numW 4 0 := by decide +kernel
  rw [hzero] at D9
  clear LL q1 hzero
  go_loopw [9] (fun i wr => ∃ (k : Nat) (v : Int), k ≤ 256 ∧ i = .int .i64 ((k : Int) - 1) ∧ v = (valB xb 32 * (valB yb 32 / 2 ^ k)) % ordV ∧ Arr .u8 wr w.heap.size xb ∧ Arr .u8 wr w1.heap.size yb ∧ Arr .u8 wr w2.heap.size cb ∧ Arr .u8 wr w3.heap.size (List.replicate 32 0) ∧ Arr .u64 wr (w5.heap.size) (numW 4 (valB xb 32 % ordV)) ∧ Arr .u64 wr (w6.heap.size) (numW 4 v) ∧ Below w.heap.size w wr) (fun i _ => (intOf i + 1).toNat)
  case atStart =>
    refine ⟨256, 0, by omega, by go_num, ?_, A, Y, C, R, E, D9, hbel⟩
    rw [Int.ediv_eq_zero_of_lt hyv.1 hyv.2]
    simp
  case round =>
    clear A Y C R E D9 hbel
    obtain ⟨k, v, hk, rfl, hv, A, Y, C, R, E, D, hbel⟩ := hrel
    have hvb : 0 ≤ v ∧ v < ordV := by rw [hv]; exact ordV_mod _
    cases k with
    | zero =>
      rw [Int.pow_zero, Int.ediv_one] at hv
      have hc := left_v cb w2.heap.size 32
      have LL : ∀ W, Arr .u8 W (w2.heap.size) cb → Calls Try.prog 23 #[.slice (some ⟨w2.heap.size, 0, none⟩) 32 32] W fun e w' => e = .returned (aggI .u64 (numW 4 (valB cb 32 % ordV))) ∧ Below W.heap.size W w' := fun W h => left_v cb _ 32 W h hcb hcl (by omega)
      have SS : ∀ W, Calls Try.prog 32 #[aggI .u64 (numW 4 v), aggI .u64 (numW 4 (valB cb 32 % ordV))] W fun e w' => e = .returned (aggI .u64 (numW 4 ((valB cb 32 + valB xb 32 * valB yb 32) % ordV))) ∧ Below W.heap.size W w' := by
        intro W
        have h := sum_v v (valB cb 32 % ordV) W hvb (ordV_mod _)
        have e : (v + valB cb 32 % ordV) % ordV = (valB cb 32 + valB xb 32 * valB yb 32) % ordV := by
          rw [hv]
          generalize valB xb 32 * valB yb 32 = p
          unfold ordV
          omega
        rw [e] at h
        exact h
      clear hc hv
      generalize v = zv at *
      go_wp2
      refine wp_region_ord [[], [], [1], [0, 2, 2], [3, 3], [4, 4, 0, 1, 2, 3, 4]] [some 33, some 34, some 35, some 36, some 37, none] 5 (fun b w' => Arr .u8 w' w2.heap.size cb ∧ Arr .u8 w' w3.heap.size (if b then numB ((valB cb 32 + valB xb 32 * valB yb 32) % ordV) else List.replicate 32 0) ∧ Arr .u64 w' (w6.heap.size) (numW 4 zv) ∧ Below w.heap.size w w') (fun opn f _ => match opn with | 0 => f 0 = aggI .u64 (numW 4 zv) | 1 => f 1 = .slice (some ⟨w2.heap.size, 0, none⟩) 32 32 | 2 => f 2 = aggI .u64 (numW 4 (valB cb 32 % ordV)) | 3 => f 3 = aggI .u64 (numW 4 ((valB cb 32 + valB xb 32 * valB yb 32) % ordV)) | 4 => f 4 = aggI .u8 (numB ((valB cb 32 + valB xb 32 * valB yb 32) % ordV)) | 5 => f 5 = undef | _ => True) (fun _ v v' => ∃ cs, v' = v.setRow (w3.heap.size) cs) (by kernel_rfl) (by kernel_rfl) (by kernel_rfl) (by kernel_rfl) (fun b v v' hb h => ⟨h.1.below hb, h.2.1.below hb, h.2.2.1.below hb, below_then h.2.2.2 hb⟩) (fun _ _ _ _ _ h => h) (fun _ _ _ _ _ _ _ h => h) ⟨C.drew, R.drew, D.drew, hbel.drew⟩ ?_ ?_
      ·
        refine StepL.other (k := 0) rfl (fun b f W hb hG hH => ?_) ?_
        · -- 0
          obtain rfl := hb rfl
          clear hH
          generalize hA : putL _ _ _ _ = A
          have q8 : A.eval (.tmp 8) = .pointer (some ⟨w6.heap.size, 0, none⟩) := by rw [← hA]; exact putL_none rfl rfl rfl rfl
          have r8 : A.tmps[8]?.getD undef = .pointer (some ⟨w6.heap.size, 0, none⟩) := slot_get q8
          clear hA
          exact Does.loadI rfl 35 _ rfl 4 33 und_num info_num (w6.heap.size) q8 .u64 (numW 4 zv) (hG.2.2.1) (numW_length _ _) ⟨Below.refl _ _, rfl⟩
        refine StepL.other (k := 1) rfl (fun b f W hb hG hH => ?_) ?_
        · -- 1
          obtain rfl := hb rfl
          clear hH
          generalize hA : putL _ _ _ _ = A
          have q5 : A.eval (.tmp 5) = .pointer (some ⟨w2.heap.size, 0, none⟩) := by rw [← hA]; exact putL_none rfl rfl rfl rfl
          have r5 : A.tmps[5]?.getD undef = .pointer (some ⟨w2.heap.size, 0, none⟩) := slot_get q5
          clear hA
          refine Does.pure rfl (.slice (some ⟨w2.heap.size, 0, none⟩) 32 32) ?_ ⟨Below.refl _ _, rfl⟩
          go_simp
        refine StepL.other (k := 2) rfl (fun b f W hb hG hH => ?_) ?_
        · -- 2
          obtain rfl := hb rfl
          obtain ⟨d1, -⟩ : (f 1 = .slice (some ⟨w2.heap.size, 0, none⟩) 32 32) ∧ True := hH
          generalize hA : putL _ _ _ _ = A
          have q34 : A.eval (.tmp 34) = .slice (some ⟨w2.heap.size, 0, none⟩) 32 32 := by rw [← hA]; exact putL_look rfl rfl rfl d1
          have r34 : A.tmps[34]?.getD undef = .slice (some ⟨w2.heap.size, 0, none⟩) 32 32 := slot_get q34
          clear hA
          refine Does.call rfl _ _ (by go_simp) ((LL W hG.1).mono ?_)
          rintro e w' ⟨rfl, hb'⟩
          exact ⟨_, rfl, hb', rfl⟩
        refine StepL.other (k := 3) rfl (fun b f W hb hG hH => ?_) ?_
        · -- 3
          obtain rfl := hb rfl
          obtain ⟨d0, d2, -, -⟩ : (f 0 = aggI .u64 (numW 4 zv)) ∧ (f 2 = aggI .u64 (numW 4 (valB cb 32 % ordV))) ∧ (f 2 = aggI .u64 (numW 4 (valB cb 32 % ordV))) ∧ True := hH
          generalize hA : putL _ _ _ _ = A
          have q33 : A.eval (.tmp 33) = aggI .u64 (numW 4 zv) := by rw [← hA]; exact putL_look rfl rfl rfl d0
          have r33 : A.tmps[33]?.getD undef = aggI .u64 (numW 4 zv) := slot_get q33
          have q35 : A.eval (.tmp 35) = aggI .u64 (numW 4 (valB cb 32 % ordV)) := by rw [← hA]; exact putL_look rfl rfl rfl d2
          have r35 : A.tmps[35]?.getD undef = aggI .u64 (numW 4 (valB cb 32 % ordV)) := slot_get q35
          clear hA
          refine Does.call rfl _ _ (by go_simp) ((SS W).mono ?_)
          rintro e w' ⟨rfl, hb'⟩
          exact ⟨_, rfl, hb', rfl⟩
        refine StepL.other (k := 4) rfl (fun b f W hb hG hH => ?_) ?_
        · -- 4
          obtain rfl := hb rfl
          obtain ⟨d3, -, -⟩ : (f 3 = aggI .u64 (numW 4 ((valB cb 32 + valB xb 32 * valB yb 32) % ordV))) ∧ (f 3 = aggI .u64 (numW 4 ((valB cb 32 + valB xb 32 * valB yb 32) % ordV))) ∧ True := hH
          generalize hA : putL _ _ _ _ = A
          have q36 : A.eval (.tmp 36) = aggI .u64 (numW 4 ((valB cb 32 + valB xb 32 * valB yb 32) % ordV)) := by rw [← hA]; exact putL_look rfl rfl rfl d3
          have r36 : A.tmps[36]?.getD undef = aggI .u64 (numW 4 ((valB cb 32 + valB xb 32 * valB yb 32) % ordV)) := slot_get q36
          clear hA
          refine Does.call rfl _ _ (by go_simp) ((ref_bytes_v ((valB cb 32 + valB xb 32 * valB yb 32) % ordV) W).mono ?_)
          rintro e w' ⟨rfl, hb'⟩
          exact ⟨_, rfl, hb', rfl⟩
        refine StepL.self (k := 5) rfl (fun f W hG hH => ?_) ?_
        · -- 5
          obtain ⟨d4, -, d0, d1, d2, d3, -, -⟩ : (f 4 = aggI .u8 (numB ((valB cb 32 + valB xb 32 * valB yb 32) % ordV))) ∧ (f 4 = aggI .u8 (numB ((valB cb 32 + valB xb 32 * valB yb 32) % ordV))) ∧ (f 0 = aggI .u64 (numW 4 zv)) ∧ (f 1 = .slice (some ⟨w2.heap.size, 0, none⟩) 32 32) ∧ (f 2 = aggI .u64 (numW 4 (valB cb 32 % ordV))) ∧ (f 3 = aggI .u64 (numW 4 ((valB cb 32 + valB xb 32 * valB yb 32) % ordV))) ∧ (f 4 = aggI .u8 (numB ((valB cb 32 + valB xb 32 * valB yb 32) % ordV))) ∧ True := hH
          generalize hA : putL _ _ _ _ = A
          have q6 : A.eval (.tmp 6) = .pointer (some ⟨w3.heap.size, 0, none⟩) := by rw [← hA]; exact putL_none rfl rfl rfl rfl
          have r6 : A.tmps[6]?.getD undef = .pointer (some ⟨w3.heap.size, 0, none⟩) := slot_get q6
          have q37 : A.eval (.tmp 37) = aggI .u8 (numB ((valB cb 32 + valB xb 32 * valB yb 32) % ordV)) := by rw [← hA]; exact putL_look rfl rfl rfl d4
          have r37 : A.tmps[37]?.getD undef = aggI .u8 (numB ((valB cb 32 + valB xb 32 * valB yb 32) % ordV)) := slot_get q37
          clear hA
          refine Does.storeI rfl 23 _ _ rfl 32 info_a32 (w3.heap.size) q6 .u8 _ _ q37 hG.2.1 rfl (numB_length _) ?_
          intro A9
          exact ⟨⟨_, rfl⟩, ⟨hG.1.rowOther (by omega) _, A9, hG.2.2.1.rowOther (by omega) _, Below.setRow hG.2.2.2 (by omega) _⟩, rfl⟩
        exact trivial
      ·
        intro f W hG hH
        obtain ⟨d0, d1, d2, d3, d4, d5, -⟩ : (f 0 = aggI .u64 (numW 4 zv)) ∧ (f 1 = .slice (some ⟨w2.heap.size, 0, none⟩) 32 32) ∧ (f 2 = aggI .u64 (numW 4 (valB cb 32 % ordV))) ∧ (f 3 = aggI .u64 (numW 4 ((valB cb 32 + valB xb 32 * valB yb 32) % ordV))) ∧ (f 4 = aggI .u8 (numB ((valB cb 32 + valB xb 32 * valB yb 32) % ordV))) ∧ (f 5 = undef) ∧ True := hH
        rw [show List.range (List.length [[], [], [1], [0, 2, 2], [3, 3], [4, 4, 0, 1, 2, 3, 4]]) = [0, 1, 2, 3, 4, 5] from rfl]
        simp only [putL, List.getElem?_cons_zero, List.getElem?_cons_succ, Option.join, Option.bind_some, id_eq, Act.put, List.setIfInBounds_toArray, List.set_cons_zero, List.set_cons_succ, d0, d1, d2, d3, d4]
        clear d0 d1 d2 d3 d4 d5
        obtain ⟨-, A9, -, hbel⟩ := hG
        have A9 : Arr .u8 W (w3.heap.size) (numB ((valB cb 32 + valB xb 32 * valB yb 32) % ordV)) := A9
        go_wp2
        refine bodyPost_ret (results_cellI rfl _ 32 5 und_a32 info_a32 (w3.heap.size) rfl .u8 _ A9 (numB_length _)) rfl ?_
        exact ⟨rfl, hbel⟩
    | succ m =>
      have hstep := fun b hb' => rmul_step yb hyb 32 m (by omega) b hb' (valB xb 32) v hv
      have hbit := u8_and_one (byte_shift (hyb.at (m / 8)) (m % 8))
      have hbd := bitB_bit yb m
      unfold bitB at hstep hbd
      rw [← hbit] at hbd hstep
      have hv2 := ordV_mod (v + v)
      have S1 := fun W => sum_v v v W hvb hvb
      generalize hv2e : (v + v) % ordV = v2 at hv2 S1
      rw [hv2e] at hstep
      have H := Lib.hid hstep
      clear hstep hbit hv hv2e
      simp only [Int.natCast_add, Int.natCast_one, Int.add_sub_cancel]
      have c0 := Y.cell (k := m / 8) (by omega)
      have hx64 := hyb.at (m / 8)
      have e2 : (m : Int).tmod 8 = (m : Int) % 8 := rfl
      have e3 : (0 : Int) ≤ (m : Int) / 8 := by omega
      have e4 : (m : Int) / 8 < 32 := by omega
      have e8 : ((m : Int) / 8).toNat = m / 8 := by omega
      have e9 : ((m : Int) % 8).toNat = m % 8 := by omega
      have hm9 : (m : Int) < 512 := by omega
      rcases hbd with h0 | h1
      · go_wp2_with (first
    | (with_reducible refine at_op (o := ⟨some 17, _, _, _, _, _⟩) ?_; refine wpList_loadI rfl 35 _ rfl 4 33 und_num info_num (w6.heap.size) rfl .u64 (numW 4 (v)) (D) (numW_length _ _) ?_)
    | (with_reducible refine at_op (o := ⟨some 18, _, _, _, _, _⟩) ?_; refine wpList_loadI rfl 35 _ rfl 4 33 und_num info_num (w6.heap.size) rfl .u64 (numW 4 (v)) (D) (numW_length _ _) ?_)
    | (go_at_call 32; refine (S1 _).mono ?_; rintro e w11 ⟨rfl, bN⟩; replace A := A.below bN; replace Y := Y.below bN; replace C := C.below bN; replace R := R.below bN; replace E := E.below bN; replace D := D.below bN; replace hbel := below_then hbel bN)
    | (with_reducible refine at_op (o := ⟨_, .store 35 (.tmp 8) (.tmp 19), _, _, _, _⟩) ?_; refine wpList_storeI rfl 35 _ _ rfl 4 info_num (w6.heap.size) rfl .u64 _ _ rfl D (numW_length _ _) (numW_length _ _) ?_; replace A := A.rowOther (B' := w6.heap.size) (by omega) ((numW 4 (v2)).map (Value.int .u64)).toArray; replace Y := Y.rowOther (B' := w6.heap.size) (by omega) ((numW 4 (v2)).map (Value.int .u64)).toArray; replace C := C.rowOther (B' := w6.heap.size) (by omega) ((numW 4 (v2)).map (Value.int .u64)).toArray; replace R := R.rowOther (B' := w6.heap.size) (by omega) ((numW 4 (v2)).map (Value.int .u64)).toArray; replace E := E.rowOther (B' := w6.heap.size) (by omega) ((numW 4 (v2)).map (Value.int .u64)).toArray; replace hbel := Below.setRow hbel (g := w6.heap.size) (by omega) ((numW 4 (v2)).map (Value.int .u64)).toArray; clear D; intro D; have c0 := Y.cell (k := m / 8) (by omega)))
        have hs := H.out 0 h0
        rw [Int.zero_mul, Int.add_zero, Int.emod_eq_of_lt hv2.1 hv2.2] at hs
        exact ⟨⟨m, _, by omega, rfl, hs, A, Y, C, R, E, D, hbel⟩, by simp [intOf]⟩
      · have S2 := fun W => sum_v v2 (valB xb 32 % ordV) W hv2 hxm
        have hs := H.out 1 h1
        rw [Int.one_mul] at hs
        generalize hv3 : (v2 + valB xb 32 % ordV) % ordV = v3 at S2 hs
        have HS := Lib.hid hs
        clear hv3 hs
        go_wp2_with (first
    | (with_reducible refine at_op (o := ⟨some 17, _, _, _, _, _⟩) ?_; refine wpList_loadI rfl 35 _ rfl 4 33 und_num info_num (w6.heap.size) rfl .u64 (numW 4 (v)) (D) (numW_length _ _) ?_)
    | (with_reducible refine at_op (o := ⟨some 18, _, _, _, _, _⟩) ?_; refine wpList_loadI rfl 35 _ rfl 4 33 und_num info_num (w6.heap.size) rfl .u64 (numW 4 (v)) (D) (numW_length _ _) ?_)
    | (with_reducible refine at_op (o := ⟨some 30, _, _, _, _, _⟩) ?_; refine wpList_loadI rfl 35 _ rfl 4 33 und_num info_num (w6.heap.size) rfl .u64 (numW 4 (v2)) (D) (numW_length _ _) ?_)
    | (with_reducible refine at_op (o := ⟨some 31, _, _, _, _, _⟩) ?_; refine wpList_loadI rfl 35 _ rfl 4 33 und_num info_num (w5.heap.size) rfl .u64 (numW 4 (valB xb 32 % ordV)) (E) (numW_length _ _) ?_)
    | (go_at_call 32; first | ((with_reducible refine (S1 _).mono ?_); rintro e w11 ⟨rfl, bN⟩; replace A := A.below bN; replace Y := Y.below bN; replace C := C.below bN; replace R := R.below bN; replace E := E.below bN; replace D := D.below bN; replace hbel := below_then hbel bN) | ((with_reducible refine (S2 _).mono ?_); rintro e w12 ⟨rfl, bN⟩; replace A := A.below bN; replace Y := Y.below bN; replace C := C.below bN; replace R := R.below bN; replace E := E.below bN; replace D := D.below bN; replace hbel := below_then hbel bN))
    | (with_reducible refine at_op (o := ⟨_, .store 35 (.tmp 8) (.tmp 19), _, _, _, _⟩) ?_; refine wpList_storeI rfl 35 _ _ rfl 4 info_num (w6.heap.size) rfl .u64 _ _ rfl D (numW_length _ _) (numW_length _ _) ?_; replace A := A.rowOther (B' := w6.heap.size) (by omega) ((numW 4 (v2)).map (Value.int .u64)).toArray; replace Y := Y.rowOther (B' := w6.heap.size) (by omega) ((numW 4 (v2)).map (Value.int .u64)).toArray; replace C := C.rowOther (B' := w6.heap.size) (by omega) ((numW 4 (v2)).map (Value.int .u64)).toArray; replace R := R.rowOther (B' := w6.heap.size) (by omega) ((numW 4 (v2)).map (Value.int .u64)).toArray; replace E := E.rowOther (B' := w6.heap.size) (by omega) ((numW 4 (v2)).map (Value.int .u64)).toArray; replace hbel := Below.setRow hbel (g := w6.heap.size) (by omega) ((numW 4 (v2)).map (Value.int .u64)).toArray; clear D; intro D; have c0 := Y.cell (k := m / 8) (by omega))
    | (with_reducible refine at_op (o := ⟨_, .store 35 (.tmp 8) (.tmp 32), _, _, _, _⟩) ?_; refine wpList_storeI rfl 35 _ _ rfl 4 info_num (w6.heap.size) rfl .u64 _ _ rfl D (numW_length _ _) (numW_length _ _) ?_; replace A := A.rowOther (B' := w6.heap.size) (by omega) ((numW 4 (v3)).map (Value.int .u64)).toArray; replace Y := Y.rowOther (B' := w6.heap.size) (by omega) ((numW 4 (v3)).map (Value.int .u64)).toArray; replace C := C.rowOther (B' := w6.heap.size) (by omega) ((numW 4 (v3)).map (Value.int .u64)).toArray; replace R := R.rowOther (B' := w6.heap.size) (by omega) ((numW 4 (v3)).map (Value.int .u64)).toArray; replace E := E.rowOther (B' := w6.heap.size) (by omega) ((numW 4 (v3)).map (Value.int .u64)).toArray; replace hbel := Below.setRow hbel (g := w6.heap.size) (by omega) ((numW 4 (v3)).map (Value.int .u64)).toArray; clear D; intro D; have c0 := Y.cell (k := m / 8) (by omega)))
        exact ⟨⟨m, _, by omega, rfl, HS.out, A, Y, C, R, E, D, hbel⟩, by simp [intOf]⟩
end Go.Proofs.Yteocdjgdljfpdaa
