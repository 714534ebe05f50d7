/- The reference's Left: what is left of a number of bytes. -/
import Derived.Test.YteocdjgdljfpdaaSum
namespace Go.Proofs.Yteocdjgdljfpdaa
open Go.RowKit Go.Shelf
set_option linter.unusedVariables false
set_option maxRecDepth 4000

theorem u8_and_one {x : Int} (h : 0 ≤ x ∧ x ≤ 255) : bits BinOp.and IntKind.u8 x 1 = x % 2 := byte_of (p := fun y => bits BinOp.and IntKind.u8 y 1 = y % 2) (by decide +kernel) h
theorem byte_shift {x : Int} (h : 0 ≤ x ∧ x ≤ 255) (t : Nat) : 0 ≤ x / 2 ^ t ∧ x / 2 ^ t ≤ 255 := by
  have h1 : 0 ≤ x / 2 ^ t := Int.ediv_nonneg h.1 (Int.le_of_lt (pow_pos2 _))
  have h2 : x / 2 ^ t ≤ x := Int.ediv_le_self _ h.1
  omega
theorem left_step (zs : List Int) (hz : Bytes zs) (n m : Nat) (h : m < 8 * n) (b : Int) (hb : bitB zs m = b) (v : Int) (hv : v = valB zs n / 2 ^ (m + 1) % ordV) : ((v + v) % ordV + b) % ordV = valB zs n / 2 ^ m % ordV := by
  have h1 := bitB_val zs hz n m h
  have h2 := half_val (valB zs n) m
  rw [← h1, hb] at h2
  rw [h2, hv]
  generalize valB zs n / 2 ^ (m + 1) = y
  unfold ordV
  omega
theorem ordV_mod (v : Int) : 0 ≤ v % ordV ∧ v % ordV < ordV := by unfold ordV; omega
theorem built_num0 : Try.prog.built 35 [] = some (([0, 0, 0, 0] : List Int).map (Value.int .u64)).toArray := by kernel_rfl
theorem built_num1 : Try.prog.built 35 [(0, .int .u64 1)] = some (([1, 0, 0, 0] : List Int).map (Value.int .u64)).toArray := by kernel_rfl
theorem one_num : aggI .u64 (numW 4 1) = aggI .u64 [1, 0, 0, 0] := by congr 1

set_option maxHeartbeats 4000000 in
theorem left_v (zs : List Int) (B n : Nat) (w : World) (hz : Arr .u8 w B zs) (hb : Bytes zs) (hl : zs.length = n) (hn : n ≤ 64) :
    Calls Try.prog 23 #[.slice (some ⟨B, 0, none⟩) n n] w fun e w' => e = .returned (aggI .u64 (numW 4 (valB zs n % ordV))) ∧ Below w.heap.size w w' := by
  have hB := hz.lt
  have hn' : (n : Int) ≤ 64 := by omega
  go_enter Try.func23, Try.ntmps23
  go_wp2_with (first
    | (with_reducible refine at_op (o := ⟨some 2, _, _, _, _, _⟩) ?_; refine wpList_allocI rfl 35 rfl .u64 4 zero_num ?_; intro w1 A1 s1 b1; have X1 := hz.below b1)
    | (with_reducible refine at_op (o := ⟨some 3, _, _, _, _, _⟩) ?_; refine wpList_allocI rfl 35 rfl .u64 4 zero_num ?_; intro w2 A2 s2 b2; have X2 := X1.below b2; have R2 := A1.below b2))
  go_loopw [4] (fun i wr => ∃ (k : Nat) (v : Int), k ≤ 8 * n ∧ i = .int .i64 ((k : Int) - 1) ∧ v = valB zs n / 2 ^ k % ordV ∧ Arr .u8 wr B zs ∧ Arr .u64 wr w.heap.size (List.replicate 4 0) ∧ Arr .u64 wr w1.heap.size (numW 4 v) ∧ Below w.heap.size w wr) (fun i _ => (intOf i + 1).toNat)
  case atStart =>
    refine ⟨8 * n, 0, by omega, by go_num, ?_, X2, R2, A2, below_then b1 b2⟩
    have h := valB_lt zs hb n
    rw [Int.ediv_eq_zero_of_lt h.1 h.2]
    rfl
  case round =>
    obtain ⟨k, v, hk, rfl, hv, A, R, D, hbel⟩ := hrel
    have hvb : 0 ≤ v ∧ v < ordV := by rw [hv]; exact ordV_mod _
    have hne : B ≠ w1.heap.size := by omega
    cases k with
    | zero =>
      have hv2 : numW 4 v = numW 4 (valB zs n % ordV) := by rw [hv, Int.pow_zero, Int.ediv_one]
      rw [hv2] at D
      clear hv2 hv
      go_wp2_with (first
    | (with_reducible refine at_op (o := ⟨some 30, _, _, _, _, _⟩) ?_; refine wpList_loadI rfl 35 _ rfl 4 33 und_num info_num (w1.heap.size) rfl .u64 (numW 4 (valB zs n % ordV)) (D) (numW_length _ _) ?_)
    | (with_reducible refine at_op (o := ⟨_, .store 35 _ _, _, _, _, _⟩) ?_; refine wpList_storeI rfl 35 _ _ rfl 4 info_num (w.heap.size) rfl .u64 _ (numW 4 (valB zs n % ordV)) rfl (R) (rfl) (numW_length _ _) ?_; intro A9))
      refine bodyPost_ret (results_cellI rfl _ 4 33 und_num info_num (w.heap.size) rfl .u64 _ A9 (numW_length _ _)) rfl ?_
      exact ⟨rfl, Below.setRow hbel (by omega) _⟩
    | succ m =>
      have hstep := fun b hb' => left_step zs hb n m (by omega) b hb' v hv
      have hbit := u8_and_one (byte_shift (hb.at (m / 8)) (m % 8))
      have hbd := bitB_bit zs m
      unfold bitB at hstep hbd
      rw [← hbit] at hbd hstep
      have H := Lib.hid hstep
      clear hstep hbit hv
      have hv2 := ordV_mod (v + v)
      have S1 := fun W => sum_v v v W hvb hvb
      generalize hv2e : (v + v) % ordV = v2 at hv2 S1
      have HE := Lib.hid hv2e
      clear hv2e
      simp only [Int.natCast_add, Int.natCast_one, Int.add_sub_cancel]
      have c0 := A.cell (k := m / 8) (by omega)
      have hx64 := hb.at (m / 8)
      have e2 : (m : Int).tmod 8 = (m : Int) % 8 := rfl
      have e3 : (0 : Int) ≤ (m : Int) / 8 := by omega
      have e4 : (m : Int) / 8 < n := by omega
      have e8 : ((m : Int) / 8).toNat = m / 8 := by omega
      have e9 : ((m : Int) % 8).toNat = m % 8 := by omega
      have hm9 : (m : Int) < 512 := by omega
      rcases hbd with h0 | h1
      · go_wp2_with (first
    | (with_reducible refine at_op (o := ⟨some 13, _, _, _, _, _⟩) ?_; refine wpList_loadI rfl 35 _ rfl 4 33 und_num info_num (w1.heap.size) rfl .u64 (numW 4 (v)) D (numW_length _ _) ?_)
    | (with_reducible refine at_op (o := ⟨some 14, _, _, _, _, _⟩) ?_; refine wpList_loadI rfl 35 _ rfl 4 33 und_num info_num (w1.heap.size) rfl .u64 (numW 4 (v)) D (numW_length _ _) ?_)
    | (go_at_call 32; refine (S1 _).mono ?_; rintro e w5 ⟨rfl, b5⟩; replace A := A.below b5; replace R := R.below b5; replace D := D.below b5; replace hbel := below_then hbel b5)
    | (with_reducible refine at_op (o := ⟨_, .store 35 (.tmp 3) _, _, _, _, _⟩) ?_; refine wpList_storeI rfl 35 _ _ rfl 4 info_num (w1.heap.size) rfl .u64 _ _ rfl D (numW_length _ _) (numW_length _ _) ?_; replace A := A.rowOther (B' := w1.heap.size) (by omega) ((numW 4 (v2)).map (Value.int .u64)).toArray; replace R := R.rowOther (B' := w1.heap.size) (by omega) ((numW 4 (v2)).map (Value.int .u64)).toArray; replace hbel := Below.setRow hbel (g := w1.heap.size) (by omega) ((numW 4 (v2)).map (Value.int .u64)).toArray; clear D; intro D; have c0 := A.cell (k := m / 8) (by omega)))
        have hs := H.out 0 h0
        rw [HE.out] at hs
        rw [Int.add_zero, Int.emod_eq_of_lt hv2.1 hv2.2] at hs
        exact ⟨⟨m, _, by omega, rfl, hs, A, R, D, hbel⟩, by simp [intOf]⟩
      · go_wp2_with (first
    | (with_reducible refine at_op (o := ⟨some 13, _, _, _, _, _⟩) ?_; refine wpList_loadI rfl 35 _ rfl 4 33 und_num info_num (w1.heap.size) rfl .u64 (numW 4 (v)) D (numW_length _ _) ?_)
    | (with_reducible refine at_op (o := ⟨some 14, _, _, _, _, _⟩) ?_; refine wpList_loadI rfl 35 _ rfl 4 33 und_num info_num (w1.heap.size) rfl .u64 (numW 4 (v)) D (numW_length _ _) ?_)
    | (go_at_call 32; first | ((with_reducible refine (S1 _).mono ?_); rintro e w5 ⟨rfl, b5⟩; replace A := A.below b5; replace R := R.below b5; replace D := D.below b5; replace hbel := below_then hbel b5) | (refine (sum_v v2 1 _ hv2 (by decide +kernel)).mono ?_; rintro e w6 ⟨rfl, b6⟩; replace A := A.below b6; replace R := R.below b6; replace D := D.below b6; replace hbel := below_then hbel b6))
    | (with_reducible refine at_op (o := ⟨some 28, _, _, _, _, _⟩) ?_; refine wpList_buildI rfl 35 _ rfl .u64 [1, 0, 0, 0] _ built_num1 rfl ?_; rw [← one_num])
    | (with_reducible refine at_op (o := ⟨some 27, _, _, _, _, _⟩) ?_; refine wpList_loadI rfl 35 _ rfl 4 33 und_num info_num (w1.heap.size) rfl .u64 (numW 4 (v2)) D (numW_length _ _) ?_)
    | (with_reducible refine at_op (o := ⟨_, .store 35 (.tmp 3) (.tmp 15), _, _, _, _⟩) ?_; refine wpList_storeI rfl 35 _ _ rfl 4 info_num (w1.heap.size) rfl .u64 _ _ rfl D (numW_length _ _) (numW_length _ _) ?_; replace A := A.rowOther (B' := w1.heap.size) (by omega) ((numW 4 (v2)).map (Value.int .u64)).toArray; replace R := R.rowOther (B' := w1.heap.size) (by omega) ((numW 4 (v2)).map (Value.int .u64)).toArray; replace hbel := Below.setRow hbel (g := w1.heap.size) (by omega) ((numW 4 (v2)).map (Value.int .u64)).toArray; clear D; intro D; have c0 := A.cell (k := m / 8) (by omega))
    | (with_reducible refine at_op (o := ⟨_, .store 35 (.tmp 3) (.tmp 29), _, _, _, _⟩) ?_; refine wpList_storeI rfl 35 _ _ rfl 4 info_num (w1.heap.size) rfl .u64 _ _ rfl D (numW_length _ _) (numW_length _ _) ?_; replace A := A.rowOther (B' := w1.heap.size) (by omega) ((numW 4 ((v2 + 1) % ordV)).map (Value.int .u64)).toArray; replace R := R.rowOther (B' := w1.heap.size) (by omega) ((numW 4 ((v2 + 1) % ordV)).map (Value.int .u64)).toArray; replace hbel := Below.setRow hbel (g := w1.heap.size) (by omega) ((numW 4 ((v2 + 1) % ordV)).map (Value.int .u64)).toArray; clear D; intro D; have c0 := A.cell (k := m / 8) (by omega)))
        have hs := H.out 1 h1
        rw [HE.out] at hs
        exact ⟨⟨m, _, by omega, rfl, hs, A, R, D, hbel⟩, by simp [intOf]⟩
end Go.Proofs.Yteocdjgdljfpdaa
