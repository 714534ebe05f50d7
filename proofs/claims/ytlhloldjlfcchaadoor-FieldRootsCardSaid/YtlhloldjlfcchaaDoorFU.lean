/- The reference's powers: Take. -/
import Derived.Test.YtlhloldjlfcchaaDoorFS
import Derived.Test.YtlhloldjlfcchaaDoorFT
namespace Go.Proofs.YtlhloldjlfcchaaDoor
open Go.RowKit Go.Shelf
set_option linter.unusedVariables false
set_option maxRecDepth 8000

theorem built_num1 (a : Int) : Tryd.prog.built 35 [(0, .int .u64 a)] = some (([a, 0, 0, 0] : List Int).map (Value.int .u64)).toArray := by kernel_rfl
theorem numW_one : numW 4 1 = [1, 0, 0, 0] := by decide +kernel
/-- A power, with so many of the exponent's bits still to come. -/
def takeZ (u v : Int) (m : Nat) : Int := u ^ (v / 2 ^ m).toNat % pV
theorem takeZ_ok (u v : Int) (m : Nat) : 0 ≤ takeZ u v m ∧ takeZ u v m < 2 ^ 256 := by
  have h := pV_mod (u ^ (v / 2 ^ m).toNat)
  have := pV_lt
  unfold takeZ
  omega
theorem takeZ_start (u v : Int) (hv : 0 ≤ v ∧ v < 2 ^ 256) : takeZ u v 256 = 1 := by
  unfold takeZ
  rw [Int.ediv_eq_zero_of_lt hv.1 hv.2, show Int.toNat 0 = 0 from rfl, Int.pow_zero]
  decide +kernel
theorem take_even (u v : Int) (j : Nat) (hv : 0 ≤ v) (h : v / 2 ^ j % 2 = 0) : (takeZ u v (j + 1) * takeZ u v (j + 1)) % pV = takeZ u v j := by
  have hh := half_val v j
  have hy : 0 ≤ v / 2 ^ (j + 1) := Int.ediv_nonneg hv (Int.le_of_lt (pow_pos2 _))
  have e : (v / 2 ^ j).toNat = 2 * (v / 2 ^ (j + 1)).toNat := by omega
  unfold takeZ
  rw [e, pow_step]
theorem take_odd (u v : Int) (j : Nat) (hv : 0 ≤ v) (h : v / 2 ^ j % 2 = 1) : ((takeZ u v (j + 1) * takeZ u v (j + 1)) % pV * u) % pV = takeZ u v j := by
  have hh := half_val v j
  have hy : 0 ≤ v / 2 ^ (j + 1) := Int.ediv_nonneg hv (Int.le_of_lt (pow_pos2 _))
  have e : (v / 2 ^ j).toNat = 2 * (v / 2 ^ (j + 1)).toNat + 1 := by omega
  unfold takeZ
  rw [e, pow_step, pow_step1 u u _ rfl]
theorem u64_and_one {x : Int} (h0 : 0 ≤ x) (h1 : x < 18446744073709551616) : bits BinOp.and IntKind.u64 x 1 = x % 2 := by
  have h := u64_and_mask x 1 1 rfl (by omega) h0 h1
  simpa using h

set_option maxHeartbeats 4000000 in
theorem ref_take_v (u v : Int) (w : World) (hu : 0 ≤ u ∧ u < 2 ^ 256) (hv : 0 ≤ v ∧ v < 2 ^ 256) :
    Calls Tryd.prog 41 #[aggI .u64 (numW 4 u), aggI .u64 (numW 4 v)] w fun e w' => e = .returned (aggI .u64 (numW 4 (u ^ v.toNat % pV))) ∧ Below w.heap.size w w' := by
  have hxl := numW_length 4 u
  have hnl := numW_length 4 v
  have hnw := numW_words 4 v
  have hst := takeZ_start u v hv
  have hbits : RowKit.Hid (∀ j, j < 256 → bitW (numW 4 v) j = v / 2 ^ j % 2) := Lib.hid fun j hj => by
    rw [bitW_val _ hnw 4 j (by omega), numW_val hv.1 hv.2]
  have hend : takeZ u v 0 = u ^ v.toNat % pV := by unfold takeZ; rw [Int.pow_zero, Int.ediv_one]
  rw [← hend]
  have HU : RowKit.Hid (0 ≤ u ∧ u < 2 ^ 256) := Lib.hid hu
  have HV : RowKit.Hid (0 ≤ v) := Lib.hid hv.1
  clear hend hu hv
  have hP := fun (a b : Int) (W : World) (ha : 0 ≤ a ∧ a < 2 ^ 256) (hb : 0 ≤ b ∧ b < 2 ^ 256) => ref_prod_v a b W ha hb
  generalize hns : numW 4 v = ns at *
  go_enter Tryd.func41, Tryd.ntmps41
  go_wp2_with (first
    | (with_reducible refine at_op (o := ⟨some 2, _, _, _, _, _⟩) ?_; refine wpList_boxI rfl 35 _ rfl .u64 (numW 4 u) rfl ?_; intro w1 A1 s1 b1)
    | (with_reducible refine at_op (o := ⟨some 3, _, _, _, _, _⟩) ?_; refine wpList_boxI rfl 35 _ rfl .u64 ns rfl ?_; intro w2 A2 s2 b2; have X2 := A1.below b2)
    | (with_reducible refine at_op (o := ⟨some 4, _, _, _, _, _⟩) ?_; refine wpList_allocI rfl 35 rfl .u64 4 zero_num ?_; intro w3 A3 s3 b3; have X3 := X2.below b3; have N3 := A2.below b3)
    | (with_reducible refine at_op (o := ⟨some 7, _, _, _, _, _⟩) ?_; refine wpList_buildI rfl 35 _ rfl .u64 [1, 0, 0, 0] _ (built_num1 _) rfl ?_)
    | (with_reducible refine at_op (o := ⟨some 5, _, _, _, _, _⟩) ?_; refine wpList_newI rfl rfl 35 5 _ rfl rfl rfl rfl .u64 4 zero_num info_num (by simp [Act.put]) [1, 0, 0, 0] (by simp) (by simp [Act.eval, Act.put]) rfl ?_; intro w5 B5 h5 l5 D5 b5; have X5 := X3.below b5; have N5 := N3.below b5; have R5 := A3.below b5))
  have q1 : w2.heap.size < B5 := by omega
  go_loopw [6] (fun i wr => ∃ (m : Nat) (n : Int), m ≤ 256 ∧ n = (m : Int) - 1 ∧ i = .int .i64 n ∧ Arr .u64 wr w.heap.size (numW 4 u) ∧ Arr .u64 wr w1.heap.size ns ∧ Arr .u64 wr w2.heap.size (List.replicate 4 0) ∧ Arr .u64 wr B5 (numW 4 (takeZ u v m)) ∧ Below w.heap.size w wr) (fun i _ => (intOf i + 1).toNat)
  case atStart => exact ⟨256, 255, by omega, rfl, rfl, X5, N5, R5, by rw [hst, numW_one]; exact D5, below_then (below_then (below_then b1 b2) b3) b5⟩
  case round =>
    obtain ⟨m, n, hm, hn, rfl, X, NN, R, D, hbel⟩ := hrel
    cases m with
    | succ j =>
      obtain rfl : n = (j : Int) := by omega
      have hz := takeZ_ok u v (j + 1)
      have hz2 := pV_mod (takeZ u v (j + 1) * takeZ u v (j + 1))
      have hz3 := pV_lt
      have T1 := fun W => hP (takeZ u v (j + 1)) (takeZ u v (j + 1)) W hz hz
      have T2 := fun W => hP (takeZ u v (j + 1) * takeZ u v (j + 1) % pV) u W (by omega) HU.out
      have hev := Lib.hid (take_even u v j HV.out)
      have hod := Lib.hid (take_odd u v j HV.out)
      have hl1 := numW_length 4 (takeZ u v (j + 1))
      generalize takeZ u v (j + 1) = z1 at *
      have hl2 := numW_length 4 (z1 * z1 % pV)
      generalize z1 * z1 % pV = z2 at *
      have hl3 := numW_length 4 (z2 * u % pV)
      generalize z2 * u % pV = z3 at *
      clear hz hz2 hz3 hn
      have hj5 : j < 256 := by omega
      have hx64 := hnw.at (j / 64)
      have hbv := Lib.hid (hbits.out j hj5)
      have hs0 : 0 ≤ at0 ns (j / 64) / 2 ^ (j % 64) := Int.ediv_nonneg hx64.1 (Int.le_of_lt (pow_pos2 _))
      have hs1 : at0 ns (j / 64) / 2 ^ (j % 64) < 18446744073709551616 := by
        have := Int.ediv_le_self (2 ^ (j % 64)) hx64.1
        omega
      have hbit := u64_and_one hs0 hs1
      have hbd := bitW_bit ns j
      have HB : bitW ns j = bits BinOp.and IntKind.u64 (at0 ns (j / 64) / 2 ^ (j % 64)) 1 := hbit.symm
      rw [HB] at hbd
      have HB := Lib.hid HB
      clear hbit hs0 hs1
      have c0 := NN.cell (k := j / 64) (by omega)
      have e2 : (j : Int).tmod 64 = (j : Int) % 64 := rfl
      have e3 : (0 : Int) ≤ (j : Int) / 64 := by omega
      have e4 : (j : Int) / 64 < 4 := by omega
      have e8 : ((j : Int) / 64).toNat = j / 64 := by omega
      have e9 : ((j : Int) % 64).toNat = j % 64 := by omega
      have hm9 : (j : Int) < 256 := by omega
      have h01 : bits BinOp.and IntKind.u64 (at0 ns (j / 64) / 2 ^ (j % 64)) 1 = 0 ∨ bits BinOp.and IntKind.u64 (at0 ns (j / 64) / 2 ^ (j % 64)) 1 = 1 := by omega
      rcases h01 with h0 | h1
      · go_wp2_with (first
    | (with_reducible refine at_op (o := ⟨some 12, _, _, _, _, _⟩) ?_; refine wpList_loadI rfl 35 _ rfl 4 33 und_num info_num (B5) rfl .u64 (numW 4 z1) (D) (hl1) ?_)
    | (with_reducible refine at_op (o := ⟨some 13, _, _, _, _, _⟩) ?_; refine wpList_loadI rfl 35 _ rfl 4 33 und_num info_num (B5) rfl .u64 (numW 4 z1) (D) (hl1) ?_)
    | (go_at_call 39; (with_reducible refine (T1 _).mono ?_); rintro e wN ⟨rfl, bN⟩; replace X := X.below bN; replace NN := NN.below bN; replace R := R.below bN; replace D := D.below bN; replace hbel := below_then hbel bN)
    | (with_reducible refine at_op (o := ⟨_, .store 35 (.tmp 5) (.tmp 14), _, _, _, _⟩) ?_; refine wpList_storeI rfl 35 _ _ rfl 4 info_num (B5) rfl .u64 _ (numW 4 z2) rfl D (hl1) (hl2) ?_; replace X := X.rowOther (B' := B5) (by omega) ((numW 4 z2).map (Value.int .u64)).toArray; replace NN := NN.rowOther (B' := B5) (by omega) ((numW 4 z2).map (Value.int .u64)).toArray; replace R := R.rowOther (B' := B5) (by omega) ((numW 4 z2).map (Value.int .u64)).toArray; replace hbel := Below.setRow hbel (g := B5) (by omega) ((numW 4 z2).map (Value.int .u64)).toArray; clear D; intro D; have c0 := NN.cell (k := j / 64) (by omega)))
        have hs := hev.out (by rw [← hbv.out, HB.out, h0])
        exact ⟨⟨j, (j : Int) - 1, by omega, rfl, by go_num, X, NN, R, by rw [← hs]; exact D, hbel⟩, by simp only [intOf]; omega⟩
      · go_wp2_with (first
    | (with_reducible refine at_op (o := ⟨some 12, _, _, _, _, _⟩) ?_; refine wpList_loadI rfl 35 _ rfl 4 33 und_num info_num (B5) rfl .u64 (numW 4 z1) (D) (hl1) ?_)
    | (with_reducible refine at_op (o := ⟨some 13, _, _, _, _, _⟩) ?_; refine wpList_loadI rfl 35 _ rfl 4 33 und_num info_num (B5) rfl .u64 (numW 4 z1) (D) (hl1) ?_)
    | (with_reducible refine at_op (o := ⟨some 25, _, _, _, _, _⟩) ?_; refine wpList_loadI rfl 35 _ rfl 4 33 und_num info_num (B5) rfl .u64 (numW 4 z2) (D) (hl2) ?_)
    | (with_reducible refine at_op (o := ⟨some 26, _, _, _, _, _⟩) ?_; refine wpList_loadI rfl 35 _ rfl 4 33 und_num info_num (w.heap.size) rfl .u64 (numW 4 u) (X) (hxl) ?_)
    | (go_at_call 39; first | ((with_reducible refine (T1 _).mono ?_); rintro e wN ⟨rfl, bN⟩; replace X := X.below bN; replace NN := NN.below bN; replace R := R.below bN; replace D := D.below bN; replace hbel := below_then hbel bN) | ((with_reducible refine (T2 _).mono ?_); rintro e wN ⟨rfl, bN⟩; replace X := X.below bN; replace NN := NN.below bN; replace R := R.below bN; replace D := D.below bN; replace hbel := below_then hbel bN))
    | (with_reducible refine at_op (o := ⟨_, .store 35 (.tmp 5) (.tmp 14), _, _, _, _⟩) ?_; refine wpList_storeI rfl 35 _ _ rfl 4 info_num (B5) rfl .u64 _ (numW 4 z2) rfl D (hl1) (hl2) ?_; replace X := X.rowOther (B' := B5) (by omega) ((numW 4 z2).map (Value.int .u64)).toArray; replace NN := NN.rowOther (B' := B5) (by omega) ((numW 4 z2).map (Value.int .u64)).toArray; replace R := R.rowOther (B' := B5) (by omega) ((numW 4 z2).map (Value.int .u64)).toArray; replace hbel := Below.setRow hbel (g := B5) (by omega) ((numW 4 z2).map (Value.int .u64)).toArray; clear D; intro D; have c0 := NN.cell (k := j / 64) (by omega))
    | (with_reducible refine at_op (o := ⟨_, .store 35 (.tmp 5) (.tmp 27), _, _, _, _⟩) ?_; refine wpList_storeI rfl 35 _ _ rfl 4 info_num (B5) rfl .u64 _ (numW 4 z3) rfl D (hl2) (hl3) ?_; replace X := X.rowOther (B' := B5) (by omega) ((numW 4 z3).map (Value.int .u64)).toArray; replace NN := NN.rowOther (B' := B5) (by omega) ((numW 4 z3).map (Value.int .u64)).toArray; replace R := R.rowOther (B' := B5) (by omega) ((numW 4 z3).map (Value.int .u64)).toArray; replace hbel := Below.setRow hbel (g := B5) (by omega) ((numW 4 z3).map (Value.int .u64)).toArray; clear D; intro D; have c0 := NN.cell (k := j / 64) (by omega)))
        have hs := hod.out (by rw [← hbv.out, HB.out, h1])
        exact ⟨⟨j, (j : Int) - 1, by omega, rfl, by go_num, X, NN, R, by rw [← hs]; exact D, hbel⟩, by simp only [intOf]; omega⟩
    | zero =>
      obtain rfl : n = -1 := by omega
      clear hn hm hst hP hbits
      have hfl := numW_length 4 (takeZ u v 0)
      obtain ⟨rr, hr⟩ : ∃ rr, numW 4 (takeZ u v 0) = rr := ⟨_, rfl⟩
      rw [hr] at D hfl
      have HR := Lib.hid hr
      clear hr
      go_wp2_with (first
    | (with_reducible refine at_op (o := ⟨some 28, _, _, _, _, _⟩) ?_; refine wpList_loadI rfl 35 _ rfl 4 33 und_num info_num (B5) rfl .u64 (rr) (D) (hfl) ?_)
    | (with_reducible refine at_op (o := ⟨_, .store 35 _ _, _, _, _, _⟩) ?_; refine wpList_storeI rfl 35 _ _ rfl 4 info_num (w2.heap.size) rfl .u64 _ (rr) rfl (R) (rfl) (hfl) ?_; intro A9))
      refine bodyPost_ret (results_cellI rfl _ 4 33 und_num info_num (w2.heap.size) rfl .u64 _ A9 (hfl)) rfl ?_
      exact ⟨by rw [HR.out], Below.setRow hbel (by omega) _⟩
end Go.Proofs.YtlhloldjlfcchaaDoor
