/- Reduce of numbers of 64 bytes, the program's and the reference's. -/
import Derived.Test.YteocdjgdljfpdaaLeft
namespace Go.Proofs.Yteocdjgdljfpdaa
open Go.RowKit Go.Shelf
set_option linter.unusedVariables false
set_option maxRecDepth 8000

theorem valB_64 (za : List Int) (hz : Bytes za) : 0 ≤ valB za 64 ∧ valB za 64 < 2 ^ 256 * 2 ^ 256 := by
  have h := valB_lt za hz 64
  rw [show (2 : Int) ^ (8 * 64) = 2 ^ 256 * 2 ^ 256 by rw [← Int.pow_add]] at h
  exact h
set_option maxHeartbeats 4000000 in
theorem reduce_v (za : List Int) (w : World) (hb : Bytes za) (hl : za.length = 64) :
    Calls Try.prog 8 #[aggI .u8 za] w fun e w' => e = .returned (aggI .u8 (numB (valB za 64 % ordV))) ∧ Below w.heap.size w w' := by
  have hV := valB_64 za hb
  have hload := load_eq za hb 8
  go_enter Try.func8, Try.ntmps8
  go_wp2_with (first
    | (with_reducible refine at_op (o := ⟨some 1, _, _, _, _, _⟩) ?_; refine wpList_boxI rfl 22 _ rfl .u8 za rfl ?_; intro w1 A1 s1 b1)
    | (with_reducible refine at_op (o := ⟨some 2, _, _, _, _, _⟩) ?_; refine wpList_allocI rfl 23 rfl .u8 32 zero_a32 ?_; intro w2 A2 s2 b2; have X2 := A1.below b2)
    | (with_reducible refine at_op (o := ⟨some 3, _, _, _, _, _⟩) ?_; refine wpList_allocI rfl 38 rfl .u64 8 zero_long ?_; intro w3 A3 s3 b3; have X3 := X2.below b3; have R3 := A2.below b3)
    | (with_reducible refine at_op (o := ⟨some 6, _, _, _, _, _⟩) ?_; refine wpList_loadI rfl 22 _ rfl 64 5 und_a64 info_a64 (w.heap.size) rfl .u8 (za) (X3) (hl) ?_))
  go_loopw [7] (fun i wr => ∃ (k : Nat) (ys : List Int), k ≤ 64 ∧ i = .int .i64 k ∧ Arr .u8 wr w1.heap.size (List.replicate 32 0) ∧ Arr .u64 wr w2.heap.size ys ∧ ys.length = 8 ∧ (∀ j, j < 8 → at0 ys j = partW za j (min 8 (k - 8 * j))) ∧ Below w.heap.size w wr) (fun i _ => 64 - (intOf i).toNat)
  case atStart => exact ⟨0, _, by omega, rfl, R3, A3, by simp, fun j hj => by rw [show min 8 (0 - 8 * j) = 0 by omega]; simp only [partW, at0, List.getElem?_replicate]; rw [if_pos hj]; rfl, below_then (below_then b1 b2) b3⟩
  case round =>
    obtain ⟨k, ys, hk, rfl, R, D, hy, hj, hbel⟩ := hrel
    by_cases hlt : k < 64
    · have hx := run_indexI (P := Try.prog) (w := wr) 22 64 5 und_a64 _ Try.underlying5 rfl (by kernel_rfl) .u8 za hl k (by omega) (by omega)
      rw [Int.toNat_natCast] at hx
      have c1 := D.cell (k := k / 8) (by omega)
      have f0 := D.free (k := k / 8) (by omega)
      have hm : at0 ys (k / 8) = partW za (k / 8) (k % 8) := by rw [hj (k / 8) (by omega)]; congr 1; omega
      have ho := or_byte (partW za (k / 8) (k % 8)) (at0 za k) (k % 8) (by omega) (partW_lt za hb _ _ (by omega)) (hb.at k)
      rw [hm] at c1
      have hw : IntKind.u64.wrap (at0 za k) = at0 za k := by have := hb.at k; rw [wrap_u64_eq]; omega
      have HJ := Lib.hid hj
      clear hj
      go_wp2
      go_region
      go_wp2
      have hj := HJ.out
      refine ⟨⟨k + 1, ys.set (k / 8) (partW za (k / 8) (k % 8) + at0 za k * 2 ^ (8 * (k % 8))), by omega, by go_num, (R.setOther (by omega) _ _).drew, (D.set _ _).drew, by simp [hy], fun j hj' => ?_, (hbel.setCell (by show w.heap.size ≤ w2.heap.size; omega) _).drew⟩, by simp [intOf]; omega⟩
      rw [at0_set ys (k / 8) j _ (by omega)]
      by_cases e : j = k / 8
      · rw [if_pos e, e, show min 8 (k + 1 - 8 * (k / 8)) = k % 8 + 1 by omega, partW, show 8 * (k / 8) + k % 8 = k by omega]
      · rw [if_neg e, hj j hj']
        congr 1
        omega
    · obtain rfl : k = 64 := by omega
      have hys : ys = numW 8 (valB za 64) := by
        rw [← hload]
        apply eq_of_all (by simp [loadS, hy])
        intro j h
        rw [hj j (by omega), show min 8 (64 - 8 * j) = 8 by omega]
        simp [loadS, at0, show j < 8 by omega]
      subst hys
      clear hj hload
      go_wp2_with (first
    | (with_reducible refine at_op (o := ⟨some 24, _, _, _, _, _⟩) ?_; refine wpList_loadI rfl 38 _ rfl 8 33 und_long info_long (w2.heap.size) rfl .u64 (numW 8 (valB za 64)) (D) (numW_length _ _) ?_)
    | (go_at_call 21; refine (reduced_v _ _ hV).mono ?_; rintro e w11 ⟨rfl, b11⟩; replace R := R.below b11; replace hbel := below_then hbel b11)
    | (go_at_call 22; refine (bytes_v _ _).mono ?_; rintro e w12 ⟨rfl, b12⟩; replace R := R.below b12; replace hbel := below_then hbel b12)
    | (with_reducible refine at_op (o := ⟨_, .store 23 _ _, _, _, _, _⟩) ?_; refine wpList_storeI rfl 23 _ _ rfl 32 info_a32 (w1.heap.size) rfl .u8 _ (numB (valB za 64 % ordV)) rfl (R) (rfl) (numB_length _) ?_; intro A9))
      refine bodyPost_ret (results_cellI rfl _ 32 5 und_a32 info_a32 (w1.heap.size) rfl .u8 _ A9 (numB_length _)) rfl ?_
      exact ⟨rfl, Below.setRow hbel (by omega) _⟩

set_option maxHeartbeats 4000000 in
theorem ref_reduce_v (za : List Int) (w : World) (hb : Bytes za) (hl : za.length = 64) :
    Calls Try.prog 9 #[aggI .u8 za] w fun e w' => e = .returned (aggI .u8 (numB (valB za 64 % ordV))) ∧ Below w.heap.size w w' := by
  go_enter Try.func9, Try.ntmps9
  go_wp2_with (first
    | (with_reducible refine at_op (o := ⟨some 1, _, _, _, _, _⟩) ?_; refine wpList_boxI rfl 22 _ rfl .u8 za rfl ?_; intro w1 A1 s1 b1)
    | (with_reducible refine at_op (o := ⟨some 2, _, _, _, _, _⟩) ?_; refine wpList_allocI rfl 23 rfl .u8 32 zero_a32 ?_; intro w2 A2 s2 b2; have X2 := A1.below b2)
    | (go_at_call 23; refine (left_v za w.heap.size 64 _ X2 hb hl (by omega)).mono ?_; rintro e w3 ⟨rfl, b3⟩; have R3 := A2.below b3)
    | (go_at_call 19; refine (ref_bytes_v _ _).mono ?_; rintro e w4 ⟨rfl, b4⟩; have R4 := R3.below b4)
    | (with_reducible refine at_op (o := ⟨_, .store 23 _ _, _, _, _, _⟩) ?_; refine wpList_storeI rfl 23 _ _ rfl 32 info_a32 (w1.heap.size) rfl .u8 _ (numB (valB za 64 % ordV)) rfl (R4) (rfl) (numB_length _) ?_; intro A9))
  refine bodyPost_ret (results_cellI rfl _ 32 5 und_a32 info_a32 (w1.heap.size) rfl .u8 _ A9 (numB_length _)) rfl ?_
  exact ⟨rfl, Below.setRow (below_then (below_then (below_then b1 b2) b3) b4) (by omega) _⟩
end Go.Proofs.Yteocdjgdljfpdaa
