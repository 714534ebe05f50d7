/- Numbers of words: a difference with its borrow, a sum with its carry. -/
--@optional
import Derived.Test.YtlhloldjlfcchaaDoorLoadB
import Derived.Laws.Externs
import Derived.Shelf.Spec.BitsCarry
import Derived.Deep.RegionWith
namespace Go.Proofs.YtlhloldjlfcchaaDoor
open Go.RowKit Go.Shelf
set_option linter.unusedVariables false

theorem add64_run (x y c : Int) (hx : 0 ≤ x) (hy : 0 ≤ y) (hc0 : 0 ≤ c) (hc : c ≤ 1) (w : World) : (callFunc 53 #[.int .u64 x, .int .u64 y, .int .u64 c]).run Tryd.prog w =
    .ok (.value (.tuple #[.int .u64 ((x + y + c) % 18446744073709551616), .int .u64 ((x + y + c) / 18446744073709551616)])) w := by
  rw [run_callFunc_extern Tryd.func53 (by kernel_rfl) (by kernel_rfl) (by kernel_rfl) (e := add64Entry) (by kernel_rfl), run_add64 x y c hx hy hc0 hc]
  rfl
/-- What is borrowed. -/
def bor (x y b : Int) : Int := if x < y + b then 1 else 0
theorem bor_bit (x y b : Int) : bor x y b = 0 ∨ bor x y b = 1 := by unfold bor; split <;> omega
theorem sub64_run (x y b : Int) (hx : 0 ≤ x) (hy : 0 ≤ y) (hy1 : y < 18446744073709551616) (hb0 : 0 ≤ b) (hb : b ≤ 1) (w : World) : (callFunc 60 #[.int .u64 x, .int .u64 y, .int .u64 b]).run Tryd.prog w =
    .ok (.value (.tuple #[.int .u64 ((x - y - b) % 18446744073709551616), .int .u64 (bor x y b)])) w := by
  obtain ⟨x, rfl⟩ := Int.eq_ofNat_of_zero_le hx
  obtain ⟨y, rfl⟩ := Int.eq_ofNat_of_zero_le hy
  obtain ⟨b, rfl⟩ := Int.eq_ofNat_of_zero_le hb0
  have e1 : (((x + 18446744073709551616 - y - b) % 18446744073709551616 : Nat) : Int) = ((x : Int) - y - b) % 18446744073709551616 := by omega
  have e2 : ((if x < y + b then 1 else 0 : Nat) : Int) = bor x y b := by unfold bor; split <;> split <;> omega
  rw [← e1, ← e2, run_callFunc_extern Tryd.func60 (by kernel_rfl) (by kernel_rfl) (by kernel_rfl) (e := sub64Entry) (by kernel_rfl), run_sub64 x y b (by omega)]
  rfl

/-- The borrow behind m words. -/
def brw (xs ys : List Int) : Nat → Int
  | 0 => 0
  | m + 1 => bor (at0 xs m) (at0 ys m) (brw xs ys m)
theorem brw_bit (xs ys : List Int) (m : Nat) : 0 ≤ brw xs ys m ∧ brw xs ys m ≤ 1 := by
  cases m with
  | zero => simp [brw]
  | succ m => have := bor_bit (at0 xs m) (at0 ys m) (brw xs ys m); simp only [brw]; omega
def subW (xs ys : List Int) (m : Nat) : Int := (at0 xs m - at0 ys m - brw xs ys m) % 18446744073709551616
def subS (xs ys : List Int) (n : Nat) : List Int := (List.range n).map (subW xs ys)

set_option maxHeartbeats 400000 in
theorem ref_minus_any (xs ys : List Int) (w : World) (hx : Words xs) (hy : Words ys) (hl : xs.length = 4) (hm : ys.length = 4) :
    Calls Tryd.prog 49 #[aggI .u64 xs, aggI .u64 ys] w fun e w' => e = .returned (.tuple #[aggI .u64 (subS xs ys 4), .int .u64 (brw xs ys 4)]) ∧ Below w.heap.size w w' := by
  go_enter Tryd.func49, Tryd.ntmps49
  go_wp2_with (first
    | (with_reducible refine at_op (o := ⟨some 2, _, _, _, _, _⟩) ?_; refine wpList_boxI rfl 35 _ rfl .u64 xs rfl ?_; intro w1 A1 s1 b1)
    | (with_reducible refine at_op (o := ⟨some 3, _, _, _, _, _⟩) ?_; refine wpList_boxI rfl 35 _ rfl .u64 ys rfl ?_; intro w2 B2 s2 b2; have A2 := A1.below b2)
    | (with_reducible refine at_op (o := ⟨some 4, _, _, _, _, _⟩) ?_; refine wpList_allocI rfl 35 rfl .u64 4 zero_num ?_; intro w3 R3 s3 b3; have A3 := A2.below b3; have B3 := B2.below b3)
    | (with_reducible refine at_op (o := ⟨some 6, _, _, _, _, _⟩) ?_; refine wpList_allocI rfl 35 rfl .u64 4 zero_num ?_; intro w4 D4 s4 b4; have A4 := A3.below b4; have B4 := B3.below b4; have R4 := R3.below b4))
  go_loopw [7, 8] (fun b i wr => ∃ (k : Nat) (ds : List Int), k ≤ 4 ∧ i = .int .i64 k ∧ b = .int .u64 (brw xs ys k) ∧ Arr .u64 wr w.heap.size xs ∧ Arr .u64 wr w1.heap.size ys ∧ Arr .u64 wr w2.heap.size (List.replicate 4 0) ∧ Arr .u64 wr w3.heap.size ds ∧ ds.length = 4 ∧ (∀ j, j < k → at0 ds j = subW xs ys j) ∧ Below w.heap.size w wr) (fun _ i _ => 4 - (intOf i).toNat)
  case atStart => exact ⟨0, _, by omega, rfl, rfl, A4, B4, R4, D4, by simp, fun j hj => by omega, below_then (below_then (below_then b1 b2) b3) b4⟩
  case round =>
    obtain ⟨k, ds, hk, rfl, rfl, A, B, R, D, hd, hj, hbel⟩ := hrel
    by_cases hlt : k < 4
    · have c0 := A.cell (k := k) (by omega)
      have c1 := B.cell (k := k) (by omega)
      have c2 := D.cell (k := k) (by omega)
      have f0 := D.free (k := k) (by omega)
      have hr := sub64_run (at0 xs k) (at0 ys k) (brw xs ys k) (hx.at k).1 (hy.at k).1 (hy.at k).2 (brw_bit xs ys k).1 (brw_bit xs ys k).2
      go_wp2
      go_region
      go_wp2
      refine ⟨⟨k + 1, ds.set k (subW xs ys k), by omega, by go_num, rfl, (A.setOther (by omega) _ _).drew, (B.setOther (by omega) _ _).drew, (R.setOther (by omega) _ _).drew, (D.set _ _).drew, by simp [hd], fun j hj' => ?_, (hbel.setCell (by show w.heap.size ≤ w3.heap.size; omega) _).drew⟩, by simp [intOf]; omega⟩
      rw [at0_set ds k j _ (by omega)]
      by_cases e : j = k
      · rw [if_pos e, e]
      · rw [if_neg e]; exact hj j (by omega)
    · obtain rfl : k = 4 := by omega
      have hys : ds = subS xs ys 4 := by
        apply eq_of_all (by simp [subS, hd])
        intro j h
        rw [hj j (by omega)]
        simp [subS, at0, show j < 4 by omega]
      subst hys
      go_wp2_with (first
        | (with_reducible refine at_op (o := ⟨some 26, _, _, _, _, _⟩) ?_; refine wpList_loadI rfl 35 _ rfl 4 33 und_num info_num w3.heap.size rfl .u64 _ D hd ?_)
        | (with_reducible refine at_op (o := ⟨_, .store 35 _ _, _, _, _, _⟩) ?_; refine wpList_storeI rfl 35 _ _ rfl 4 info_num w2.heap.size rfl .u64 _ _ rfl R (by simp) hd ?_; intro A9))
      refine bodyPost_ret (results_cell_tmpI rfl _ 4 33 und_num info_num w2.heap.size rfl .u64 _ A9 hd) rfl ?_
      exact ⟨rfl, Below.setRow hbel (by omega) _⟩
/-- The carry behind m words. -/
def crw (xs ys : List Int) : Nat → Int
  | 0 => 0
  | m + 1 => (at0 xs m + at0 ys m + crw xs ys m) / 18446744073709551616
theorem crw_bit (xs ys : List Int) (hx : Words xs) (hy : Words ys) (m : Nat) : 0 ≤ crw xs ys m ∧ crw xs ys m ≤ 1 := by
  induction m with
  | zero => simp [crw]
  | succ m ih => have := hx.at m; have := hy.at m; simp only [crw]; omega
def addW (xs ys : List Int) (m : Nat) : Int := (at0 xs m + at0 ys m + crw xs ys m) % 18446744073709551616
def addS (xs ys : List Int) (n : Nat) : List Int := (List.range n).map (addW xs ys)

set_option maxHeartbeats 400000 in
theorem ref_plus_any (xs ys : List Int) (w : World) (hx : Words xs) (hy : Words ys) (hl : xs.length = 4) (hm : ys.length = 4) :
    Calls Tryd.prog 48 #[aggI .u64 xs, aggI .u64 ys] w fun e w' => e = .returned (.tuple #[aggI .u64 (addS xs ys 4), .int .u64 (crw xs ys 4)]) ∧ Below w.heap.size w w' := by
  go_enter Tryd.func48, Tryd.ntmps48
  go_wp2_with (first
    | (with_reducible refine at_op (o := ⟨some 2, _, _, _, _, _⟩) ?_; refine wpList_boxI rfl 35 _ rfl .u64 xs rfl ?_; intro w1 A1 s1 b1)
    | (with_reducible refine at_op (o := ⟨some 3, _, _, _, _, _⟩) ?_; refine wpList_boxI rfl 35 _ rfl .u64 ys rfl ?_; intro w2 B2 s2 b2; have A2 := A1.below b2)
    | (with_reducible refine at_op (o := ⟨some 4, _, _, _, _, _⟩) ?_; refine wpList_allocI rfl 35 rfl .u64 4 zero_num ?_; intro w3 R3 s3 b3; have A3 := A2.below b3; have B3 := B2.below b3)
    | (with_reducible refine at_op (o := ⟨some 6, _, _, _, _, _⟩) ?_; refine wpList_allocI rfl 35 rfl .u64 4 zero_num ?_; intro w4 D4 s4 b4; have A4 := A3.below b4; have B4 := B3.below b4; have R4 := R3.below b4))
  go_loopw [7, 8] (fun b i wr => ∃ (k : Nat) (ds : List Int), k ≤ 4 ∧ i = .int .i64 k ∧ b = .int .u64 (crw xs ys k) ∧ Arr .u64 wr w.heap.size xs ∧ Arr .u64 wr w1.heap.size ys ∧ Arr .u64 wr w2.heap.size (List.replicate 4 0) ∧ Arr .u64 wr w3.heap.size ds ∧ ds.length = 4 ∧ (∀ j, j < k → at0 ds j = addW xs ys j) ∧ Below w.heap.size w wr) (fun _ i _ => 4 - (intOf i).toNat)
  case atStart => exact ⟨0, _, by omega, rfl, rfl, A4, B4, R4, D4, by simp, fun j hj => by omega, below_then (below_then (below_then b1 b2) b3) b4⟩
  case round =>
    obtain ⟨k, ds, hk, rfl, rfl, A, B, R, D, hd, hj, hbel⟩ := hrel
    by_cases hlt : k < 4
    · have c0 := A.cell (k := k) (by omega)
      have c1 := B.cell (k := k) (by omega)
      have c2 := D.cell (k := k) (by omega)
      have f0 := D.free (k := k) (by omega)
      have hr := add64_run (at0 xs k) (at0 ys k) (crw xs ys k) (hx.at k).1 (hy.at k).1 (crw_bit xs ys hx hy k).1 (crw_bit xs ys hx hy k).2
      go_wp2
      go_region
      go_wp2
      refine ⟨⟨k + 1, ds.set k (addW xs ys k), by omega, by go_num, rfl, (A.setOther (by omega) _ _).drew, (B.setOther (by omega) _ _).drew, (R.setOther (by omega) _ _).drew, (D.set _ _).drew, by simp [hd], fun j hj' => ?_, (hbel.setCell (by show w.heap.size ≤ w3.heap.size; omega) _).drew⟩, by simp [intOf]; omega⟩
      rw [at0_set ds k j _ (by omega)]
      by_cases e : j = k
      · rw [if_pos e, e]
      · rw [if_neg e]; exact hj j (by omega)
    · obtain rfl : k = 4 := by omega
      have hys : ds = addS xs ys 4 := by
        apply eq_of_all (by simp [addS, hd])
        intro j h
        rw [hj j (by omega)]
        simp [addS, at0, show j < 4 by omega]
      subst hys
      go_wp2_with (first
        | (with_reducible refine at_op (o := ⟨some 26, _, _, _, _, _⟩) ?_; refine wpList_loadI rfl 35 _ rfl 4 33 und_num info_num w3.heap.size rfl .u64 _ D hd ?_)
        | (with_reducible refine at_op (o := ⟨_, .store 35 _ _, _, _, _, _⟩) ?_; refine wpList_storeI rfl 35 _ _ rfl 4 info_num w2.heap.size rfl .u64 _ _ rfl R (by simp) hd ?_; intro A9))
      refine bodyPost_ret (results_cell_tmpI rfl _ 4 33 und_num info_num w2.heap.size rfl .u64 _ A9 hd) rfl ?_
      exact ⟨rfl, Below.setRow hbel (by omega) _⟩
end Go.Proofs.YtlhloldjlfcchaaDoor
