/- The law's wide: 32 bytes as 64. -/
import Derived.Test.YteocdjgdljfpdaaClampA
namespace Go.Proofs.Yteocdjgdljfpdaa
open Go.RowKit
set_option linter.unusedVariables false
set_option maxRecDepth 4000

def wideS (za : List Int) : List Int := (List.range 64).map (at0 za)
theorem info_a64 : (Try.prog.info? 22).map (·.size) = some 64 := by kernel_rfl
theorem zero_a64 : (Try.prog.info? 22).bind (·.zero) = some (.agg (Array.replicate 64 (Value.int .u8 0))) := by kernel_rfl
theorem und_a64 : Try.prog.underlying 22 = some (.array 64 5) := by kernel_rfl

set_option maxHeartbeats 400000 in
theorem wide_any (za : List Int) (w : World) (hl : za.length = 32) :
    Calls Try.prog 18 #[aggI .u8 za] w fun e w' => e = .returned (aggI .u8 (wideS za)) ∧ Below w.heap.size w w' := by
  go_enter Try.func18, Try.ntmps18
  go_wp2_with (first
    | (with_reducible refine at_op (o := ⟨some 1, _, _, _, _, _⟩) ?_; refine wpList_boxI rfl 23 _ rfl .u8 za rfl ?_; intro w1 A1 s1 b1)
    | (with_reducible refine at_op (o := ⟨some 2, _, _, _, _, _⟩) ?_; refine wpList_allocI rfl 22 rfl .u8 64 zero_a64 ?_; intro w2 R2 s2 b2; have A2 := A1.below b2)
    | (with_reducible refine at_op (o := ⟨some 3, _, _, _, _, _⟩) ?_; refine wpList_allocI rfl 22 rfl .u8 64 zero_a64 ?_; intro w3 D3 s3 b3; have A3 := A2.below b3; have R3 := R2.below b3))
  go_loopw [4] (fun i wr => ∃ (k : Nat) (ys : List Int), k ≤ 32 ∧ i = .int .i64 k ∧ Arr .u8 wr w.heap.size za ∧ Arr .u8 wr w1.heap.size (List.replicate 64 0) ∧ Arr .u8 wr w2.heap.size ys ∧ ys.length = 64 ∧ (∀ j, j < 64 → at0 ys j = if j < k then at0 za j else 0) ∧ Below w.heap.size w wr) (fun i _ => 32 - (intOf i).toNat)
  case atStart => exact ⟨0, _, by omega, rfl, A3, R3, D3, by simp, fun j hj => by rw [if_neg (by omega)]; simp only [at0, List.getElem?_replicate]; rw [if_pos hj]; rfl, below_then (below_then b1 b2) b3⟩
  case round =>
    obtain ⟨k, ys, hk, rfl, A, R, D, hy, hj, hbel⟩ := hrel
    by_cases hlt : k < 32
    · have c0 := A.cell (k := k) (by omega)
      have c1 := D.cell (k := k) (by omega)
      have f0 := D.free (k := k) (by omega)
      go_wp2
      refine ⟨⟨k + 1, ys.set k (at0 za k), by omega, by go_num, A.setOther (by omega) _ _, R.setOther (by omega) _ _, D.set k _, by simp [hy], fun j hj' => ?_, hbel.setCell (by show w.heap.size ≤ w2.heap.size; omega) _⟩, by simp [intOf]; omega⟩
      rw [at0_set ys k j _ (by omega)]
      by_cases e : j = k
      · rw [if_pos e, if_pos (by omega), e]
      · rw [if_neg e, hj j hj']
        by_cases e2 : j < k
        · rw [if_pos e2, if_pos (by omega)]
        · rw [if_neg e2, if_neg (by omega)]
    · obtain rfl : k = 32 := by omega
      have hys : ys = wideS za := by
        apply eq_of_all (by simp [wideS, hy])
        intro j h
        have h64 : j < 64 := by omega
        have e : at0 (wideS za) j = at0 za j := by simp only [wideS, at0, List.getElem?_map, List.getElem?_range h64]; rfl
        rw [hj j h64, e]
        by_cases e2 : j < 32
        · rw [if_pos e2]
        · rw [if_neg e2, at0, List.getElem?_eq_none (by omega)]; rfl
      subst hys
      clear hj
      go_wp2_with (first
        | (with_reducible refine at_op (o := ⟨some 14, _, _, _, _, _⟩) ?_; refine wpList_loadI rfl 22 _ rfl 64 5 und_a64 info_a64 w2.heap.size rfl .u8 _ D hy ?_)
        | (with_reducible refine at_op (o := ⟨_, .store 22 _ _, _, _, _, _⟩) ?_; refine wpList_storeI rfl 22 _ _ rfl 64 info_a64 w1.heap.size rfl .u8 _ _ rfl R (by simp) hy ?_; intro A9))
      refine bodyPost_ret (results_cellI rfl _ 64 5 und_a64 info_a64 w1.heap.size rfl .u8 _ A9 hy) rfl ?_
      exact ⟨rfl, Below.setRow hbel (by omega) _⟩
end Go.Proofs.Yteocdjgdljfpdaa
