/- Package scalar's load and bytes, and the reference's Load and Bytes. -/
--@optional
import Derived.Test.YtlhloldjlfcchaaDoorClampA
namespace Go.Proofs.YtlhloldjlfcchaaDoor
open Go.RowKit
set_option linter.unusedVariables false

/-- All are words of 64 bits. -/
def Words (l : List Int) : Prop := ∀ x ∈ l, 0 ≤ x ∧ x < 18446744073709551616
theorem Words.at {l : List Int} (h : Words l) (k : Nat) : 0 ≤ at0 l k ∧ at0 l k < 18446744073709551616 := by
  by_cases hk : k < l.length
  · exact h _ (at0_mem hk)
  · simp [at0, hk]
/-- The i-th byte of words, the lowest first. -/
def wbyte (zs : List Int) (i : Nat) : Int := at0 zs (i / 8) / 2 ^ (8 * (i % 8)) % 256
def bytesS (zs : List Int) (n : Nat) : List Int := (List.range n).map (wbyte zs)
theorem info_num : (Tryd.prog.info? 35).map (·.size) = some 4 := by kernel_rfl
theorem zero_num : (Tryd.prog.info? 35).bind (·.zero) = some (.agg (Array.replicate 4 (Value.int .u64 0))) := by kernel_rfl
theorem und_num : Tryd.prog.underlying 35 = some (.array 4 33) := by kernel_rfl

set_option maxHeartbeats 400000 in
theorem ref_bytes_any (zs : List Int) (w : World) (hb : Words zs) (hl : zs.length = 4) :
    Calls Tryd.prog 27 #[aggI .u64 zs] w fun e w' => e = .returned (aggI .u8 (bytesS zs 32)) ∧ Below w.heap.size w w' := by
  go_enter Tryd.func27, Tryd.ntmps27
  go_wp2_with (first
    | (with_reducible refine at_op (o := ⟨some 1, _, _, _, _, _⟩) ?_; refine wpList_boxI rfl 35 _ rfl .u64 zs rfl ?_; intro w1 A1 s1 b1)
    | (with_reducible refine at_op (o := ⟨some 2, _, _, _, _, _⟩) ?_; refine wpList_allocI rfl 22 rfl .u8 32 zero_a32 ?_; intro w2 R2 s2 b2; have A2 := A1.below b2)
    | (with_reducible refine at_op (o := ⟨some 3, _, _, _, _, _⟩) ?_; refine wpList_allocI rfl 22 rfl .u8 32 zero_a32 ?_; intro w3 D3 s3 b3; have A3 := A2.below b3; have R3 := R2.below b3))
  go_loopw [4] (fun i wr => ∃ (k : Nat) (ys : List Int), k ≤ 32 ∧ i = .int .i64 k ∧ Arr .u64 wr w.heap.size zs ∧ Arr .u8 wr w1.heap.size (List.replicate 32 0) ∧ Arr .u8 wr w2.heap.size ys ∧ ys.length = 32 ∧ (∀ j, j < k → at0 ys j = wbyte zs j) ∧ Below w.heap.size w wr) (fun i _ => 32 - (intOf i).toNat)
  case atStart => exact ⟨0, _, by omega, rfl, A3, R3, D3, by simp, fun j hj => by omega, below_then (below_then b1 b2) b3⟩
  case round =>
    obtain ⟨k, ys, hk, rfl, A, R, D, hy, hj, hbel⟩ := hrel
    by_cases hlt : k < 32
    · have c0 := A.cell (k := k / 8) (by omega)
      have c1 := D.cell (k := k) (by omega)
      have f0 := D.free (k := k) (by omega)
      have w0 := hb.at (k / 8)
      go_wp2
      refine ⟨⟨k + 1, ys.set k (wbyte zs k), by omega, by go_num, A.setOther (by omega) _ _, R.setOther (by omega) _ _, D.set k _, by simp [hy], fun j hj' => ?_, hbel.setCell (by show w.heap.size ≤ w2.heap.size; omega) _⟩, by simp [intOf]; omega⟩
      rw [at0_set ys k j _ (by omega)]
      by_cases e : j = k
      · rw [if_pos e, e]
      · rw [if_neg e]; exact hj j (by omega)
    · obtain rfl : k = 32 := by omega
      have hys : ys = bytesS zs 32 := by
        apply eq_of_all (by simp [bytesS, hy])
        intro j h
        rw [hj j (by omega)]
        simp [bytesS, at0, show j < 32 by omega]
      subst hys
      go_wp2_with (first
        | (with_reducible refine at_op (o := ⟨some 21, _, _, _, _, _⟩) ?_; refine wpList_loadI rfl 22 _ rfl 32 5 und_a32 info_a32 w2.heap.size rfl .u8 _ D hy ?_)
        | (with_reducible refine at_op (o := ⟨_, .store 22 _ _, _, _, _, _⟩) ?_; refine wpList_storeI rfl 22 _ _ rfl 32 info_a32 w1.heap.size rfl .u8 _ _ rfl R (by simp) hy ?_; intro A3))
      refine bodyPost_ret (results_cellI rfl _ 32 5 und_a32 info_a32 w1.heap.size rfl .u8 _ A3 hy) rfl ?_
      exact ⟨rfl, Below.setRow hbel (by omega) _⟩
end Go.Proofs.YtlhloldjlfcchaaDoor
