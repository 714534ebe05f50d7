/- Package scalar's load, and the reference's Load. -/
--@optional
import Derived.Test.YtlhloldjlfcchaaDoorLoadA
import Derived.Test.YtlhloldjlfcchaaDoorBits
import Derived.RegionTactic
namespace Go.Proofs.YtlhloldjlfcchaaDoor
open Go.RowKit
set_option linter.unusedVariables false

/-- The first m bytes of the j-th word, the lowest first. -/
def partW (za : List Int) (j : Nat) : Nat → Int
  | 0 => 0
  | m + 1 => partW za j m + at0 za (8 * j + m) * 2 ^ (8 * m)
def loadS (za : List Int) (n : Nat) : List Int := (List.range n).map fun j => partW za j 8
theorem partW_lt (za : List Int) (hb : Bytes za) (j m : Nat) (hm : m ≤ 8) : 0 ≤ partW za j m ∧ partW za j m < 2 ^ (8 * m) := by
  induction m with
  | zero => exact ⟨by simp [partW], by simp [partW]⟩
  | succ m ih =>
    have := ih (by omega)
    have hx := hb.at (8 * j + m)
    simp only [partW]
    rw [show 8 * (m + 1) = 8 * m + 8 by omega, Int.pow_add]
    generalize hp : (2 : Int) ^ (8 * m) = p at *
    generalize at0 za (8 * j + m) = x at *
    have hp0 : 0 < p := by rw [← hp]; exact Int.pow_pos (by omega)
    have h1 : 0 ≤ x * p := Int.mul_nonneg hx.1 (by omega)
    have h2 : x * p ≤ 255 * p := Int.mul_le_mul_of_nonneg_right hx.2 (by omega)
    constructor
    · omega
    · have : p * 2 ^ 8 = 255 * p + p := by omega
      omega
theorem or_byte (p c : Int) (m : Nat) (hm : m < 8) (hp : 0 ≤ p ∧ p < 2 ^ (8 * m)) (hc : 0 ≤ c ∧ c ≤ 255) :
    bits BinOp.or IntKind.u64 p (IntKind.u64.wrap (c * 2 ^ (8 * m))) = p + c * 2 ^ (8 * m) := by
  have e : IntKind.u64.wrap (c * 2 ^ (8 * m)) = c * 2 ^ (8 * m) ∧ 0 ≤ c * 2 ^ (8 * m) ∧ c * 2 ^ (8 * m) < 18446744073709551616 ∧ (2 : Int) ^ (8 * m) ≤ 18446744073709551616 := by
    rw [wrap_u64_eq]
    obtain rfl | rfl | rfl | rfl | rfl | rfl | rfl | rfl : m = 0 ∨ m = 1 ∨ m = 2 ∨ m = 3 ∨ m = 4 ∨ m = 5 ∨ m = 6 ∨ m = 7 := by omega
    all_goals
      simp only [Nat.reduceMul, Int.reducePow]
      omega
  obtain ⟨e1, e2, e3, e4⟩ := e
  rw [e1]
  have := u64_or_add (c * 2 ^ (8 * m)) p (8 * m) e2 e3 (Int.mul_emod_left _ _) hp.1 hp.2 (by omega)
  rw [show bits BinOp.or IntKind.u64 p (c * 2 ^ (8 * m)) = bits BinOp.or IntKind.u64 (c * 2 ^ (8 * m)) p from by simp only [bits, BitVec.or_comm], this]
  omega

theorem Arr.drew {K : IntKind} {w : World} {B : Nat} {zs : List Int} (h : Arr K w B zs) : Arr K w.drew B zs := h.below (Below.refl _ _).drew

set_option maxHeartbeats 400000 in
theorem ref_load_any (za : List Int) (w : World) (hb : Bytes za) (hl : za.length = 32) :
    Calls Tryd.prog 34 #[aggI .u8 za] w fun e w' => e = .returned (aggI .u64 (loadS za 4)) ∧ Below w.heap.size w w' := by
  go_enter Tryd.func34, Tryd.ntmps34
  go_wp2_with (first
    | (with_reducible refine at_op (o := ⟨some 1, _, _, _, _, _⟩) ?_; refine wpList_boxI rfl 22 _ rfl .u8 za rfl ?_; intro w1 A1 s1 b1)
    | (with_reducible refine at_op (o := ⟨some 2, _, _, _, _, _⟩) ?_; refine wpList_allocI rfl 35 rfl .u64 4 zero_num ?_; intro w2 R2 s2 b2; have A2 := A1.below b2)
    | (with_reducible refine at_op (o := ⟨some 3, _, _, _, _, _⟩) ?_; refine wpList_allocI rfl 35 rfl .u64 4 zero_num ?_; intro w3 D3 s3 b3; have A3 := A2.below b3; have R3 := R2.below b3))
  go_loopw [4] (fun i wr => ∃ (k : Nat) (ys : List Int), k ≤ 32 ∧ i = .int .i64 k ∧ Arr .u8 wr w.heap.size za ∧ Arr .u64 wr w1.heap.size (List.replicate 4 0) ∧ Arr .u64 wr w2.heap.size ys ∧ ys.length = 4 ∧ (∀ j, j < 4 → at0 ys j = partW za j (min 8 (k - 8 * j))) ∧ Below w.heap.size w wr) (fun i _ => 32 - (intOf i).toNat)
  case atStart => exact ⟨0, _, by omega, rfl, A3, R3, D3, by simp, fun j hj => by rw [show min 8 (0 - 8 * j) = 0 by omega]; simp only [partW, at0, List.getElem?_replicate]; rw [if_pos hj]; rfl, below_then (below_then b1 b2) b3⟩
  case round =>
    obtain ⟨k, ys, hk, rfl, A, R, D, hy, hj, hbel⟩ := hrel
    by_cases hlt : k < 32
    · have c0 := A.cell (k := k) (by omega)
      have c1 := D.cell (k := k / 8) (by omega)
      have f0 := D.free (k := k / 8) (by omega)
      have hm : at0 ys (k / 8) = partW za (k / 8) (k % 8) := by rw [hj (k / 8) (by omega)]; congr 1; omega
      have ho := or_byte (partW za (k / 8) (k % 8)) (at0 za k) (k % 8) (by omega) (partW_lt za hb _ _ (by omega)) (hb.at k)
      rw [hm] at c1
      have hw : IntKind.u64.wrap (at0 za k) = at0 za k := by have := hb.at k; rw [wrap_u64_eq]; omega
      go_wp2
      go_region
      go_wp2
      refine ⟨⟨k + 1, ys.set (k / 8) (partW za (k / 8) (k % 8) + at0 za k * 2 ^ (8 * (k % 8))), by omega, by go_num, (A.setOther (by omega) _ _).drew, (R.setOther (by omega) _ _).drew, (D.set _ _).drew, by simp [hy], fun j hj' => ?_, (hbel.setCell (by show w.heap.size ≤ w2.heap.size; omega) _).drew⟩, by simp [intOf]; omega⟩
      rw [at0_set ys (k / 8) j _ (by omega)]
      by_cases e : j = k / 8
      · rw [if_pos e, e, show min 8 (k + 1 - 8 * (k / 8)) = k % 8 + 1 by omega, partW, show 8 * (k / 8) + k % 8 = k by omega]
      · rw [if_neg e, hj j hj']
        congr 1
        omega
    · obtain rfl : k = 32 := by omega
      have hys : ys = loadS za 4 := by
        apply eq_of_all (by simp [loadS, hy])
        intro j h
        rw [hj j (by omega), show min 8 (32 - 8 * j) = 8 by omega]
        simp [loadS, at0, show j < 4 by omega]
      subst hys
      go_wp2_with (first
        | (with_reducible refine at_op (o := ⟨some 26, _, _, _, _, _⟩) ?_; refine wpList_loadI rfl 35 _ rfl 4 33 und_num info_num w2.heap.size rfl .u64 _ D hy ?_)
        | (with_reducible refine at_op (o := ⟨_, .store 35 _ _, _, _, _, _⟩) ?_; refine wpList_storeI rfl 35 _ _ rfl 4 info_num w1.heap.size rfl .u64 _ _ rfl R (by simp) hy ?_; intro A9))
      refine bodyPost_ret (results_cellI rfl _ 4 33 und_num info_num w1.heap.size rfl .u64 _ A9 hy) rfl ?_
      exact ⟨rfl, Below.setRow hbel (by omega) _⟩
end Go.Proofs.YtlhloldjlfcchaaDoor
