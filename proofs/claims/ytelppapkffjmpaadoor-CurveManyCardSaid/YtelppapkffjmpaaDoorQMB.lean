/- Merged: Package scalar's load and bytes, and the reference's Load and Bytes. Numbers of five limbs: what they stand for, modulo 2^255 - 19. No program stands here. Package scalar's load, and the reference's Load. Numbers of words: a difference with its borrow, a sum with its carry. The order, whether a number is below another, and what is reduced. The reference's Less. Numbers of four words: by their values; the contracts of layer 8's reference, said so. -/
import Derived.RegionTactic
import Derived.Laws.Externs
import Derived.Shelf.Spec.BitsCarry
import Derived.Deep.RegionWith
import Derived.Test.YtelppapkffjmpaaDoorQMA
section
--@optional
namespace Go.Proofs.YtelppapkffjmpaaDoor
open Go.RowKit
set_option linter.unusedVariables false
set_option maxRecDepth 8000

/-- All are words of 64 bits. -/
def Words (l : List Int) : Prop := ∀ x ∈ l, 0 ≤ x ∧ x < 18446744073709551616
theorem Words.at {l : List Int} (h : Words l) (k : Nat) : 0 ≤ at0 l k ∧ at0 l k < 18446744073709551616 := by
  by_cases hk : k < l.length
  · exact h _ (at0_mem hk)
  · simp [at0, hk]
/-- The i-th byte of words, the lowest first. -/
def wbyte (zs : List Int) (i : Nat) : Int := at0 zs (i / 8) / 2 ^ (8 * (i % 8)) % 256
def bytesS (zs : List Int) (n : Nat) : List Int := (List.range n).map (wbyte zs)
theorem info_short : (Tryd.prog.info? 66).map (·.size) = some 4 := by kernel_rfl
theorem zero_short : (Tryd.prog.info? 66).bind (·.zero) = some (.agg (Array.replicate 4 (Value.int .u64 0))) := by kernel_rfl
theorem und_short : Tryd.prog.underlying 66 = some (.array 4 34) := by kernel_rfl

set_option maxHeartbeats 400000 in
theorem bytes_any (zs : List Int) (w : World) (hb : Words zs) (hl : zs.length = 4) :
    Calls Tryd.prog 47 #[aggI .u64 zs] w fun e w' => e = .returned (aggI .u8 (bytesS zs 32)) ∧ Below w.heap.size w w' := by
  go_enter Tryd.func47, Tryd.ntmps47
  go_wp2_with (first
    | (with_reducible refine at_n 1 ?_; refine wpList_boxI rfl 66 _ rfl .u64 zs rfl ?_; intro w1 A1 s1 b1)
    | (with_reducible refine at_n 2 ?_; refine wpList_allocI rfl 22 rfl .u8 32 zero_a32 ?_; intro w2 R2 s2 b2; have A2 := A1.below b2)
    | (with_reducible refine at_n 3 ?_; refine wpList_allocI rfl 22 rfl .u8 32 zero_a32 ?_; intro w3 D3 s3 b3; have A3 := A2.below b3; have R3 := R2.below b3))
  go_loopw [5] (fun i wr => ∃ (k : Nat) (ys : List Int), k ≤ 32 ∧ i = .int .i64 k ∧ Arr .u64 wr w.heap.size zs ∧ Arr .u8 wr w1.heap.size (List.replicate 32 0) ∧ Arr .u8 wr w2.heap.size ys ∧ ys.length = 32 ∧ (∀ j, j < k → at0 ys j = wbyte zs j) ∧ Below w.heap.size w wr) (fun i _ => 32 - (intOf i).toNat)
  case atStart => exact ⟨0, _, by omega, rfl, A3, R3, D3, by simp, fun j hj => by omega, below_then (below_then b1 b2) b3⟩
  case round =>
    obtain ⟨k, ys, hk, rfl, A, R, D, hy, hj, hbel⟩ := hrel
    by_cases hlt : k < 32
    · have c0 := A.cell (k := k / 8) (by omega)
      have c1 := D.cell (k := k) (by omega)
      have f0 := D.free (k := k) (by omega)
      have w0 := hb.at (k / 8)
      go_wp2
      refine ⟨⟨k + 1, ys.set k (wbyte zs k), by omega, by go_num, A.setOther (by omega) _ _, R.setOther (by omega) _ _, D.set k _, by simp [hy], fun j hj' => ?_, hbel.setCell (by show w.heap.size ≤ w2.heap.size; omega) _⟩, by simp [intOf]; omega⟩
      rw [at0_set ys k j _ (by omega)]
      by_cases e : j = k
      · rw [if_pos e, e]
      · rw [if_neg e]; exact hj j (by omega)
    · obtain rfl : k = 32 := by omega
      have hys : ys = bytesS zs 32 := by
        apply eq_of_all (by simp [bytesS, hy])
        intro j h
        rw [hj j (by omega)]
        simp [bytesS, at0, show j < 32 by omega]
      subst hys
      go_wp2_with (first
        | (with_reducible refine at_n 20 ?_; refine wpList_loadI rfl 22 _ rfl 32 5 und_a32 info_a32 w2.heap.size rfl .u8 _ D hy ?_)
        | (with_reducible refine at_op (o := ⟨_, .store 22 _ _, _, _, _, _⟩) ?_; refine wpList_storeI rfl 22 _ _ rfl 32 info_a32 w1.heap.size rfl .u8 _ _ rfl R (by simp) hy ?_; intro A3))
      refine bodyPost_ret (results_cellI rfl _ 32 5 und_a32 info_a32 w1.heap.size rfl .u8 _ A3 hy) rfl ?_
      exact ⟨rfl, Below.setRow hbel (by omega) _⟩
theorem info_num : (Tryd.prog.info? 36).map (·.size) = some 4 := by kernel_rfl
theorem zero_num : (Tryd.prog.info? 36).bind (·.zero) = some (.agg (Array.replicate 4 (Value.int .u64 0))) := by kernel_rfl
theorem und_num : Tryd.prog.underlying 36 = some (.array 4 34) := by kernel_rfl

set_option maxHeartbeats 400000 in
theorem ref_bytes_any (zs : List Int) (w : World) (hb : Words zs) (hl : zs.length = 4) :
    Calls Tryd.prog 23 #[aggI .u64 zs] w fun e w' => e = .returned (aggI .u8 (bytesS zs 32)) ∧ Below w.heap.size w w' := by
  go_enter Tryd.func23, Tryd.ntmps23
  go_wp2_with (first
    | (with_reducible refine at_n 1 ?_; refine wpList_boxI rfl 36 _ rfl .u64 zs rfl ?_; intro w1 A1 s1 b1)
    | (with_reducible refine at_n 2 ?_; refine wpList_allocI rfl 22 rfl .u8 32 zero_a32 ?_; intro w2 R2 s2 b2; have A2 := A1.below b2)
    | (with_reducible refine at_n 3 ?_; refine wpList_allocI rfl 22 rfl .u8 32 zero_a32 ?_; intro w3 D3 s3 b3; have A3 := A2.below b3; have R3 := R2.below b3))
  go_loopw [4] (fun i wr => ∃ (k : Nat) (ys : List Int), k ≤ 32 ∧ i = .int .i64 k ∧ Arr .u64 wr w.heap.size zs ∧ Arr .u8 wr w1.heap.size (List.replicate 32 0) ∧ Arr .u8 wr w2.heap.size ys ∧ ys.length = 32 ∧ (∀ j, j < k → at0 ys j = wbyte zs j) ∧ Below w.heap.size w wr) (fun i _ => 32 - (intOf i).toNat)
  case atStart => exact ⟨0, _, by omega, rfl, A3, R3, D3, by simp, fun j hj => by omega, below_then (below_then b1 b2) b3⟩
  case round =>
    obtain ⟨k, ys, hk, rfl, A, R, D, hy, hj, hbel⟩ := hrel
    by_cases hlt : k < 32
    · have c0 := A.cell (k := k / 8) (by omega)
      have c1 := D.cell (k := k) (by omega)
      have f0 := D.free (k := k) (by omega)
      have w0 := hb.at (k / 8)
      go_wp2
      refine ⟨⟨k + 1, ys.set k (wbyte zs k), by omega, by go_num, A.setOther (by omega) _ _, R.setOther (by omega) _ _, D.set k _, by simp [hy], fun j hj' => ?_, hbel.setCell (by show w.heap.size ≤ w2.heap.size; omega) _⟩, by simp [intOf]; omega⟩
      rw [at0_set ys k j _ (by omega)]
      by_cases e : j = k
      · rw [if_pos e, e]
      · rw [if_neg e]; exact hj j (by omega)
    · obtain rfl : k = 32 := by omega
      have hys : ys = bytesS zs 32 := by
        apply eq_of_all (by simp [bytesS, hy])
        intro j h
        rw [hj j (by omega)]
        simp [bytesS, at0, show j < 32 by omega]
      subst hys
      go_wp2_with (first
        | (with_reducible refine at_n 21 ?_; refine wpList_loadI rfl 22 _ rfl 32 5 und_a32 info_a32 w2.heap.size rfl .u8 _ D hy ?_)
        | (with_reducible refine at_op (o := ⟨_, .store 22 _ _, _, _, _, _⟩) ?_; refine wpList_storeI rfl 22 _ _ rfl 32 info_a32 w1.heap.size rfl .u8 _ _ rfl R (by simp) hy ?_; intro A3))
      refine bodyPost_ret (results_cellI rfl _ 32 5 und_a32 info_a32 w1.heap.size rfl .u8 _ A3 hy) rfl ?_
      exact ⟨rfl, Below.setRow hbel (by omega) _⟩
end Go.Proofs.YtelppapkffjmpaaDoor
end
section
namespace Go.Proofs.YtelppapkffjmpaaDoor
open Go.RowKit
set_option linter.unusedVariables false

/-- The modulus. -/
def pV : Int := 57896044618658097711785492504343953926634992332820282019728792003956564819949
/-- What limbs stand for. -/
def valL (xs : List Int) : Int := at0 xs 0 + at0 xs 1 * 2 ^ 51 + at0 xs 2 * 2 ^ 102 + at0 xs 3 * 2 ^ 153 + at0 xs 4 * 2 ^ 204
/-- Limbs a little above 51 bits at most. -/
def Small (xs : List Int) : Prop := ∀ k, 0 ≤ at0 xs k ∧ at0 xs k < 2251799814209536
theorem words_of5 {a b c d e : Int} (ha : 0 ≤ a ∧ a < 18446744073709551616) (hb : 0 ≤ b ∧ b < 18446744073709551616) (hc : 0 ≤ c ∧ c < 18446744073709551616) (hd : 0 ≤ d ∧ d < 18446744073709551616) (he : 0 ≤ e ∧ e < 18446744073709551616) : Words [a, b, c, d, e] := by
  intro x hx
  simp only [List.mem_cons, List.not_mem_nil, or_false] at hx
  rcases hx with rfl | rfl | rfl | rfl | rfl <;> assumption
theorem small_of5 {a b c d e : Int} (ha : 0 ≤ a ∧ a < 2251799814209536) (hb : 0 ≤ b ∧ b < 2251799814209536) (hc : 0 ≤ c ∧ c < 2251799814209536) (hd : 0 ≤ d ∧ d < 2251799814209536) (he : 0 ≤ e ∧ e < 2251799814209536) : Small [a, b, c, d, e] := by
  intro k
  match k with
  | 0 => exact ha
  | 1 => exact hb
  | 2 => exact hc
  | 3 => exact hd
  | 4 => exact he
  | k + 5 => exact ⟨by simp [at0], by simp [at0]⟩
theorem Small.words {xs : List Int} (h : Small xs) : Words xs := fun x hx => by
  obtain ⟨i, hi, rfl⟩ := List.getElem_of_mem hx
  have := h i
  rw [at0_lt hi] at this
  omega
/-- A number modulo p, as five limbs. -/
structure Fel (xs : List Int) (v : Int) : Prop where
  len : xs.length = 5
  small : Small xs
  val : valL xs % pV = v
theorem Fel.words {xs : List Int} {v : Int} (h : Fel xs v) : Words xs := h.small.words
theorem pV_mod (v : Int) : 0 ≤ v % pV ∧ v % pV < pV := by unfold pV; omega

theorem sub_mul_mod (v k : Int) : (v - k * pV) % pV = v % pV := by
  rw [show v - k * pV = v + (-k) * pV by rw [Int.neg_mul]; rfl, Int.add_mul_emod_self_right]
def carriedS (x : List Int) : List Int :=
  [at0 x 0 % 2251799813685248 + at0 x 4 / 2251799813685248 * 19, at0 x 1 % 2251799813685248 + at0 x 0 / 2251799813685248, at0 x 2 % 2251799813685248 + at0 x 1 / 2251799813685248,
   at0 x 3 % 2251799813685248 + at0 x 2 / 2251799813685248, at0 x 4 % 2251799813685248 + at0 x 3 / 2251799813685248]
theorem carried_fel (x : List Int) (hx : Words x) : Fel (carriedS x) (valL x % pV) := by
  have h0 := hx.at 0; have h1 := hx.at 1; have h2 := hx.at 2; have h3 := hx.at 3; have h4 := hx.at 4
  refine ⟨rfl, small_of5 (by omega) (by omega) (by omega) (by omega) (by omega), ?_⟩
  have e : valL (carriedS x) = valL x - at0 x 4 / 2251799813685248 * pV := by
    unfold pV
    simp only [valL, carriedS, at0_cons_zero, at0_cons_succ, Int.reducePow]
    omega
  rw [e, sub_mul_mod]
def plusL (x y : List Int) : List Int := [at0 x 0 + at0 y 0, at0 x 1 + at0 y 1, at0 x 2 + at0 y 2, at0 x 3 + at0 y 3, at0 x 4 + at0 y 4]
theorem plusL_words {x y : List Int} (hx : Small x) (hy : Small y) : Words (plusL x y) := by
  have h0 := hx 0; have h1 := hx 1; have h2 := hx 2; have h3 := hx 3; have h4 := hx 4
  have g0 := hy 0; have g1 := hy 1; have g2 := hy 2; have g3 := hy 3; have g4 := hy 4
  exact words_of5 (by omega) (by omega) (by omega) (by omega) (by omega)
theorem plus_fel {x y : List Int} {u v : Int} (hx : Fel x u) (hy : Fel y v) : Fel (carriedS (plusL x y)) ((u + v) % pV) := by
  have h := carried_fel _ (plusL_words hx.small hy.small)
  have e : valL (plusL x y) = valL x + valL y := by
    simp only [valL, plusL, at0_cons_zero, at0_cons_succ, Int.reducePow]
    omega
  rw [e, Int.add_emod, hx.val, hy.val] at h
  exact h
def minusL (x y : List Int) : List Int := [at0 x 0 + (4503599627370458 - at0 y 0), at0 x 1 + (4503599627370494 - at0 y 1), at0 x 2 + (4503599627370494 - at0 y 2), at0 x 3 + (4503599627370494 - at0 y 3), at0 x 4 + (4503599627370494 - at0 y 4)]
theorem minusL_words {x y : List Int} (hx : Small x) (hy : Small y) : Words (minusL x y) := by
  have h0 := hx 0; have h1 := hx 1; have h2 := hx 2; have h3 := hx 3; have h4 := hx 4
  have g0 := hy 0; have g1 := hy 1; have g2 := hy 2; have g3 := hy 3; have g4 := hy 4
  exact words_of5 (by omega) (by omega) (by omega) (by omega) (by omega)
theorem minus_fel {x y : List Int} {u v : Int} (hx : Fel x u) (hy : Fel y v) : Fel (carriedS (minusL x y)) ((u - v) % pV) := by
  have h := carried_fel _ (minusL_words hx.small hy.small)
  have e : valL (minusL x y) = valL x - valL y + 2 * pV := by
    unfold pV
    simp only [valL, minusL, at0_cons_zero, at0_cons_succ, Int.reducePow]
    omega
  rw [e, Int.add_mul_emod_self_right, Int.sub_emod, hx.val, hy.val] at h
  exact h
/-- The five sums of products. -/
def prodR (x y : List Int) : Nat → Int
  | 0 => at0 x 0 * at0 y 0 + at0 x 1 * 19 * at0 y 4 + at0 x 2 * 19 * at0 y 3 + at0 x 3 * 19 * at0 y 2 + at0 x 4 * 19 * at0 y 1
  | 1 => at0 x 0 * at0 y 1 + at0 x 1 * at0 y 0 + at0 x 2 * 19 * at0 y 4 + at0 x 3 * 19 * at0 y 3 + at0 x 4 * 19 * at0 y 2
  | 2 => at0 x 0 * at0 y 2 + at0 x 1 * at0 y 1 + at0 x 2 * at0 y 0 + at0 x 3 * 19 * at0 y 4 + at0 x 4 * 19 * at0 y 3
  | 3 => at0 x 0 * at0 y 3 + at0 x 1 * at0 y 2 + at0 x 2 * at0 y 1 + at0 x 3 * at0 y 0 + at0 x 4 * 19 * at0 y 4
  | _ => at0 x 0 * at0 y 4 + at0 x 1 * at0 y 3 + at0 x 2 * at0 y 2 + at0 x 3 * at0 y 1 + at0 x 4 * at0 y 0
theorem prod_id (x0 x1 x2 x3 x4 y0 y1 y2 y3 y4 b : Int) :
    (x0 + x1 * b + x2 * (b * b) + x3 * (b * b * b) + x4 * (b * b * b * b)) * (y0 + y1 * b + y2 * (b * b) + y3 * (b * b * b) + y4 * (b * b * b * b)) =
    (x0 * y0 + x1 * 19 * y4 + x2 * 19 * y3 + x3 * 19 * y2 + x4 * 19 * y1) + (x0 * y1 + x1 * y0 + x2 * 19 * y4 + x3 * 19 * y3 + x4 * 19 * y2) * b + (x0 * y2 + x1 * y1 + x2 * y0 + x3 * 19 * y4 + x4 * 19 * y3) * (b * b) +
    (x0 * y3 + x1 * y2 + x2 * y1 + x3 * y0 + x4 * 19 * y4) * (b * b * b) + (x0 * y4 + x1 * y3 + x2 * y2 + x3 * y1 + x4 * y0) * (b * b * b * b) +
    (b * b * b * b * b - 19) * (x1 * y4 + x2 * y3 + x3 * y2 + x4 * y1 + (x2 * y4 + x3 * y3 + x4 * y2) * b + (x3 * y4 + x4 * y3) * (b * b) + x4 * y4 * (b * b * b)) := by grind
def prodV (x y : List Int) : Int := prodR x y 0 + prodR x y 1 * 2 ^ 51 + prodR x y 2 * 2 ^ 102 + prodR x y 3 * 2 ^ 153 + prodR x y 4 * 2 ^ 204
theorem prodV_val (x y : List Int) : prodV x y % pV = (valL x * valL y) % pV := by
  have h := prod_id (at0 x 0) (at0 x 1) (at0 x 2) (at0 x 3) (at0 x 4) (at0 y 0) (at0 y 1) (at0 y 2) (at0 y 3) (at0 y 4) 2251799813685248
  have e1 : (2251799813685248 : Int) * 2251799813685248 = 2 ^ 102 := by decide +kernel
  have e2 : (2251799813685248 : Int) * 2251799813685248 * 2251799813685248 = 2 ^ 153 := by decide +kernel
  have e3 : (2251799813685248 : Int) * 2251799813685248 * 2251799813685248 * 2251799813685248 = 2 ^ 204 := by decide +kernel
  have e4 : (2251799813685248 : Int) * 2251799813685248 * 2251799813685248 * 2251799813685248 * 2251799813685248 - 19 = pV := by decide +kernel
  rw [e4, e3, e2, e1] at h
  have e : valL x * valL y = prodV x y + pV * (at0 x 1 * at0 y 4 + at0 x 2 * at0 y 3 + at0 x 3 * at0 y 2 + at0 x 4 * at0 y 1 + (at0 x 2 * at0 y 4 + at0 x 3 * at0 y 3 + at0 x 4 * at0 y 2) * 2251799813685248 + (at0 x 3 * at0 y 4 + at0 x 4 * at0 y 3) * 2 ^ 102 + at0 x 4 * at0 y 4 * 2 ^ 153) := h
  rw [e, Int.add_mul_emod_self_left]
theorem mul_bound {a b A B : Int} (ha : 0 ≤ a ∧ a < A) (hb : 0 ≤ b ∧ b < B) : 0 ≤ a * b ∧ a * b ≤ A * B := ⟨Int.mul_nonneg ha.1 hb.1, Int.mul_le_mul (by omega) (by omega) hb.1 (by omega)⟩
theorem small_mul {x y : List Int} (hx : Small x) (hy : Small y) (i j : Nat) : 0 ≤ at0 x i * at0 y j ∧ at0 x i * at0 y j ≤ 5070602403274100847696513335296 := by
  have h := mul_bound (hx i) (hy j)
  refine ⟨h.1, Int.le_trans h.2 (by decide)⟩
/-- The limbs ahead of the carry. -/
def timesL (x y : List Int) : List Int :=
  [prodR x y 0 % 2251799813685248 + prodR x y 4 / 2251799813685248 * 19, prodR x y 1 % 2251799813685248 + prodR x y 0 / 2251799813685248, prodR x y 2 % 2251799813685248 + prodR x y 1 / 2251799813685248,
   prodR x y 3 % 2251799813685248 + prodR x y 2 / 2251799813685248, prodR x y 4 % 2251799813685248 + prodR x y 3 / 2251799813685248]
theorem prodR_bound {x y : List Int} (hx : Small x) (hy : Small y) (k : Nat) : 0 ≤ prodR x y k ∧ prodR x y k ≤ 77 * 5070602403274100847696513335296 := by
  have m := small_mul hx hy
  have c : ∀ i j, at0 x i * 19 * at0 y j = at0 x i * at0 y j * 19 := fun i j => by rw [Int.mul_right_comm]
  match k with
  | 0 => have := m 0 0; have := m 1 4; have := m 2 3; have := m 3 2; have := m 4 1; simp only [prodR, c]; omega
  | 1 => have := m 0 1; have := m 1 0; have := m 2 4; have := m 3 3; have := m 4 2; simp only [prodR, c]; omega
  | 2 => have := m 0 2; have := m 1 1; have := m 2 0; have := m 3 4; have := m 4 3; simp only [prodR, c]; omega
  | 3 => have := m 0 3; have := m 1 2; have := m 2 1; have := m 3 0; have := m 4 4; simp only [prodR, c]; omega
  | k + 4 => have := m 0 4; have := m 1 3; have := m 2 2; have := m 3 1; have := m 4 0; simp only [prodR]; omega
theorem prodR_bound4 {x y : List Int} (hx : Small x) (hy : Small y) : prodR x y 4 ≤ 5 * 5070602403274100847696513335296 := by
  have m := small_mul hx hy
  have := m 0 4; have := m 1 3; have := m 2 2; have := m 3 1; have := m 4 0; simp only [prodR]; omega
theorem timesL_words {x y : List Int} (hx : Small x) (hy : Small y) : Words (timesL x y) := by
  have h0 := prodR_bound hx hy 0; have h1 := prodR_bound hx hy 1; have h2 := prodR_bound hx hy 2; have h3 := prodR_bound hx hy 3; have h4 := prodR_bound hx hy 4
  have h5 := prodR_bound4 hx hy
  exact words_of5 (by omega) (by omega) (by omega) (by omega) (by omega)
theorem times_fel {x y : List Int} {u v : Int} (hx : Fel x u) (hy : Fel y v) : Fel (carriedS (timesL x y)) ((u * v) % pV) := by
  have h := carried_fel _ (timesL_words hx.small hy.small)
  have e : valL (timesL x y) = prodV x y - prodR x y 4 / 2251799813685248 * pV := by
    unfold pV prodV
    simp only [valL, timesL, at0_cons_zero, at0_cons_succ, Int.reducePow]
    generalize prodR x y 0 = r0
    generalize prodR x y 1 = r1
    generalize prodR x y 2 = r2
    generalize prodR x y 3 = r3
    generalize prodR x y 4 = r4
    omega
  rw [e, sub_mul_mod, prodV_val, Int.mul_emod, hx.val, hy.val] at h
  exact h
end Go.Proofs.YtelppapkffjmpaaDoor
end
section
--@optional
namespace Go.Proofs.YtelppapkffjmpaaDoor
open Go.RowKit
set_option linter.unusedVariables false
set_option maxRecDepth 8000

/-- The first m bytes of the j-th word, the lowest first. -/
def partW (za : List Int) (j : Nat) : Nat → Int
  | 0 => 0
  | m + 1 => partW za j m + at0 za (8 * j + m) * 2 ^ (8 * m)
def loadS (za : List Int) (n : Nat) : List Int := (List.range n).map fun j => partW za j 8
theorem partW_lt (za : List Int) (hb : Bytes za) (j m : Nat) (hm : m ≤ 8) : 0 ≤ partW za j m ∧ partW za j m < 2 ^ (8 * m) := by
  induction m with
  | zero => exact ⟨by simp [partW], by simp [partW]⟩
  | succ m ih =>
    have := ih (by omega)
    have hx := hb.at (8 * j + m)
    simp only [partW]
    rw [show 8 * (m + 1) = 8 * m + 8 by omega, Int.pow_add]
    generalize hp : (2 : Int) ^ (8 * m) = p at *
    generalize at0 za (8 * j + m) = x at *
    have hp0 : 0 < p := by rw [← hp]; exact Int.pow_pos (by omega)
    have h1 : 0 ≤ x * p := Int.mul_nonneg hx.1 (by omega)
    have h2 : x * p ≤ 255 * p := Int.mul_le_mul_of_nonneg_right hx.2 (by omega)
    constructor
    · omega
    · have : p * 2 ^ 8 = 255 * p + p := by omega
      omega
theorem or_byte (p c : Int) (m : Nat) (hm : m < 8) (hp : 0 ≤ p ∧ p < 2 ^ (8 * m)) (hc : 0 ≤ c ∧ c ≤ 255) :
    bits BinOp.or IntKind.u64 p (IntKind.u64.wrap (c * 2 ^ (8 * m))) = p + c * 2 ^ (8 * m) := by
  have e : IntKind.u64.wrap (c * 2 ^ (8 * m)) = c * 2 ^ (8 * m) ∧ 0 ≤ c * 2 ^ (8 * m) ∧ c * 2 ^ (8 * m) < 18446744073709551616 ∧ (2 : Int) ^ (8 * m) ≤ 18446744073709551616 := by
    rw [wrap_u64_eq]
    obtain rfl | rfl | rfl | rfl | rfl | rfl | rfl | rfl : m = 0 ∨ m = 1 ∨ m = 2 ∨ m = 3 ∨ m = 4 ∨ m = 5 ∨ m = 6 ∨ m = 7 := by omega
    all_goals
      simp only [Nat.reduceMul, Int.reducePow]
      omega
  obtain ⟨e1, e2, e3, e4⟩ := e
  rw [e1]
  have := u64_or_add (c * 2 ^ (8 * m)) p (8 * m) e2 e3 (Int.mul_emod_left _ _) hp.1 hp.2 (by omega)
  rw [show bits BinOp.or IntKind.u64 p (c * 2 ^ (8 * m)) = bits BinOp.or IntKind.u64 (c * 2 ^ (8 * m)) p from by simp only [bits, BitVec.or_comm], this]
  omega

theorem Arr.drew {K : IntKind} {w : World} {B : Nat} {zs : List Int} (h : Arr K w B zs) : Arr K w.drew B zs := h.below (Below.refl _ _).drew

set_option maxHeartbeats 400000 in
theorem sload_any (za : List Int) (w : World) (hb : Bytes za) (hl : za.length = 32) :
    Calls Tryd.prog 44 #[aggI .u8 za] w fun e w' => e = .returned (aggI .u64 (loadS za 4)) ∧ Below w.heap.size w w' := by
  go_enter Tryd.func44, Tryd.ntmps44
  go_wp2_with (first
    | (with_reducible refine at_n 1 ?_; refine wpList_boxI rfl 22 _ rfl .u8 za rfl ?_; intro w1 A1 s1 b1)
    | (with_reducible refine at_n 2 ?_; refine wpList_allocI rfl 66 rfl .u64 4 zero_short ?_; intro w2 R2 s2 b2; have A2 := A1.below b2)
    | (with_reducible refine at_n 3 ?_; refine wpList_allocI rfl 66 rfl .u64 4 zero_short ?_; intro w3 D3 s3 b3; have A3 := A2.below b3; have R3 := R2.below b3)
    | (with_reducible refine at_n 6 ?_; refine wpList_loadI rfl 22 _ rfl 32 5 und_a32 info_a32 w.heap.size rfl .u8 za A3 hl ?_))
  go_loopw [7] (fun i wr => ∃ (k : Nat) (ys : List Int), k ≤ 32 ∧ i = .int .i64 k ∧ Arr .u64 wr w1.heap.size (List.replicate 4 0) ∧ Arr .u64 wr w2.heap.size ys ∧ ys.length = 4 ∧ (∀ j, j < 4 → at0 ys j = partW za j (min 8 (k - 8 * j))) ∧ Below w.heap.size w wr) (fun i _ => 32 - (intOf i).toNat)
  case atStart => exact ⟨0, _, by omega, rfl, R3, D3, by simp, fun j hj => by rw [show min 8 (0 - 8 * j) = 0 by omega]; simp only [partW, at0, List.getElem?_replicate]; rw [if_pos hj]; rfl, below_then (below_then b1 b2) b3⟩
  case round =>
    obtain ⟨k, ys, hk, rfl, R, D, hy, hj, hbel⟩ := hrel
    by_cases hlt : k < 32
    · have hx := run_indexI (P := Tryd.prog) (w := wr) 22 32 5 und_a32 _ Tryd.underlying5 rfl (by kernel_rfl) .u8 za hl k (by omega) (by omega)
      rw [Int.toNat_natCast] at hx
      have c1 := D.cell (k := k / 8) (by omega)
      have f0 := D.free (k := k / 8) (by omega)
      have hm : at0 ys (k / 8) = partW za (k / 8) (k % 8) := by rw [hj (k / 8) (by omega)]; congr 1; omega
      have ho := or_byte (partW za (k / 8) (k % 8)) (at0 za k) (k % 8) (by omega) (partW_lt za hb _ _ (by omega)) (hb.at k)
      rw [hm] at c1
      have hw : IntKind.u64.wrap (at0 za k) = at0 za k := by have := hb.at k; rw [wrap_u64_eq]; omega
      go_wp2
      go_region
      go_wp2
      refine ⟨⟨k + 1, ys.set (k / 8) (partW za (k / 8) (k % 8) + at0 za k * 2 ^ (8 * (k % 8))), by omega, by go_num, (R.setOther (by omega) _ _).drew, (D.set _ _).drew, by simp [hy], fun j hj' => ?_, (hbel.setCell (by show w.heap.size ≤ w2.heap.size; omega) _).drew⟩, by simp [intOf]; omega⟩
      rw [at0_set ys (k / 8) j _ (by omega)]
      by_cases e : j = k / 8
      · rw [if_pos e, e, show min 8 (k + 1 - 8 * (k / 8)) = k % 8 + 1 by omega, partW, show 8 * (k / 8) + k % 8 = k by omega]
      · rw [if_neg e, hj j hj']
        congr 1
        omega
    · obtain rfl : k = 32 := by omega
      have hys : ys = loadS za 4 := by
        apply eq_of_all (by simp [loadS, hy])
        intro j h
        rw [hj j (by omega), show min 8 (32 - 8 * j) = 8 by omega]
        simp [loadS, at0, show j < 4 by omega]
      subst hys
      go_wp2_with (first
        | (with_reducible refine at_n 24 ?_; refine wpList_loadI rfl 66 _ rfl 4 34 und_short info_short w2.heap.size rfl .u64 _ D hy ?_)
        | (with_reducible refine at_op (o := ⟨_, .store 66 _ _, _, _, _, _⟩) ?_; refine wpList_storeI rfl 66 _ _ rfl 4 info_short w1.heap.size rfl .u64 _ _ rfl R (by simp) hy ?_; intro A9))
      refine bodyPost_ret (results_cellI rfl _ 4 34 und_short info_short w1.heap.size rfl .u64 _ A9 hy) rfl ?_
      exact ⟨rfl, Below.setRow hbel (by omega) _⟩
end Go.Proofs.YtelppapkffjmpaaDoor
end
section
--@optional
namespace Go.Proofs.YtelppapkffjmpaaDoor
open Go.RowKit Go.Shelf
set_option linter.unusedVariables false
set_option maxRecDepth 8000

theorem add64_run (x y c : Int) (hx : 0 ≤ x) (hy : 0 ≤ y) (hc0 : 0 ≤ c) (hc : c ≤ 1) (w : World) : (callFunc 78 #[.int .u64 x, .int .u64 y, .int .u64 c]).run Tryd.prog w =
    .ok (.value (.tuple #[.int .u64 ((x + y + c) % 18446744073709551616), .int .u64 ((x + y + c) / 18446744073709551616)])) w := by
  rw [run_callFunc_extern Tryd.func78 (by kernel_rfl) (by kernel_rfl) (by kernel_rfl) (e := add64Entry) (by kernel_rfl), run_add64 x y c hx hy hc0 hc]
  rfl
/-- What is borrowed. -/
def bor (x y b : Int) : Int := if x < y + b then 1 else 0
theorem bor_bit (x y b : Int) : bor x y b = 0 ∨ bor x y b = 1 := by unfold bor; split <;> omega
theorem sub64_run (x y b : Int) (hx : 0 ≤ x) (hy : 0 ≤ y) (hy1 : y < 18446744073709551616) (hb0 : 0 ≤ b) (hb : b ≤ 1) (w : World) : (callFunc 87 #[.int .u64 x, .int .u64 y, .int .u64 b]).run Tryd.prog w =
    .ok (.value (.tuple #[.int .u64 ((x - y - b) % 18446744073709551616), .int .u64 (bor x y b)])) w := by
  obtain ⟨x, rfl⟩ := Int.eq_ofNat_of_zero_le hx
  obtain ⟨y, rfl⟩ := Int.eq_ofNat_of_zero_le hy
  obtain ⟨b, rfl⟩ := Int.eq_ofNat_of_zero_le hb0
  have e1 : (((x + 18446744073709551616 - y - b) % 18446744073709551616 : Nat) : Int) = ((x : Int) - y - b) % 18446744073709551616 := by omega
  have e2 : ((if x < y + b then 1 else 0 : Nat) : Int) = bor x y b := by unfold bor; split <;> split <;> omega
  rw [← e1, ← e2, run_callFunc_extern Tryd.func87 (by kernel_rfl) (by kernel_rfl) (by kernel_rfl) (e := sub64Entry) (by kernel_rfl), run_sub64 x y b (by omega)]
  rfl

/-- The borrow behind m words. -/
def brw (xs ys : List Int) : Nat → Int
  | 0 => 0
  | m + 1 => bor (at0 xs m) (at0 ys m) (brw xs ys m)
theorem brw_bit (xs ys : List Int) (m : Nat) : 0 ≤ brw xs ys m ∧ brw xs ys m ≤ 1 := by
  cases m with
  | zero => simp [brw]
  | succ m => have := bor_bit (at0 xs m) (at0 ys m) (brw xs ys m); simp only [brw]; omega
def subW (xs ys : List Int) (m : Nat) : Int := (at0 xs m - at0 ys m - brw xs ys m) % 18446744073709551616
def subS (xs ys : List Int) (n : Nat) : List Int := (List.range n).map (subW xs ys)

set_option maxHeartbeats 400000 in
theorem less_any (xs ys : List Int) (w : World) (hx : Words xs) (hy : Words ys) (hl : xs.length = 4) (hm : ys.length = 4) :
    Calls Tryd.prog 92 #[aggI .u64 xs, aggI .u64 ys] w fun e w' => e = .returned (.tuple #[aggI .u64 (subS xs ys 4), .int .u64 (brw xs ys 4)]) ∧ Below w.heap.size w w' := by
  go_enter Tryd.func92, Tryd.ntmps92
  go_wp2_with (first
    | (with_reducible refine at_n 2 ?_; refine wpList_boxI rfl 66 _ rfl .u64 xs rfl ?_; intro w1 A1 s1 b1)
    | (with_reducible refine at_n 3 ?_; refine wpList_boxI rfl 66 _ rfl .u64 ys rfl ?_; intro w2 B2 s2 b2; have A2 := A1.below b2)
    | (with_reducible refine at_n 4 ?_; refine wpList_allocI rfl 66 rfl .u64 4 zero_short ?_; intro w3 R3 s3 b3; have A3 := A2.below b3; have B3 := B2.below b3)
    | (with_reducible refine at_n 6 ?_; refine wpList_allocI rfl 66 rfl .u64 4 zero_short ?_; intro w4 D4 s4 b4; have A4 := A3.below b4; have B4 := B3.below b4; have R4 := R3.below b4))
  go_loopw [7, 9] (fun b i wr => ∃ (k : Nat) (ds : List Int), k ≤ 4 ∧ i = .int .i64 k ∧ b = .int .u64 (brw xs ys k) ∧ Arr .u64 wr w.heap.size xs ∧ Arr .u64 wr w1.heap.size ys ∧ Arr .u64 wr w2.heap.size (List.replicate 4 0) ∧ Arr .u64 wr w3.heap.size ds ∧ ds.length = 4 ∧ (∀ j, j < k → at0 ds j = subW xs ys j) ∧ Below w.heap.size w wr) (fun _ i _ => 4 - (intOf i).toNat)
  case atStart => exact ⟨0, _, by omega, rfl, rfl, A4, B4, R4, D4, by simp, fun j hj => by omega, below_then (below_then (below_then b1 b2) b3) b4⟩
  case round =>
    obtain ⟨k, ds, hk, rfl, rfl, A, B, R, D, hd, hj, hbel⟩ := hrel
    by_cases hlt : k < 4
    · have c0 := A.cell (k := k) (by omega)
      have c1 := B.cell (k := k) (by omega)
      have c2 := D.cell (k := k) (by omega)
      have f0 := D.free (k := k) (by omega)
      have hr := sub64_run (at0 xs k) (at0 ys k) (brw xs ys k) (hx.at k).1 (hy.at k).1 (hy.at k).2 (brw_bit xs ys k).1 (brw_bit xs ys k).2
      go_wp2
      go_region
      go_wp2
      refine ⟨⟨k + 1, ds.set k (subW xs ys k), by omega, by go_num, rfl, (A.setOther (by omega) _ _).drew, (B.setOther (by omega) _ _).drew, (R.setOther (by omega) _ _).drew, (D.set _ _).drew, by simp [hd], fun j hj' => ?_, (hbel.setCell (by show w.heap.size ≤ w3.heap.size; omega) _).drew⟩, by simp [intOf]; omega⟩
      rw [at0_set ds k j _ (by omega)]
      by_cases e : j = k
      · rw [if_pos e, e]
      · rw [if_neg e]; exact hj j (by omega)
    · obtain rfl : k = 4 := by omega
      have hys : ds = subS xs ys 4 := by
        apply eq_of_all (by simp [subS, hd])
        intro j h
        rw [hj j (by omega)]
        simp [subS, at0, show j < 4 by omega]
      subst hys
      go_wp2_with (first
        | (with_reducible refine at_n 26 ?_; refine wpList_loadI rfl 66 _ rfl 4 34 und_short info_short w3.heap.size rfl .u64 _ D hd ?_)
        | (with_reducible refine at_op (o := ⟨_, .store 66 _ _, _, _, _, _⟩) ?_; refine wpList_storeI rfl 66 _ _ rfl 4 info_short w2.heap.size rfl .u64 _ _ rfl R (by simp) hd ?_; intro A9))
      refine bodyPost_ret (results_cell_tmpI rfl _ 4 34 und_short info_short w2.heap.size rfl .u64 _ A9 hd) rfl ?_
      exact ⟨rfl, Below.setRow hbel (by omega) _⟩
end Go.Proofs.YtelppapkffjmpaaDoor
end
section
--@optional
namespace Go.Proofs.YtelppapkffjmpaaDoor
open Go.RowKit Go.Shelf
set_option linter.unusedVariables false
set_option maxRecDepth 8000

/-- The order's words. -/
def ordL : List Int := [6346243789798364141, 1503914060200516822, 0, 1152921504606846976]
theorem ordL_words : Words ordL := by unfold Words; decide
theorem order_any (w : World) : Calls Tryd.prog 93 #[] w fun e w' => e = .returned (aggI .u64 ordL) ∧ Below w.heap.size w w' := by
  go_enter Tryd.func93, Tryd.ntmps93
  go_wp2_with (first
    | (with_reducible refine at_n 0 ?_; refine wpList_allocI rfl 66 rfl .u64 4 zero_short ?_; intro w1 R1 s1 b1)
    | (with_reducible refine at_op (o := ⟨_, .store 66 _ _, _, _, _, _⟩) ?_; refine wpList_storeI rfl 66 _ _ rfl 4 info_short w.heap.size rfl .u64 _ ordL rfl R1 (by simp) rfl ?_; intro A9))
  refine bodyPost_ret (results_cellI rfl _ 4 34 und_short info_short w.heap.size rfl .u64 _ A9 rfl) rfl ?_
  exact ⟨rfl, Below.setRow b1 (Nat.le_refl _) _⟩
theorem ref_L_any (w : World) : Calls Tryd.prog 24 #[] w fun e w' => e = .returned (aggI .u64 ordL) ∧ Below w.heap.size w w' := by
  go_enter Tryd.func24, Tryd.ntmps24
  go_wp2_with (first
    | (with_reducible refine at_n 0 ?_; refine wpList_allocI rfl 36 rfl .u64 4 zero_num ?_; intro w1 R1 s1 b1)
    | (with_reducible refine at_op (o := ⟨_, .store 36 _ _, _, _, _, _⟩) ?_; refine wpList_storeI rfl 36 _ _ rfl 4 info_num w.heap.size rfl .u64 _ ordL rfl R1 (by simp) rfl ?_; intro A9))
  refine bodyPost_ret (results_cellI rfl _ 4 34 und_num info_num w.heap.size rfl .u64 _ A9 rfl) rfl ?_
  exact ⟨rfl, Below.setRow b1 (Nat.le_refl _) _⟩

/-- A number of words, the lowest first. -/
def valW (xs : List Int) : Nat → Int
  | 0 => 0
  | m + 1 => valW xs m + at0 xs m * 2 ^ (64 * m)
theorem valW_lt (xs : List Int) (hx : Words xs) (m : Nat) : 0 ≤ valW xs m ∧ valW xs m < 2 ^ (64 * m) := by
  induction m with
  | zero => exact ⟨by simp [valW], by simp [valW]⟩
  | succ m ih =>
    have hy := hx.at m
    simp only [valW]
    rw [show 64 * (m + 1) = 64 * m + 64 by omega, Int.pow_add]
    generalize hp : (2 : Int) ^ (64 * m) = p at *
    generalize at0 xs m = x at *
    have hp0 : 0 < p := by rw [← hp]; exact Int.pow_pos (by omega)
    have h1 : 0 ≤ x * p := Int.mul_nonneg hy.1 (by omega)
    have h2 : x * p ≤ 18446744073709551615 * p := Int.mul_le_mul_of_nonneg_right (by omega) (by omega)
    constructor
    · omega
    · have : p * 2 ^ 64 = 18446744073709551615 * p + p := by omega
      omega
/-- A difference word by word is a difference. -/
theorem val_subW (xs ys : List Int) (hx : Words xs) (hy : Words ys) (n m : Nat) (hm : m ≤ n) : valW (subS xs ys n) m = valW xs m - valW ys m + brw xs ys m * 2 ^ (64 * m) := by
  induction m with
  | zero => simp [valW, brw]
  | succ m ih =>
    have h0 := ih (by omega)
    have hxm := hx.at m
    have hym := hy.at m
    have hb := brw_bit xs ys m
    have e : at0 (subS xs ys n) m = subW xs ys m := by simp [subS, at0, show m < n by omega]
    simp only [valW, brw, e, h0]
    rw [show 64 * (m + 1) = 64 * m + 64 by omega, Int.pow_add]
    generalize (2 : Int) ^ (64 * m) = p
    have hd : subW xs ys m = at0 xs m - at0 ys m - brw xs ys m + bor (at0 xs m) (at0 ys m) (brw xs ys m) * 18446744073709551616 := by
      unfold subW bor
      split <;> omega
    rw [hd]
    grind
theorem brw_iff (xs ys : List Int) (hx : Words xs) (hy : Words ys) (n : Nat) : brw xs ys n = if valW xs n < valW ys n then 1 else 0 := by
  have h := val_subW xs ys hx hy n n (Nat.le_refl _)
  have hw : Words (subS xs ys n) := by
    intro x hx
    simp only [subS, List.mem_map] at hx
    obtain ⟨k, _, rfl⟩ := hx
    unfold subW
    omega
  have h1 := valW_lt (subS xs ys n) hw n
  have h2 := valW_lt xs hx n
  have h3 := valW_lt ys hy n
  have hb := brw_bit xs ys n
  generalize (2 : Int) ^ (64 * n) = p at *
  have : brw xs ys n = 0 ∨ brw xs ys n = 1 := by omega
  rcases this with e | e
  · rw [e] at h ⊢; rw [if_neg (by omega)]
  · rw [e] at h ⊢; rw [if_pos (by omega)]
end Go.Proofs.YtelppapkffjmpaaDoor
end
section
--@optional
namespace Go.Proofs.YtelppapkffjmpaaDoor
open Go.RowKit Go.Shelf
set_option linter.unusedVariables false
set_option maxRecDepth 8000

theorem loadS_words (za : List Int) (hb : Bytes za) (n : Nat) : Words (loadS za n) := by
  intro x hx
  simp only [loadS, List.mem_map] at hx
  obtain ⟨k, _, rfl⟩ := hx
  have := partW_lt za hb k 8 (Nat.le_refl _)
  simp only [Nat.reduceMul, Int.reducePow] at this
  exact this

end Go.Proofs.YtelppapkffjmpaaDoor
end
section
namespace Go.Proofs.YtelppapkffjmpaaDoor
open Go.RowKit Go.Shelf
set_option linter.unusedVariables false

/-- The n lowest words of a number. -/
def numW (n : Nat) (v : Int) : List Int := (List.range n).map fun j => v / 2 ^ (64 * j) % 18446744073709551616
theorem numW_words (n : Nat) (v : Int) : Words (numW n v) := by
  intro x hx
  simp only [numW, List.mem_map] at hx
  obtain ⟨j, _, rfl⟩ := hx
  omega
theorem numW_length (n : Nat) (v : Int) : (numW n v).length = n := by simp [numW]
theorem at0_numW (n : Nat) (v : Int) (j : Nat) (h : j < n) : at0 (numW n v) j = v / 2 ^ (64 * j) % 18446744073709551616 := by simp [numW, at0, h]
theorem pow_split (m : Nat) : (2 : Int) ^ (64 * (m + 1)) = 2 ^ (64 * m) * 18446744073709551616 := by rw [show 64 * (m + 1) = 64 * m + 64 by omega, Int.pow_add]; rfl
theorem pow_pos2 (m : Nat) : (0 : Int) < 2 ^ m := Int.pow_pos (by omega)
theorem valW_div (xs : List Int) (hx : Words xs) (n m : Nat) (h : m < n) : valW xs n / 2 ^ (64 * m) % 18446744073709551616 = at0 xs m := by
  induction n with
  | zero => omega
  | succ n ih =>
    have hp := pow_pos2 (64 * m)
    by_cases e : m = n
    · subst e
      have h1 := valW_lt xs hx m
      have h2 := hx.at m
      simp only [valW]
      rw [Int.add_mul_ediv_right _ _ (by omega), Int.ediv_eq_zero_of_lt h1.1 h1.2, Int.zero_add, Int.emod_eq_of_lt h2.1 h2.2]
    · have hmn : m < n := by omega
      rw [← ih hmn]
      simp only [valW]
      obtain ⟨d, rfl⟩ : ∃ d, n = m + 1 + d := ⟨n - m - 1, by omega⟩
      have e2 : (2 : Int) ^ (64 * (m + 1 + d)) = 2 ^ (64 * m) * (18446744073709551616 * 2 ^ (64 * d)) := by
        rw [show 64 * (m + 1 + d) = 64 * (m + 1) + 64 * d by omega, Int.pow_add, pow_split, Int.mul_assoc]
      rw [e2, show at0 xs (m + 1 + d) * (2 ^ (64 * m) * (18446744073709551616 * 2 ^ (64 * d))) = (at0 xs (m + 1 + d) * 2 ^ (64 * d) * 18446744073709551616) * 2 ^ (64 * m) by
        rw [← Int.mul_assoc, ← Int.mul_assoc, Int.mul_right_comm _ 18446744073709551616 _, Int.mul_right_comm _ (2 ^ (64 * m)) _, Int.mul_right_comm _ (2 ^ (64 * m)) _]]
      rw [Int.add_mul_ediv_right _ _ (by omega), Int.add_mul_emod_self_right]
theorem eq_numW (xs : List Int) (hx : Words xs) (n : Nat) (hl : xs.length = n) : xs = numW n (valW xs n) := by
  apply eq_of_all (by rw [numW_length, hl])
  intro j hj
  rw [at0_numW n _ j (by omega), valW_div xs hx n j (by omega)]
theorem valW_numW (n : Nat) (v : Int) (h0 : 0 ≤ v) : valW (numW n v) n = v % 2 ^ (64 * n) := by
  have : ∀ m, m ≤ n → valW (numW n v) m = v % 2 ^ (64 * m) := by
    intro m
    induction m with
    | zero => intro _; simp [valW]
    | succ m ih =>
      intro hm
      have hp := pow_pos2 (64 * m)
      simp only [valW]
      rw [ih (by omega), at0_numW n v m (by omega), pow_split]
      have h1 := Int.emod_add_mul_ediv v (2 ^ (64 * m))
      have h2 := Int.emod_add_mul_ediv v (2 ^ (64 * m) * 18446744073709551616)
      have h3 := Int.emod_add_mul_ediv (v / 2 ^ (64 * m)) 18446744073709551616
      have h4 : v / 2 ^ (64 * m) / 18446744073709551616 = v / (2 ^ (64 * m) * 18446744073709551616) := Int.ediv_ediv_of_nonneg (by omega)
      generalize (2 : Int) ^ (64 * m) = p at *
      rw [h4] at h3
      generalize v / (p * 18446744073709551616) = q at *
      generalize v / p % 18446744073709551616 = r at *
      generalize v % (p * 18446744073709551616) = s at *
      grind
  exact this n (Nat.le_refl _)
/-- A number's bit. -/
def bitW (xs : List Int) (j : Nat) : Int := at0 xs (j / 64) / 2 ^ (j % 64) % 2
theorem bitW_bit (xs : List Int) (j : Nat) : 0 ≤ bitW xs j ∧ bitW xs j ≤ 1 := by unfold bitW; omega
/-- The bit of a number is the bit of its words. -/
theorem bitW_val (xs : List Int) (hx : Words xs) (n j : Nat) (h : j < 64 * n) : bitW xs j = valW xs n / 2 ^ j % 2 := by
  unfold bitW
  have hm : j / 64 < n := by omega
  rw [← valW_div xs hx n (j / 64) hm]
  have e : (2 : Int) ^ j = 2 ^ (64 * (j / 64)) * 2 ^ (j % 64) := by rw [← Int.pow_add]; congr 1; omega
  rw [e, ← Int.ediv_ediv_of_nonneg (Int.le_of_lt (pow_pos2 _))]
  generalize valW xs n / 2 ^ (64 * (j / 64)) = y
  have hj : j % 64 < 64 := by omega
  generalize j % 64 = t at *
  have e2 : (18446744073709551616 : Int) = 2 ^ t * (2 * 2 ^ (63 - t)) := by
    rw [← Int.mul_assoc, Int.mul_comm (2 ^ t) 2, show (2 : Int) * 2 ^ t = 2 ^ (t + 1) by rw [Int.pow_succ, Int.mul_comm], ← Int.pow_add, show t + 1 + (63 - t) = 64 by omega]
    rfl
  have hp := pow_pos2 t
  have h1 := Int.emod_add_mul_ediv y 18446744073709551616
  conv => rhs; rw [← h1]
  rw [e2]
  generalize y / (2 ^ t * (2 * 2 ^ (63 - t))) = q
  generalize y % (2 ^ t * (2 * 2 ^ (63 - t))) = r
  rw [show r + 2 ^ t * (2 * 2 ^ (63 - t)) * q = r + (2 * (2 ^ (63 - t) * q)) * 2 ^ t by grind, Int.add_mul_ediv_right _ _ (by omega), Int.add_mul_emod_self_left]
theorem half_val (v : Int) (j : Nat) : v / 2 ^ j = 2 * (v / 2 ^ (j + 1)) + v / 2 ^ j % 2 := by
  have e : v / 2 ^ (j + 1) = v / 2 ^ j / 2 := by rw [Int.pow_succ, ← Int.ediv_ediv_of_nonneg (Int.le_of_lt (pow_pos2 j))]
  rw [e]
  omega
theorem subS_words (xs ys : List Int) (n : Nat) : Words (subS xs ys n) := by
  intro x hx
  simp only [subS, List.mem_map] at hx
  obtain ⟨m, _, rfl⟩ := hx
  unfold subW
  omega
theorem numW_val {v : Int} (h0 : 0 ≤ v) (h1 : v < 2 ^ 256) : valW (numW 4 v) 4 = v := by
  rw [valW_numW 4 v h0]
  simp only [Nat.reduceMul, Int.reducePow] at *
  omega
theorem numW_eq {xs : List Int} {v : Int} (hx : Words xs) (hl : xs.length = 4) (h : valW xs 4 = v) : xs = numW 4 v := by
  subst h
  exact eq_numW xs hx 4 hl
/-- A number's value, by its bytes. -/
def valB (zs : List Int) : Nat → Int
  | 0 => 0
  | m + 1 => valB zs m + at0 zs m * 2 ^ (8 * m)
theorem valB_lt (zs : List Int) (hz : Bytes zs) (m : Nat) : 0 ≤ valB zs m ∧ valB zs m < 2 ^ (8 * m) := by
  induction m with
  | zero => exact ⟨by simp [valB], by simp [valB]⟩
  | succ m ih =>
    have hy := hz.at m
    simp only [valB]
    rw [show 8 * (m + 1) = 8 * m + 8 by omega, Int.pow_add]
    generalize hp : (2 : Int) ^ (8 * m) = p at *
    generalize at0 zs m = x at *
    have hp0 : 0 < p := by rw [← hp]; exact Int.pow_pos (by omega)
    have h1 : 0 ≤ x * p := Int.mul_nonneg hy.1 (by omega)
    have h2 : x * p ≤ 255 * p := Int.mul_le_mul_of_nonneg_right (by omega) (by omega)
    constructor
    · omega
    · have : p * 2 ^ 8 = 255 * p + p := by omega
      omega
theorem valB_part (za : List Int) (j m : Nat) : valB za (8 * j + m) = valB za (8 * j) + partW za j m * 2 ^ (64 * j) := by
  induction m with
  | zero => simp [partW]
  | succ m ih =>
    rw [show 8 * j + (m + 1) = 8 * j + m + 1 by omega]
    simp only [valB, ih, partW]
    rw [show 8 * (8 * j + m) = 8 * m + 64 * j by omega, Int.pow_add]
    generalize (2 : Int) ^ (8 * m) = p
    generalize (2 : Int) ^ (64 * j) = q
    grind
theorem valW_load (za : List Int) (n j : Nat) (h : j ≤ n) : valW (loadS za n) j = valB za (8 * j) := by
  induction j with
  | zero => rfl
  | succ j ih =>
    have e : at0 (loadS za n) j = partW za j 8 := by simp [loadS, at0, show j < n by omega]
    rw [show 8 * (j + 1) = 8 * j + 8 by omega, valB_part]
    simp only [valW, ih (by omega), e]
theorem load_eq (za : List Int) (hz : Bytes za) (n : Nat) : loadS za n = numW n (valB za (8 * n)) := by
  have h := eq_numW (loadS za n) (loadS_words za hz n) n (by simp [loadS])
  rw [valW_load za n n (Nat.le_refl _)] at h
  exact h
theorem valB_32 (za : List Int) (hz : Bytes za) : 0 ≤ valB za 32 ∧ valB za 32 < 2 ^ 256 := valB_lt za hz 32
/-- The bytes of a number. -/
def numB (v : Int) : List Int := bytesS (numW 4 v) 32
theorem ref_bytes_v (v : Int) (w : World) : Calls Tryd.prog 23 #[aggI .u64 (numW 4 v)] w fun e w' => e = .returned (aggI .u8 (numB v)) ∧ Below w.heap.size w w' := ref_bytes_any (numW 4 v) w (numW_words _ _) (numW_length _ _)
theorem numB_length (v : Int) : (numB v).length = 32 := by simp [numB, bytesS]
theorem numB_bytes (v : Int) : Bytes (numB v) := by
  intro x hx
  simp only [numB, bytesS, List.mem_map] at hx
  obtain ⟨k, _, rfl⟩ := hx
  unfold wbyte
  omega
theorem at0_numB (v : Int) (j : Nat) (h : j < 32) : at0 (numB v) j = v / 2 ^ (8 * j) % 256 := by
  have e : at0 (numB v) j = wbyte (numW 4 v) j := by simp [numB, bytesS, at0, h]
  rw [e, wbyte, at0_numW 4 v _ (by omega)]
  have e2 : (2 : Int) ^ (8 * j) = 2 ^ (64 * (j / 8)) * 2 ^ (8 * (j % 8)) := by rw [← Int.pow_add]; congr 1; omega
  rw [e2, ← Int.ediv_ediv_of_nonneg (Int.le_of_lt (pow_pos2 _))]
  generalize v / 2 ^ (64 * (j / 8)) = y
  have hj : j % 8 < 8 := by omega
  generalize j % 8 = t at *
  obtain rfl | rfl | rfl | rfl | rfl | rfl | rfl | rfl : t = 0 ∨ t = 1 ∨ t = 2 ∨ t = 3 ∨ t = 4 ∨ t = 5 ∨ t = 6 ∨ t = 7 := by omega
  all_goals (simp only [Nat.reduceMul, Int.reducePow]; omega)
theorem valB_numB (v : Int) (h0 : 0 ≤ v) (h1 : v < 2 ^ 256) : valB (numB v) 32 = v := by
  have : ∀ m, m ≤ 32 → valB (numB v) m = v % 2 ^ (8 * m) := by
    intro m
    induction m with
    | zero => intro _; simp [valB]
    | succ m ih =>
      intro hm
      have hp := pow_pos2 (8 * m)
      simp only [valB]
      rw [ih (by omega), at0_numB v m (by omega), show 8 * (m + 1) = 8 * m + 8 by omega, Int.pow_add, show (2 : Int) ^ 8 = 256 from rfl]
      have h1 := Int.emod_add_mul_ediv v (2 ^ (8 * m))
      have h2 := Int.emod_add_mul_ediv v (2 ^ (8 * m) * 256)
      have h3 := Int.emod_add_mul_ediv (v / 2 ^ (8 * m)) 256
      have h4 : v / 2 ^ (8 * m) / 256 = v / (2 ^ (8 * m) * 256) := Int.ediv_ediv_of_nonneg (by omega)
      generalize (2 : Int) ^ (8 * m) = p at *
      rw [h4] at h3
      generalize v / (p * 256) = q at *
      generalize v / p % 256 = r at *
      generalize v % (p * 256) = s at *
      grind
  rw [this 32 (Nat.le_refl _)]
  simp only [Nat.reduceMul, Int.reducePow] at *
  omega
theorem numB_inj {u v : Int} (hu : 0 ≤ u ∧ u < 2 ^ 256) (hv : 0 ≤ v ∧ v < 2 ^ 256) (h : numB u = numB v) : u = v := by
  rw [← valB_numB u hu.1 hu.2, h, valB_numB v hv.1 hv.2]
/-- A bit of a number of bytes. -/
def bitB (zs : List Int) (j : Nat) : Int := at0 zs (j / 8) / 2 ^ (j % 8) % 2
theorem bitB_bit (zs : List Int) (j : Nat) : bitB zs j = 0 ∨ bitB zs j = 1 := by unfold bitB; omega
theorem bitB_val (zs : List Int) (hz : Bytes zs) (n j : Nat) (h : j < 8 * n) : bitB zs j = valB zs n / 2 ^ j % 2 := by
  have key : ∀ n, j / 8 < n → valB zs n / 2 ^ (8 * (j / 8)) % 256 = at0 zs (j / 8) := by
    intro n
    induction n with
    | zero => omega
    | succ n ih =>
      intro hn
      have hp := pow_pos2 (8 * (j / 8))
      by_cases e : j / 8 = n
      · have h1 := valB_lt zs hz n
        have h2 := hz.at n
        subst e
        simp only [valB]
        rw [Int.add_mul_ediv_right _ _ (by omega), Int.ediv_eq_zero_of_lt h1.1 h1.2, Int.zero_add, Int.emod_eq_of_lt h2.1 (by omega)]
      · rw [← ih (by omega)]
        simp only [valB]
        obtain ⟨d, hd⟩ : ∃ d, n = j / 8 + 1 + d := ⟨n - j / 8 - 1, by omega⟩
        have e2 : (2 : Int) ^ (8 * n) = 2 ^ (8 * (j / 8)) * (256 * 2 ^ (8 * d)) := by
          rw [show (256 : Int) = 2 ^ 8 from rfl, ← Int.pow_add, ← Int.pow_add]; congr 1; omega
        rw [e2]
        generalize at0 zs n = x
        generalize (2 : Int) ^ (8 * d) = q
        generalize (2 : Int) ^ (8 * (j / 8)) = p at *
        rw [show x * (p * (256 * q)) = (x * q * 256) * p by grind, Int.add_mul_ediv_right _ _ (by omega), Int.add_mul_emod_self_right]
  unfold bitB
  rw [← key n (by omega)]
  have e : (2 : Int) ^ j = 2 ^ (8 * (j / 8)) * 2 ^ (j % 8) := by rw [← Int.pow_add]; congr 1; omega
  rw [e, ← Int.ediv_ediv_of_nonneg (Int.le_of_lt (pow_pos2 _))]
  generalize valB zs n / 2 ^ (8 * (j / 8)) = y
  have hj : j % 8 < 8 := by omega
  generalize j % 8 = t at *
  obtain rfl | rfl | rfl | rfl | rfl | rfl | rfl | rfl : t = 0 ∨ t = 1 ∨ t = 2 ∨ t = 3 ∨ t = 4 ∨ t = 5 ∨ t = 6 ∨ t = 7 := by omega
  all_goals (simp only [Int.reducePow]; omega)
theorem u8_and_one {x : Int} (h : 0 ≤ x ∧ x ≤ 255) : bits BinOp.and IntKind.u8 x 1 = x % 2 := byte_of (p := fun y => bits BinOp.and IntKind.u8 y 1 = y % 2) (by decide +kernel) h
theorem byte_shift {x : Int} (h : 0 ≤ x ∧ x ≤ 255) (t : Nat) : 0 ≤ x / 2 ^ t ∧ x / 2 ^ t ≤ 255 := by
  have h1 : 0 ≤ x / 2 ^ t := Int.ediv_nonneg h.1 (Int.le_of_lt (pow_pos2 _))
  have h2 : x / 2 ^ t ≤ x := Int.ediv_le_self _ h.1
  omega
end Go.Proofs.YtelppapkffjmpaaDoor
end
