/- Numbers of five limbs: what they stand for, modulo 2^255 - 19. No program stands here. -/
import Derived.Test.YtlhloldjlfcchaaDoorLoadA
namespace Go.Proofs.YtlhloldjlfcchaaDoor
open Go.RowKit
set_option linter.unusedVariables false

/-- The modulus. -/
def pV : Int := 57896044618658097711785492504343953926634992332820282019728792003956564819949
/-- What limbs stand for. -/
def valL (xs : List Int) : Int := at0 xs 0 + at0 xs 1 * 2 ^ 51 + at0 xs 2 * 2 ^ 102 + at0 xs 3 * 2 ^ 153 + at0 xs 4 * 2 ^ 204
/-- Limbs a little above 51 bits at most. -/
def Small (xs : List Int) : Prop := ∀ k, 0 ≤ at0 xs k ∧ at0 xs k < 2251799814209536
theorem words_of5 {a b c d e : Int} (ha : 0 ≤ a ∧ a < 18446744073709551616) (hb : 0 ≤ b ∧ b < 18446744073709551616) (hc : 0 ≤ c ∧ c < 18446744073709551616) (hd : 0 ≤ d ∧ d < 18446744073709551616) (he : 0 ≤ e ∧ e < 18446744073709551616) : Words [a, b, c, d, e] := by
  intro x hx
  simp only [List.mem_cons, List.not_mem_nil, or_false] at hx
  rcases hx with rfl | rfl | rfl | rfl | rfl <;> assumption
theorem small_of5 {a b c d e : Int} (ha : 0 ≤ a ∧ a < 2251799814209536) (hb : 0 ≤ b ∧ b < 2251799814209536) (hc : 0 ≤ c ∧ c < 2251799814209536) (hd : 0 ≤ d ∧ d < 2251799814209536) (he : 0 ≤ e ∧ e < 2251799814209536) : Small [a, b, c, d, e] := by
  intro k
  match k with
  | 0 => exact ha
  | 1 => exact hb
  | 2 => exact hc
  | 3 => exact hd
  | 4 => exact he
  | k + 5 => exact ⟨by simp [at0], by simp [at0]⟩
theorem Small.words {xs : List Int} (h : Small xs) : Words xs := fun x hx => by
  obtain ⟨i, hi, rfl⟩ := List.getElem_of_mem hx
  have := h i
  rw [at0_lt hi] at this
  omega
/-- A number modulo p, as five limbs. -/
structure Fel (xs : List Int) (v : Int) : Prop where
  len : xs.length = 5
  small : Small xs
  val : valL xs % pV = v
theorem Fel.words {xs : List Int} {v : Int} (h : Fel xs v) : Words xs := h.small.words
theorem pV_mod (v : Int) : 0 ≤ v % pV ∧ v % pV < pV := by unfold pV; omega

theorem sub_mul_mod (v k : Int) : (v - k * pV) % pV = v % pV := by
  rw [show v - k * pV = v + (-k) * pV by rw [Int.neg_mul]; rfl, Int.add_mul_emod_self_right]
def carriedS (x : List Int) : List Int :=
  [at0 x 0 % 2251799813685248 + at0 x 4 / 2251799813685248 * 19, at0 x 1 % 2251799813685248 + at0 x 0 / 2251799813685248, at0 x 2 % 2251799813685248 + at0 x 1 / 2251799813685248,
   at0 x 3 % 2251799813685248 + at0 x 2 / 2251799813685248, at0 x 4 % 2251799813685248 + at0 x 3 / 2251799813685248]
theorem carried_fel (x : List Int) (hx : Words x) : Fel (carriedS x) (valL x % pV) := by
  have h0 := hx.at 0; have h1 := hx.at 1; have h2 := hx.at 2; have h3 := hx.at 3; have h4 := hx.at 4
  refine ⟨rfl, small_of5 (by omega) (by omega) (by omega) (by omega) (by omega), ?_⟩
  have e : valL (carriedS x) = valL x - at0 x 4 / 2251799813685248 * pV := by
    unfold pV
    simp only [valL, carriedS, at0_cons_zero, at0_cons_succ, Int.reducePow]
    omega
  rw [e, sub_mul_mod]
def plusL (x y : List Int) : List Int := [at0 x 0 + at0 y 0, at0 x 1 + at0 y 1, at0 x 2 + at0 y 2, at0 x 3 + at0 y 3, at0 x 4 + at0 y 4]
theorem plusL_words {x y : List Int} (hx : Small x) (hy : Small y) : Words (plusL x y) := by
  have h0 := hx 0; have h1 := hx 1; have h2 := hx 2; have h3 := hx 3; have h4 := hx 4
  have g0 := hy 0; have g1 := hy 1; have g2 := hy 2; have g3 := hy 3; have g4 := hy 4
  exact words_of5 (by omega) (by omega) (by omega) (by omega) (by omega)
theorem plus_fel {x y : List Int} {u v : Int} (hx : Fel x u) (hy : Fel y v) : Fel (carriedS (plusL x y)) ((u + v) % pV) := by
  have h := carried_fel _ (plusL_words hx.small hy.small)
  have e : valL (plusL x y) = valL x + valL y := by
    simp only [valL, plusL, at0_cons_zero, at0_cons_succ, Int.reducePow]
    omega
  rw [e, Int.add_emod, hx.val, hy.val] at h
  exact h
def minusL (x y : List Int) : List Int := [at0 x 0 + (4503599627370458 - at0 y 0), at0 x 1 + (4503599627370494 - at0 y 1), at0 x 2 + (4503599627370494 - at0 y 2), at0 x 3 + (4503599627370494 - at0 y 3), at0 x 4 + (4503599627370494 - at0 y 4)]
theorem minusL_words {x y : List Int} (hx : Small x) (hy : Small y) : Words (minusL x y) := by
  have h0 := hx 0; have h1 := hx 1; have h2 := hx 2; have h3 := hx 3; have h4 := hx 4
  have g0 := hy 0; have g1 := hy 1; have g2 := hy 2; have g3 := hy 3; have g4 := hy 4
  exact words_of5 (by omega) (by omega) (by omega) (by omega) (by omega)
theorem minus_fel {x y : List Int} {u v : Int} (hx : Fel x u) (hy : Fel y v) : Fel (carriedS (minusL x y)) ((u - v) % pV) := by
  have h := carried_fel _ (minusL_words hx.small hy.small)
  have e : valL (minusL x y) = valL x - valL y + 2 * pV := by
    unfold pV
    simp only [valL, minusL, at0_cons_zero, at0_cons_succ, Int.reducePow]
    omega
  rw [e, Int.add_mul_emod_self_right, Int.sub_emod, hx.val, hy.val] at h
  exact h
/-- The five sums of products. -/
def prodR (x y : List Int) : Nat → Int
  | 0 => at0 x 0 * at0 y 0 + at0 x 1 * 19 * at0 y 4 + at0 x 2 * 19 * at0 y 3 + at0 x 3 * 19 * at0 y 2 + at0 x 4 * 19 * at0 y 1
  | 1 => at0 x 0 * at0 y 1 + at0 x 1 * at0 y 0 + at0 x 2 * 19 * at0 y 4 + at0 x 3 * 19 * at0 y 3 + at0 x 4 * 19 * at0 y 2
  | 2 => at0 x 0 * at0 y 2 + at0 x 1 * at0 y 1 + at0 x 2 * at0 y 0 + at0 x 3 * 19 * at0 y 4 + at0 x 4 * 19 * at0 y 3
  | 3 => at0 x 0 * at0 y 3 + at0 x 1 * at0 y 2 + at0 x 2 * at0 y 1 + at0 x 3 * at0 y 0 + at0 x 4 * 19 * at0 y 4
  | _ => at0 x 0 * at0 y 4 + at0 x 1 * at0 y 3 + at0 x 2 * at0 y 2 + at0 x 3 * at0 y 1 + at0 x 4 * at0 y 0
theorem prod_id (x0 x1 x2 x3 x4 y0 y1 y2 y3 y4 b : Int) :
    (x0 + x1 * b + x2 * (b * b) + x3 * (b * b * b) + x4 * (b * b * b * b)) * (y0 + y1 * b + y2 * (b * b) + y3 * (b * b * b) + y4 * (b * b * b * b)) =
    (x0 * y0 + x1 * 19 * y4 + x2 * 19 * y3 + x3 * 19 * y2 + x4 * 19 * y1) + (x0 * y1 + x1 * y0 + x2 * 19 * y4 + x3 * 19 * y3 + x4 * 19 * y2) * b + (x0 * y2 + x1 * y1 + x2 * y0 + x3 * 19 * y4 + x4 * 19 * y3) * (b * b) +
    (x0 * y3 + x1 * y2 + x2 * y1 + x3 * y0 + x4 * 19 * y4) * (b * b * b) + (x0 * y4 + x1 * y3 + x2 * y2 + x3 * y1 + x4 * y0) * (b * b * b * b) +
    (b * b * b * b * b - 19) * (x1 * y4 + x2 * y3 + x3 * y2 + x4 * y1 + (x2 * y4 + x3 * y3 + x4 * y2) * b + (x3 * y4 + x4 * y3) * (b * b) + x4 * y4 * (b * b * b)) := by grind
def prodV (x y : List Int) : Int := prodR x y 0 + prodR x y 1 * 2 ^ 51 + prodR x y 2 * 2 ^ 102 + prodR x y 3 * 2 ^ 153 + prodR x y 4 * 2 ^ 204
theorem prodV_val (x y : List Int) : prodV x y % pV = (valL x * valL y) % pV := by
  have h := prod_id (at0 x 0) (at0 x 1) (at0 x 2) (at0 x 3) (at0 x 4) (at0 y 0) (at0 y 1) (at0 y 2) (at0 y 3) (at0 y 4) 2251799813685248
  have e1 : (2251799813685248 : Int) * 2251799813685248 = 2 ^ 102 := by decide +kernel
  have e2 : (2251799813685248 : Int) * 2251799813685248 * 2251799813685248 = 2 ^ 153 := by decide +kernel
  have e3 : (2251799813685248 : Int) * 2251799813685248 * 2251799813685248 * 2251799813685248 = 2 ^ 204 := by decide +kernel
  have e4 : (2251799813685248 : Int) * 2251799813685248 * 2251799813685248 * 2251799813685248 * 2251799813685248 - 19 = pV := by decide +kernel
  rw [e4, e3, e2, e1] at h
  have e : valL x * valL y = prodV x y + pV * (at0 x 1 * at0 y 4 + at0 x 2 * at0 y 3 + at0 x 3 * at0 y 2 + at0 x 4 * at0 y 1 + (at0 x 2 * at0 y 4 + at0 x 3 * at0 y 3 + at0 x 4 * at0 y 2) * 2251799813685248 + (at0 x 3 * at0 y 4 + at0 x 4 * at0 y 3) * 2 ^ 102 + at0 x 4 * at0 y 4 * 2 ^ 153) := h
  rw [e, Int.add_mul_emod_self_left]
theorem mul_bound {a b A B : Int} (ha : 0 ≤ a ∧ a < A) (hb : 0 ≤ b ∧ b < B) : 0 ≤ a * b ∧ a * b ≤ A * B := ⟨Int.mul_nonneg ha.1 hb.1, Int.mul_le_mul (by omega) (by omega) hb.1 (by omega)⟩
theorem small_mul {x y : List Int} (hx : Small x) (hy : Small y) (i j : Nat) : 0 ≤ at0 x i * at0 y j ∧ at0 x i * at0 y j ≤ 5070602403274100847696513335296 := by
  have h := mul_bound (hx i) (hy j)
  refine ⟨h.1, Int.le_trans h.2 (by decide)⟩
/-- The limbs ahead of the carry. -/
def timesL (x y : List Int) : List Int :=
  [prodR x y 0 % 2251799813685248 + prodR x y 4 / 2251799813685248 * 19, prodR x y 1 % 2251799813685248 + prodR x y 0 / 2251799813685248, prodR x y 2 % 2251799813685248 + prodR x y 1 / 2251799813685248,
   prodR x y 3 % 2251799813685248 + prodR x y 2 / 2251799813685248, prodR x y 4 % 2251799813685248 + prodR x y 3 / 2251799813685248]
theorem prodR_bound {x y : List Int} (hx : Small x) (hy : Small y) (k : Nat) : 0 ≤ prodR x y k ∧ prodR x y k ≤ 77 * 5070602403274100847696513335296 := by
  have m := small_mul hx hy
  have c : ∀ i j, at0 x i * 19 * at0 y j = at0 x i * at0 y j * 19 := fun i j => by rw [Int.mul_right_comm]
  match k with
  | 0 => have := m 0 0; have := m 1 4; have := m 2 3; have := m 3 2; have := m 4 1; simp only [prodR, c]; omega
  | 1 => have := m 0 1; have := m 1 0; have := m 2 4; have := m 3 3; have := m 4 2; simp only [prodR, c]; omega
  | 2 => have := m 0 2; have := m 1 1; have := m 2 0; have := m 3 4; have := m 4 3; simp only [prodR, c]; omega
  | 3 => have := m 0 3; have := m 1 2; have := m 2 1; have := m 3 0; have := m 4 4; simp only [prodR, c]; omega
  | k + 4 => have := m 0 4; have := m 1 3; have := m 2 2; have := m 3 1; have := m 4 0; simp only [prodR]; omega
theorem prodR_bound4 {x y : List Int} (hx : Small x) (hy : Small y) : prodR x y 4 ≤ 5 * 5070602403274100847696513335296 := by
  have m := small_mul hx hy
  have := m 0 4; have := m 1 3; have := m 2 2; have := m 3 1; have := m 4 0; simp only [prodR]; omega
theorem timesL_words {x y : List Int} (hx : Small x) (hy : Small y) : Words (timesL x y) := by
  have h0 := prodR_bound hx hy 0; have h1 := prodR_bound hx hy 1; have h2 := prodR_bound hx hy 2; have h3 := prodR_bound hx hy 3; have h4 := prodR_bound hx hy 4
  have h5 := prodR_bound4 hx hy
  exact words_of5 (by omega) (by omega) (by omega) (by omega) (by omega)
theorem times_fel {x y : List Int} {u v : Int} (hx : Fel x u) (hy : Fel y v) : Fel (carriedS (timesL x y)) ((u * v) % pV) := by
  have h := carried_fel _ (timesL_words hx.small hy.small)
  have e : valL (timesL x y) = prodV x y - prodR x y 4 / 2251799813685248 * pV := by
    unfold pV prodV
    simp only [valL, timesL, at0_cons_zero, at0_cons_succ, Int.reducePow]
    generalize prodR x y 0 = r0
    generalize prodR x y 1 = r1
    generalize prodR x y 2 = r2
    generalize prodR x y 3 = r3
    generalize prodR x y 4 = r4
    omega
  rw [e, sub_mul_mod, prodV_val, Int.mul_emod, hx.val, hy.val] at h
  exact h
end Go.Proofs.YtlhloldjlfcchaaDoor
