/- The order, whether a number is below another, and what is reduced. -/
--@optional
import Derived.Test.YtlhloldjlfcchaaDoorSubA
namespace Go.Proofs.YtlhloldjlfcchaaDoor
open Go.RowKit Go.Shelf
set_option linter.unusedVariables false

/-- The order's words. -/
def ordL : List Int := [6346243789798364141, 1503914060200516822, 0, 1152921504606846976]
theorem ordL_words : Words ordL := by unfold Words; decide
/-- A number of words, the lowest first. -/
def valW (xs : List Int) : Nat → Int
  | 0 => 0
  | m + 1 => valW xs m + at0 xs m * 2 ^ (64 * m)
theorem valW_lt (xs : List Int) (hx : Words xs) (m : Nat) : 0 ≤ valW xs m ∧ valW xs m < 2 ^ (64 * m) := by
  induction m with
  | zero => exact ⟨by simp [valW], by simp [valW]⟩
  | succ m ih =>
    have hy := hx.at m
    simp only [valW]
    rw [show 64 * (m + 1) = 64 * m + 64 by omega, Int.pow_add]
    generalize hp : (2 : Int) ^ (64 * m) = p at *
    generalize at0 xs m = x at *
    have hp0 : 0 < p := by rw [← hp]; exact Int.pow_pos (by omega)
    have h1 : 0 ≤ x * p := Int.mul_nonneg hy.1 (by omega)
    have h2 : x * p ≤ 18446744073709551615 * p := Int.mul_le_mul_of_nonneg_right (by omega) (by omega)
    constructor
    · omega
    · have : p * 2 ^ 64 = 18446744073709551615 * p + p := by omega
      omega
/-- A difference word by word is a difference. -/
theorem val_subW (xs ys : List Int) (hx : Words xs) (hy : Words ys) (n m : Nat) (hm : m ≤ n) : valW (subS xs ys n) m = valW xs m - valW ys m + brw xs ys m * 2 ^ (64 * m) := by
  induction m with
  | zero => simp [valW, brw]
  | succ m ih =>
    have h0 := ih (by omega)
    have hxm := hx.at m
    have hym := hy.at m
    have hb := brw_bit xs ys m
    have e : at0 (subS xs ys n) m = subW xs ys m := by simp [subS, at0, show m < n by omega]
    simp only [valW, brw, e, h0]
    rw [show 64 * (m + 1) = 64 * m + 64 by omega, Int.pow_add]
    generalize (2 : Int) ^ (64 * m) = p
    have hd : subW xs ys m = at0 xs m - at0 ys m - brw xs ys m + bor (at0 xs m) (at0 ys m) (brw xs ys m) * 18446744073709551616 := by
      unfold subW bor
      split <;> omega
    rw [hd]
    grind
theorem val_addW (xs ys : List Int) (hx : Words xs) (hy : Words ys) (n m : Nat) (hm : m ≤ n) : valW (addS xs ys n) m + crw xs ys m * 2 ^ (64 * m) = valW xs m + valW ys m := by
  induction m with
  | zero => simp [valW, crw]
  | succ m ih =>
    have h0 := ih (by omega)
    have e : at0 (addS xs ys n) m = addW xs ys m := by simp [addS, at0, show m < n by omega]
    simp only [valW, crw, e]
    rw [show 64 * (m + 1) = 64 * m + 64 by omega, Int.pow_add]
    generalize (2 : Int) ^ (64 * m) = p at *
    have hd : addW xs ys m + (at0 xs m + at0 ys m + crw xs ys m) / 18446744073709551616 * 18446744073709551616 = at0 xs m + at0 ys m + crw xs ys m := by
      unfold addW
      omega
    grind
theorem brw_iff (xs ys : List Int) (hx : Words xs) (hy : Words ys) (n : Nat) : brw xs ys n = if valW xs n < valW ys n then 1 else 0 := by
  have h := val_subW xs ys hx hy n n (Nat.le_refl _)
  have hw : Words (subS xs ys n) := by
    intro x hx
    simp only [subS, List.mem_map] at hx
    obtain ⟨k, _, rfl⟩ := hx
    unfold subW
    omega
  have h1 := valW_lt (subS xs ys n) hw n
  have h2 := valW_lt xs hx n
  have h3 := valW_lt ys hy n
  have hb := brw_bit xs ys n
  generalize (2 : Int) ^ (64 * n) = p at *
  have : brw xs ys n = 0 ∨ brw xs ys n = 1 := by omega
  rcases this with e | e
  · rw [e] at h ⊢; rw [if_neg (by omega)]
  · rw [e] at h ⊢; rw [if_pos (by omega)]
end Go.Proofs.YtlhloldjlfcchaaDoor
