/- Merged: The reference's fold. The reference's fold, walked. Products, word by word (the same as in XTimA, seat c), and a row of the reference's product. The reference's product. The reference's product of bytes. The reference's powers: Take. The reference's inverses and powers. -/
import Derived.Test.YtelppapkffjmpaaDoorQMD
section
namespace Go.Proofs.YtelppapkffjmpaaDoor
open Go.RowKit Go.Shelf
set_option linter.unusedVariables false
set_option maxRecDepth 8000

end Go.Proofs.YtelppapkffjmpaaDoor
end
section
namespace Go.Proofs.YtelppapkffjmpaaDoor
open Go.RowKit Go.Shelf
set_option linter.unusedVariables false
set_option maxRecDepth 8000

end Go.Proofs.YtelppapkffjmpaaDoor
end
section
namespace Go.Proofs.YtelppapkffjmpaaDoor
open Go.RowKit Go.Shelf
set_option linter.unusedVariables false

theorem valW_set (zs : List Int) (k : Nat) (x : Int) (hk : k < zs.length) (n : Nat) : valW (zs.set k x) n = valW zs n + (if k < n then (x - at0 zs k) * 2 ^ (64 * k) else 0) := by
  induction n with
  | zero => simp [valW]
  | succ n ih =>
    simp only [valW, ih, at0_set zs k n x hk]
    by_cases e : n = k
    · subst e
      rw [if_neg (Nat.lt_irrefl _), if_pos rfl, if_pos (by omega)]
      generalize (2 : Int) ^ (64 * n) = p
      grind
    · rw [if_neg e]
      by_cases h : k < n
      · rw [if_pos h, if_pos (by omega)]; omega
      · rw [if_neg h, if_neg (by omega)]; omega
theorem Words.set {zs : List Int} (h : Words zs) (k : Nat) {x : Int} (hx : 0 ≤ x ∧ x < 18446744073709551616) : Words (zs.set k x) := fun y hy => by
  rcases List.mem_or_eq_of_mem_set hy with h1 | h1
  · exact h y h1
  · exact h1 ▸ hx
/-- A product of words, and two words more. -/
theorem mul_words {x y p c : Int} (hx : 0 ≤ x ∧ x < 18446744073709551616) (hy : 0 ≤ y ∧ y < 18446744073709551616) : 0 ≤ x * y ∧ x * y ≤ 340282366920938463426481119284349108225 := by
  refine ⟨Int.mul_nonneg hx.1 hy.1, ?_⟩
  have h1 : x * y ≤ 18446744073709551615 * y := Int.mul_le_mul_of_nonneg_right (by omega) hy.1
  omega
/-- The numbers that one step makes: of a product m, a word p of the sum, and what is carried. -/
theorem mul_step (x y p c : Int) (hx : 0 ≤ x ∧ x < 18446744073709551616) (hy : 0 ≤ y ∧ y < 18446744073709551616) (hp : 0 ≤ p ∧ p < 18446744073709551616) (hc : 0 ≤ c ∧ c < 18446744073709551616) :
    ∃ h l l1 o1 h1 l2 o2 c2 : Int, (∀ w, Calls Tryd.prog 77 #[.int .u64 x, .int .u64 y] w fun e w' => e = .returned (.tuple #[.int .u64 h, .int .u64 l]) ∧ w' = w) ∧
      (∀ w, (callFunc 78 #[.int .u64 l, .int .u64 p, .int .u64 0]).run Tryd.prog w = .ok (.value (.tuple #[.int .u64 l1, .int .u64 o1])) w) ∧ IntKind.u64.wrap (h + o1) = h1 ∧
      (∀ w, (callFunc 78 #[.int .u64 l1, .int .u64 c, .int .u64 0]).run Tryd.prog w = .ok (.value (.tuple #[.int .u64 l2, .int .u64 o2])) w) ∧ IntKind.u64.wrap (h1 + o2) = c2 ∧
      (0 ≤ l2 ∧ l2 < 18446744073709551616) ∧ (0 ≤ c2 ∧ c2 < 18446744073709551616) ∧ l2 + c2 * 18446744073709551616 = x * y + p + c := by
  have hm := mul_words (p := p) (c := c) hx hy
  have hM : ∀ w, Calls Tryd.prog 77 #[.int .u64 x, .int .u64 y] w fun e w' => e = .returned (.tuple #[.int .u64 (x * y / 18446744073709551616), .int .u64 (x * y % 18446744073709551616)]) ∧ w' = w := by
    intro w
    obtain ⟨a, rfl⟩ := Int.eq_ofNat_of_zero_le hx.1
    obtain ⟨b, rfl⟩ := Int.eq_ofNat_of_zero_le hy.1
    exact Tryd.bits_Mul64 a b (by omega) (by omega) w
  generalize x * y = m at *
  refine ⟨_, _, _, _, _, _, _, _, hM, fun w => add64_run (m % 18446744073709551616) p 0 (by omega) hp.1 (by omega) (by omega) w, rfl, fun w => add64_run ((m % 18446744073709551616 + p + 0) % 18446744073709551616) c 0 (by omega) hc.1 (by omega) (by omega) w, rfl, ?_, ?_, ?_⟩
  · omega
  · rw [wrap_u64_eq, wrap_u64_eq]; omega
  · rw [wrap_u64_eq, wrap_u64_eq]; omega
theorem add_step (p c : Int) (hp : 0 ≤ p ∧ p < 18446744073709551616) (hc : 0 ≤ c ∧ c < 18446744073709551616) :
    ∃ l c2 : Int, (∀ w, (callFunc 78 #[.int .u64 p, .int .u64 c, .int .u64 0]).run Tryd.prog w = .ok (.value (.tuple #[.int .u64 l, .int .u64 c2])) w) ∧
      (0 ≤ l ∧ l < 18446744073709551616) ∧ (0 ≤ c2 ∧ c2 < 18446744073709551616) ∧ l + c2 * 18446744073709551616 = p + c := by
  refine ⟨_, _, fun w => add64_run p c 0 hp.1 hc.1 (by omega) (by omega) w, ?_, ?_, ?_⟩ <;> omega
/-- One step of a row: its word, and what is carried. -/
theorem row_step (ps xs ys : List Int) (k j : Nat) (p0 c l c2 : Int) (hl : ps.length = 8) (hk : k < 4) (hj : j < 4)
    (h : valW ps 8 + c * 2 ^ (64 * (k + j)) = p0 + at0 xs k * valW ys j * 2 ^ (64 * k)) (he : l + c2 * 18446744073709551616 = at0 xs k * at0 ys j + at0 ps (k + j) + c) :
    valW (ps.set (k + j) l) 8 + c2 * 2 ^ (64 * (k + (j + 1))) = p0 + at0 xs k * valW ys (j + 1) * 2 ^ (64 * k) := by
  rw [valW_set ps (k + j) l (by omega), if_pos (by omega), show k + (j + 1) = k + j + 1 by omega, pow_split, valW.eq_2 ys j]
  rw [show 64 * (k + j) = 64 * k + 64 * j by omega, Int.pow_add] at *
  generalize (2 : Int) ^ (64 * k) = p at *
  generalize (2 : Int) ^ (64 * j) = q at *
  generalize valW ps 8 = v at *
  generalize valW ys j = u at *
  generalize at0 ps (k + j) = a at *
  generalize at0 ys j = b at *
  generalize at0 xs k = x at *
  clear hl hk hj
  grind
end Go.Proofs.YtelppapkffjmpaaDoor
end
section
namespace Go.Proofs.YtelppapkffjmpaaDoor
open Go.RowKit Go.Shelf
set_option linter.unusedVariables false
set_option maxRecDepth 8000

end Go.Proofs.YtelppapkffjmpaaDoor
end
section
--@optional
namespace Go.Proofs.YtelppapkffjmpaaDoor
open Go.RowKit Go.Shelf
set_option linter.unusedVariables false
set_option maxRecDepth 8000

end Go.Proofs.YtelppapkffjmpaaDoor
end
section
namespace Go.Proofs.YtelppapkffjmpaaDoor
open Go.RowKit Go.Shelf
set_option linter.unusedVariables false
set_option maxRecDepth 8000

end Go.Proofs.YtelppapkffjmpaaDoor
end
section
--@optional
namespace Go.Proofs.YtelppapkffjmpaaDoor
open Go.RowKit Go.Shelf
set_option linter.unusedVariables false
set_option maxRecDepth 8000

end Go.Proofs.YtelppapkffjmpaaDoor
end
