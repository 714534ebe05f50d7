/- Numbers of words: products, word by word. -/
import Derived.Test.YteocdjgdljfpdaaRedA
import Derived.Test.YteocdjgdljfpdaaShelf
namespace Go.Proofs.Yteocdjgdljfpdaa
open Go.RowKit Go.Shelf
set_option linter.unusedVariables false

theorem valW_set (zs : List Int) (k : Nat) (x : Int) (hk : k < zs.length) (n : Nat) : valW (zs.set k x) n = valW zs n + (if k < n then (x - at0 zs k) * 2 ^ (64 * k) else 0) := by
  induction n with
  | zero => simp [valW]
  | succ n ih =>
    simp only [valW, ih, at0_set zs k n x hk]
    by_cases e : n = k
    · subst e
      rw [if_neg (Nat.lt_irrefl _), if_pos rfl, if_pos (by omega)]
      generalize (2 : Int) ^ (64 * n) = p
      grind
    · rw [if_neg e]
      by_cases h : k < n
      · rw [if_pos h, if_pos (by omega)]; omega
      · rw [if_neg h, if_neg (by omega)]; omega
theorem Words.set {zs : List Int} (h : Words zs) (k : Nat) {x : Int} (hx : 0 ≤ x ∧ x < 18446744073709551616) : Words (zs.set k x) := fun y hy => by
  rcases List.mem_or_eq_of_mem_set hy with h1 | h1
  · exact h y h1
  · exact h1 ▸ hx
/-- A product of words, and two words more. -/
theorem mul_words {x y p c : Int} (hx : 0 ≤ x ∧ x < 18446744073709551616) (hy : 0 ≤ y ∧ y < 18446744073709551616) : 0 ≤ x * y ∧ x * y ≤ 340282366920938463426481119284349108225 := by
  refine ⟨Int.mul_nonneg hx.1 hy.1, ?_⟩
  have h1 : x * y ≤ 18446744073709551615 * y := Int.mul_le_mul_of_nonneg_right (by omega) hy.1
  omega
/-- The numbers that one step makes: of a product m, a word p of the sum, and what is carried. -/
theorem mul_step (x y p c : Int) (hx : 0 ≤ x ∧ x < 18446744073709551616) (hy : 0 ≤ y ∧ y < 18446744073709551616) (hp : 0 ≤ p ∧ p < 18446744073709551616) (hc : 0 ≤ c ∧ c < 18446744073709551616) :
    ∃ h l l1 o1 h1 l2 o2 c2 : Int, (∀ w, Calls Try.prog 35 #[.int .u64 x, .int .u64 y] w fun e w' => e = .returned (.tuple #[.int .u64 h, .int .u64 l]) ∧ w' = w) ∧
      (∀ w, (callFunc 36 #[.int .u64 l, .int .u64 p, .int .u64 0]).run Try.prog w = .ok (.value (.tuple #[.int .u64 l1, .int .u64 o1])) w) ∧ IntKind.u64.wrap (h + o1) = h1 ∧
      (∀ w, (callFunc 36 #[.int .u64 l1, .int .u64 c, .int .u64 0]).run Try.prog w = .ok (.value (.tuple #[.int .u64 l2, .int .u64 o2])) w) ∧ IntKind.u64.wrap (h1 + o2) = c2 ∧
      (0 ≤ l2 ∧ l2 < 18446744073709551616) ∧ (0 ≤ c2 ∧ c2 < 18446744073709551616) ∧ l2 + c2 * 18446744073709551616 = x * y + p + c := by
  have hm := mul_words (p := p) (c := c) hx hy
  have hM : ∀ w, Calls Try.prog 35 #[.int .u64 x, .int .u64 y] w fun e w' => e = .returned (.tuple #[.int .u64 (x * y / 18446744073709551616), .int .u64 (x * y % 18446744073709551616)]) ∧ w' = w := by
    intro w
    obtain ⟨a, rfl⟩ := Int.eq_ofNat_of_zero_le hx.1
    obtain ⟨b, rfl⟩ := Int.eq_ofNat_of_zero_le hy.1
    exact Try.bits_Mul64 a b (by omega) (by omega) w
  generalize x * y = m at *
  refine ⟨_, _, _, _, _, _, _, _, hM, fun w => add64_run (m % 18446744073709551616) p 0 (by omega) hp.1 (by omega) (by omega) w, rfl, fun w => add64_run ((m % 18446744073709551616 + p + 0) % 18446744073709551616) c 0 (by omega) hc.1 (by omega) (by omega) w, rfl, ?_, ?_, ?_⟩
  · omega
  · rw [wrap_u64_eq, wrap_u64_eq]; omega
  · rw [wrap_u64_eq, wrap_u64_eq]; omega
theorem add_step (p c : Int) (hp : 0 ≤ p ∧ p < 18446744073709551616) (hc : 0 ≤ c ∧ c < 18446744073709551616) :
    ∃ l c2 : Int, (∀ w, (callFunc 36 #[.int .u64 p, .int .u64 c, .int .u64 0]).run Try.prog w = .ok (.value (.tuple #[.int .u64 l, .int .u64 c2])) w) ∧
      (0 ≤ l ∧ l < 18446744073709551616) ∧ (0 ≤ c2 ∧ c2 < 18446744073709551616) ∧ l + c2 * 18446744073709551616 = p + c := by
  refine ⟨_, _, fun w => add64_run p c 0 hp.1 hc.1 (by omega) (by omega) w, ?_, ?_, ?_⟩ <;> omega
/-- One step of a row: its word, and what is carried. -/
theorem row_step (ps xs ys : List Int) (k j : Nat) (p0 c l c2 : Int) (hl : ps.length = 8) (hk : k < 4) (hj : j < 4)
    (h : valW ps 8 + c * 2 ^ (64 * (k + j)) = p0 + at0 xs k * valW ys j * 2 ^ (64 * k)) (he : l + c2 * 18446744073709551616 = at0 xs k * at0 ys j + at0 ps (k + j) + c) :
    valW (ps.set (k + j) l) 8 + c2 * 2 ^ (64 * (k + (j + 1))) = p0 + at0 xs k * valW ys (j + 1) * 2 ^ (64 * k) := by
  rw [valW_set ps (k + j) l (by omega), if_pos (by omega), show k + (j + 1) = k + j + 1 by omega, pow_split, valW.eq_2 ys j]
  rw [show 64 * (k + j) = 64 * k + 64 * j by omega, Int.pow_add] at *
  generalize (2 : Int) ^ (64 * k) = p at *
  generalize (2 : Int) ^ (64 * j) = q at *
  generalize valW ps 8 = v at *
  generalize valW ys j = u at *
  generalize at0 ps (k + j) = a at *
  generalize at0 ys j = b at *
  generalize at0 xs k = x at *
  clear hl hk hj
  grind
theorem tail_step (ps : List Int) (k : Nat) (T c l c2 : Int) (hl : ps.length = 8) (hk : k < 8) (h : valW ps 8 + c * 2 ^ (64 * k) = T) (he : l + c2 * 18446744073709551616 = at0 ps k + c) :
    valW (ps.set k l) 8 + c2 * 2 ^ (64 * (k + 1)) = T := by
  rw [valW_set ps k l (by omega), if_pos (by omega), pow_split]
  generalize (2 : Int) ^ (64 * k) = p at *
  generalize valW ps 8 = v at *
  generalize at0 ps k = a at *
  clear hl hk
  grind
theorem row_end (ps xs ys cs : List Int) (hx : Words xs) (hy : Words ys) (hc : Words cs) (hp : Words ps) (k : Nat) (hk : k < 4) (c : Int) (hc0 : 0 ≤ c)
    (h : valW ps 8 + c * 2 ^ (64 * 8) = valW cs 4 + valW xs k * valW ys 4 + at0 xs k * valW ys 4 * 2 ^ (64 * k)) : valW ps 8 = valW cs 4 + valW xs (k + 1) * valW ys 4 := by
  have e : valW cs 4 + valW xs k * valW ys 4 + at0 xs k * valW ys 4 * 2 ^ (64 * k) = valW cs 4 + valW xs (k + 1) * valW ys 4 := by
    simp only [valW.eq_2 xs k]
    generalize (2 : Int) ^ (64 * k) = p
    grind
  rw [e] at h
  have h1 := valW_lt xs hx (k + 1)
  have h2 := valW_lt ys hy 4
  have h3 := valW_lt cs hc 4
  have h4 := valW_lt ps hp 8
  have h5 : (2 : Int) ^ (64 * (k + 1)) ≤ 2 ^ (64 * 4) := by
    obtain rfl | rfl | rfl | rfl : k = 0 ∨ k = 1 ∨ k = 2 ∨ k = 3 := by omega
    all_goals decide +kernel
  have h6 : valW xs (k + 1) * valW ys 4 ≤ (2 ^ (64 * 4) - 1) * (2 ^ (64 * 4) - 1) := Int.mul_le_mul (by omega) (by omega) h2.1 (by decide +kernel)
  have h8 : (2 : Int) ^ (64 * 8) = 2 ^ (64 * 4) * 2 ^ (64 * 4) := by rw [← Int.pow_add]
  rw [h8] at h h4
  clear h8
  simp only [Nat.reduceMul, Int.reducePow] at *
  have h7 : 0 ≤ valW xs (k + 1) * valW ys 4 := Int.mul_nonneg h1.1 h2.1
  generalize valW xs (k + 1) * valW ys 4 = m at *
  have : c = 0 := by omega
  subst this
  omega
theorem valW_append (cs zs : List Int) (n : Nat) (h : n ≤ cs.length) : valW (cs ++ zs) n = valW cs n := by
  induction n with
  | zero => rfl
  | succ n ih =>
    have e : at0 (cs ++ zs) n = at0 cs n := by simp [at0, List.getElem?_append_left (show n < cs.length by omega)]
    simp only [valW, ih (by omega), e]
theorem valW_pad (cs : List Int) (h : cs.length = 4) : valW (cs ++ [0, 0, 0, 0]) 8 = valW cs 4 := by
  have e : ∀ j, 4 ≤ j → j < 8 → at0 (cs ++ [0, 0, 0, 0]) j = 0 := by
    intro j h1 h2
    simp only [at0, List.getElem?_append_right (show cs.length ≤ j by omega), h]
    obtain rfl | rfl | rfl | rfl : j = 4 ∨ j = 5 ∨ j = 6 ∨ j = 7 := by omega
    all_goals rfl
  rw [valW, e 7 (by omega) (by omega), valW, e 6 (by omega) (by omega), valW, e 5 (by omega) (by omega), valW, e 4 (by omega) (by omega), valW_append cs _ 4 (by omega)]
  omega
theorem pad_words {cs : List Int} (h : Words cs) : Words (cs ++ [0, 0, 0, 0]) := fun x hx => by
  rcases List.mem_append.1 hx with h1 | h1
  · exact h x h1
  · simp at h1; omega
end Go.Proofs.Yteocdjgdljfpdaa
