/- The reference's fold. -/
import Derived.Test.YtlhloldjlfcchaaDoorFK
namespace Go.Proofs.YtlhloldjlfcchaaDoor
open Go.RowKit Go.Shelf
set_option linter.unusedVariables false
set_option maxRecDepth 8000

/-- What is carried behind m words of 38 times a number. -/
def m38C (xs : List Int) : Nat → Int
  | 0 => 0
  | m + 1 => (at0 xs m * 38 + m38C xs m) / 18446744073709551616
def m38W (xs : List Int) (m : Nat) : Int := (at0 xs m * 38 + m38C xs m) % 18446744073709551616
def m38S (xs : List Int) (n : Nat) : List Int := (List.range n).map (m38W xs)
theorem m38C_lt (xs : List Int) (hx : Words xs) (m : Nat) : 0 ≤ m38C xs m ∧ m38C xs m < 38 := by
  induction m with
  | zero => simp [m38C]
  | succ m ih => have := hx.at m; simp only [m38C]; omega
theorem m38S_words (xs : List Int) (n : Nat) : Words (m38S xs n) := by
  intro x hx
  simp only [m38S, List.mem_map] at hx
  obtain ⟨k, _, rfl⟩ := hx
  unfold m38W; omega
theorem m38_val (xs : List Int) (hx : Words xs) (n m : Nat) (hm : m ≤ n) : valW (m38S xs n) m + m38C xs m * 2 ^ (64 * m) = 38 * valW xs m := by
  induction m with
  | zero => simp [valW, m38C]
  | succ m ih =>
    have h0 := ih (by omega)
    have e : at0 (m38S xs n) m = m38W xs m := by simp [m38S, at0, show m < n by omega]
    simp only [valW, m38C, e]
    rw [pow_split]
    unfold m38W
    generalize (2 : Int) ^ (64 * m) = q at *
    have h1 := Int.emod_add_mul_ediv (at0 xs m * 38 + m38C xs m) 18446744073709551616
    generalize (at0 xs m * 38 + m38C xs m) / 18446744073709551616 = d at *
    generalize (at0 xs m * 38 + m38C xs m) % 18446744073709551616 = r at *
    have e1 : r * q + d * (q * 18446744073709551616) = (r + 18446744073709551616 * d) * q := by grind
    have e2 : (at0 xs m * 38 + m38C xs m) * q = 38 * (at0 xs m * q) + m38C xs m * q := by grind
    rw [Int.add_assoc, e1, h1, e2]
    have e3 : 38 * (valW xs m + at0 xs m * q) = 38 * valW xs m + 38 * (at0 xs m * q) := by grind
    omega
/-- A sum that may run over. -/
theorem ref_plus_g (u v : Int) (w : World) (hu : 0 ≤ u ∧ u < 2 ^ 256) (hv : 0 ≤ v ∧ v < 2 ^ 256) : Calls Tryd.prog 48 #[aggI .u64 (numW 4 u), aggI .u64 (numW 4 v)] w fun e w' => e = .returned (.tuple #[aggI .u64 (numW 4 ((u + v) % 2 ^ 256)), .int .u64 ((u + v) / 2 ^ 256)]) ∧ Below w.heap.size w w' := by
  have h1 := ref_plus_any _ _ w (numW_words 4 u) (numW_words 4 v) (numW_length _ _) (numW_length _ _)
  have e := val_addW (numW 4 u) (numW 4 v) (numW_words _ _) (numW_words _ _) 4 4 (Nat.le_refl _)
  rw [numW_val hu.1 hu.2, numW_val hv.1 hv.2] at e
  have hs := valW_lt (addS (numW 4 u) (numW 4 v) 4) (addS_words _ _ _) 4
  have hw : addS (numW 4 u) (numW 4 v) 4 = numW 4 ((u + v) % 2 ^ 256) := by
    refine numW_eq (addS_words _ _ _) (by simp [addS]) ?_
    simp only [Nat.reduceMul, Int.reducePow] at *
    omega
  have hc : crw (numW 4 u) (numW 4 v) 4 = (u + v) / 2 ^ 256 := by
    simp only [Nat.reduceMul, Int.reducePow] at *
    omega
  rw [hw, hc] at h1
  exact h1
theorem m38_num (v : Int) (hv : 0 ≤ v ∧ v < 2 ^ 256) : m38S (numW 4 v) 4 = numW 4 (38 * v % 2 ^ 256) ∧ m38C (numW 4 v) 4 = 38 * v / 2 ^ 256 := by
  have e := m38_val (numW 4 v) (numW_words _ _) 4 4 (Nat.le_refl _)
  rw [numW_val hv.1 hv.2] at e
  have hs := valW_lt (m38S (numW 4 v) 4) (m38S_words _ _) 4
  constructor
  · refine numW_eq (m38S_words _ _) (by simp [m38S]) ?_
    simp only [Nat.reduceMul, Int.reducePow] at *
    omega
  · simp only [Nat.reduceMul, Int.reducePow] at *
    omega
/-- What fold comes to. -/
theorem fold_mod (lo hi t c s k s2 k2 s3 : Int) (hlo : 0 ≤ lo ∧ lo < 2 ^ 256) (hhi : 0 ≤ hi ∧ hi < 2 ^ 256) (ht : t = 38 * hi % 2 ^ 256) (hc : c = 38 * hi / 2 ^ 256) (hs : s = (lo + t) % 2 ^ 256) (hk : k = (lo + t) / 2 ^ 256)
    (hs2 : s2 = (s + (c + k) * 38) % 2 ^ 256) (hk2 : k2 = (s + (c + k) * 38) / 2 ^ 256) (hs3 : s3 = s2 + k2 * 38) : s3 % pV = (lo + hi * 2 ^ 256) % pV ∧ 0 ≤ s3 ∧ s3 < 2 ^ 256 ∧ 0 ≤ c ∧ c < 38 ∧ 0 ≤ k ∧ k ≤ 1 ∧ 0 ≤ k2 ∧ k2 ≤ 1 := by
  have hp : (2 : Int) ^ 256 = 2 * pV + 38 := by decide +kernel
  have hpv : 1000000 < pV := by decide +kernel
  have e : lo + hi * 2 ^ 256 = s3 + (2 * hi + 2 * c + 2 * k + 2 * k2) * pV := by
    have a1 := Int.emod_add_mul_ediv (38 * hi) (2 ^ 256)
    have a2 := Int.emod_add_mul_ediv (lo + t) (2 ^ 256)
    have a3 := Int.emod_add_mul_ediv (s + (c + k) * 38) (2 ^ 256)
    rw [← ht, ← hc] at a1
    rw [← hs, ← hk] at a2
    rw [← hs2, ← hk2] at a3
    rw [hp] at a1 a2 a3 ⊢
    subst hs3
    clear ht hc hs hk hs2 hk2 hp hlo hhi
    generalize pV = p at *
    grind
  refine ⟨by rw [e, Int.add_mul_emod_self_right], ?_⟩
  generalize (2 : Int) ^ 256 = M at *
  have c1 : 0 ≤ c ∧ c < 38 := by
    subst hc
    refine ⟨Int.ediv_nonneg (by omega) (by omega), Int.ediv_lt_of_lt_mul (by omega) (by omega)⟩
  have t1 : 0 ≤ t ∧ t < M := by
    subst ht
    exact ⟨Int.emod_nonneg _ (by omega), Int.emod_lt_of_pos _ (by omega)⟩
  have k1 : 0 ≤ k ∧ k < 2 := by
    subst hk
    exact ⟨Int.ediv_nonneg (by omega) (by omega), Int.ediv_lt_of_lt_mul (by omega) (by omega)⟩
  have s1 : 0 ≤ s ∧ s < M := by
    subst hs
    exact ⟨Int.emod_nonneg _ (by omega), Int.emod_lt_of_pos _ (by omega)⟩
  have k3 : 0 ≤ k2 ∧ k2 < 2 := by
    subst hk2
    exact ⟨Int.ediv_nonneg (by omega) (by omega), Int.ediv_lt_of_lt_mul (by omega) (by omega)⟩
  have s4 : 0 ≤ s2 ∧ s2 < M := by
    subst hs2
    exact ⟨Int.emod_nonneg _ (by omega), Int.emod_lt_of_pos _ (by omega)⟩
  have a3 := Int.emod_add_mul_ediv (s + (c + k) * 38) M
  rw [← hs2, ← hk2] at a3
  refine ⟨by omega, ?_, c1.1, c1.2, k1.1, by omega, k3.1, by omega⟩
  have : k2 = 0 ∨ k2 = 1 := by omega
  rcases this with rfl | rfl
  · omega
  · omega
end Go.Proofs.YtlhloldjlfcchaaDoor
