/- Which numbers have a root: by Euler's power. -/
import Derived.Test.YtlhloldjlfcchaaDoorLaw8M
namespace Go.Proofs.YtlhloldjlfcchaaDoor
open Go.RowKit Go.Shelf
set_option linter.unusedVariables false
set_option maxRecDepth 100000

theorem euclid_pV {a b : Int} (h : a * b % pV = 0) : a % pV = 0 ∨ b % pV = 0 := by
  have hd := Int.natAbs_dvd_natAbs.2 (Int.dvd_of_emod_eq_zero h)
  rw [Int.natAbs_mul, pV_nat, Int.natAbs_natCast] at hd
  rcases pN_prime.euclid hd with d | d
  · left
    rw [pV_nat]
    exact Int.emod_eq_zero_of_dvd (Int.natAbs_dvd_natAbs.1 (by rw [Int.natAbs_natCast]; exact d))
  · right
    rw [pV_nat]
    exact Int.emod_eq_zero_of_dvd (Int.natAbs_dvd_natAbs.1 (by rw [Int.natAbs_natCast]; exact d))
theorem sub_zero_iff (a b p : Int) : a % p = b % p ↔ (a - b) % p = 0 := Int.emod_eq_emod_iff_emod_sub_eq_zero
/-- (p - 1) / 4. -/
def kN : Nat := 14474011154664524427946373126085988481658748083205070504932198000989141204987
theorem kN_rt : (valB (powN 254 15) 32).toNat + (valB (powN 254 15) 32).toNat = kN + 1 := by rw [rtN_eq]; decide +kernel
theorem kN_p : kN + kN + (kN + kN) = pN - 1 := by decide +kernel
theorem iV_sq : iV * iV % pV = (-1) % pV := by decide +kernel
theorem rt0_sq (u : Int) : rt0 u * rt0 u % pV = u ^ kN * u % pV := by
  unfold rt0
  rw [← Int.mul_emod, ← Int.pow_add, kN_rt, Int.pow_succ]
theorem rt1_sq (u : Int) : rt1 u * rt1 u % pV = -(u ^ kN * u) % pV := by
  have h : rt1 u * rt1 u % pV = (rt0 u * rt0 u % pV) * (iV * iV % pV) % pV := by
    unfold rt1
    rw [← Int.mul_emod, ← Int.mul_emod]
    congr 1
    grind
  rw [h, rt0_sq, iV_sq, ← Int.mul_emod]
  congr 1
  grind
theorem sq0_iff {u : Int} (hu : 0 ≤ u ∧ u < pV) (h0 : u ≠ 0) : sq0 u = true ↔ (u ^ kN - 1) % pV = 0 := by
  unfold sq0
  rw [decide_eq_true_iff, rt0_sq]
  conv => lhs; rhs; rw [← Int.emod_eq_of_lt hu.1 hu.2]
  rw [sub_zero_iff, show u ^ kN * u - u = (u ^ kN - 1) * u by grind]
  constructor
  · intro h
    rcases euclid_pV h with h | h
    · exact h
    · rw [Int.emod_eq_of_lt hu.1 hu.2] at h; exact absurd h h0
  · intro h
    rw [← mm1, h, Int.zero_mul]; rfl
theorem sq1_iff {u : Int} (hu : 0 ≤ u ∧ u < pV) (h0 : u ≠ 0) : sq1 u = true ↔ (u ^ kN + 1) % pV = 0 := by
  unfold sq1
  rw [decide_eq_true_iff, rt1_sq]
  conv => lhs; rhs; rw [← Int.emod_eq_of_lt hu.1 hu.2]
  rw [eq_comm, sub_zero_iff, show u - -(u ^ kN * u) = (u ^ kN + 1) * u by grind]
  constructor
  · intro h
    rcases euclid_pV h with h | h
    · exact h
    · rw [Int.emod_eq_of_lt hu.1 hu.2] at h; exact absurd h h0
  · intro h
    rw [← mm1, h, Int.zero_mul]; rfl
theorem okV_iff {u : Int} (hu : 0 ≤ u ∧ u < pV) (h0 : u ≠ 0) : okV u = true ↔ u ^ (kN + kN) % pV = 1 := by
  have e1 : (1 : Int) = 1 % pV := by decide +kernel
  unfold okV
  rw [Bool.or_eq_true, sq0_iff hu h0, sq1_iff hu h0]
  conv => rhs; rhs; rw [e1]
  rw [sub_zero_iff, Int.pow_add, show u ^ kN * u ^ kN - 1 = (u ^ kN - 1) * (u ^ kN + 1) by grind]
  constructor
  · rintro (h | h)
    · rw [← mm1, h, Int.zero_mul]; rfl
    · rw [← mm2, h, Int.mul_zero]; rfl
  · exact euclid_pV
theorem euler {u : Int} (h0 : u % pV ≠ 0) : u ^ (kN + kN) % pV = 1 ∨ u ^ (kN + kN) % pV = (-1) % pV := by
  have hf := fermat_pV u h0
  have e1 : (1 : Int) = 1 % pV := by decide +kernel
  have h1e := e1.symm
  rw [← kN_p, Int.pow_add, e1, sub_zero_iff, show u ^ (kN + kN) * u ^ (kN + kN) - 1 = (u ^ (kN + kN) - 1) * (u ^ (kN + kN) + 1) by grind] at hf
  rcases euclid_pV hf with h | h
  · left; rw [← h1e, sub_zero_iff]; exact h
  · right; rw [sub_zero_iff, show u ^ (kN + kN) - -1 = u ^ (kN + kN) + 1 by omega]; exact h
theorem okV_zero : okV 0 = true := by
  unfold okV sq0 rt0
  rw [rtN_eq, Int.zero_pow (by decide +kernel)]
  decide +kernel
theorem neg_one_pow (n : Nat) : (-1 : Int) ^ (n + n) = 1 := by
  rw [Int.pow_add, ← Int.mul_pow, show (-1 : Int) * -1 = 1 from rfl, Int.one_pow]
/-- The even root of -1. -/
def miV : Int := rV (pV - 1)
theorem miV_eq : miV = evenV (rt0 (pV - 1)) ∨ miV = evenV (rt1 (pV - 1)) ∨ miV = 0 := by
  unfold miV rV; split
  · exact .inl rfl
  · split
    · exact .inr (.inl rfl)
    · exact .inr (.inr rfl)
theorem even_or (c : Int) : evenV c = c ∨ evenV c = (0 - c) % pV := by unfold evenV; split <;> simp
theorem even_sq {c : Int} : evenV c * evenV c % pV = c * c % pV := by
  rcases even_or c with h | h
  · rw [h]
  · rw [h, mm1, mm2]; congr 1; grind
theorem rV_sq {u : Int} (hok : okV u = true) : rV u * rV u % pV = u := by
  unfold rV
  unfold okV at hok
  by_cases h : sq0 u = true
  · rw [if_pos h, even_sq]; simpa [sq0] using h
  · rw [if_neg h]
    have h1 : sq1 u = true := by simpa [h] using hok
    rw [if_pos h1, even_sq]; simpa [sq1] using h1
theorem rt0_lt (u : Int) : 0 ≤ rt0 u ∧ rt0 u < pV := pV_mod _
theorem rt1_lt (u : Int) : 0 ≤ rt1 u ∧ rt1 u < pV := pV_mod _
theorem even_lt {c : Int} (h : 0 ≤ c ∧ c < pV) : 0 ≤ evenV c ∧ evenV c < pV := by
  rcases even_or c with e | e
  · rw [e]; exact h
  · rw [e]; exact pV_mod _
theorem even_even {c : Int} (h : 0 ≤ c ∧ c < pV) : evenV c % 2 = 0 := by
  unfold evenV
  split
  · next h1 =>
    have hp : pV % 2 = 1 := by decide +kernel
    have e : (0 - c) % pV = 0 - c + pV := by rw [← Int.add_emod_right (0 - c) pV, Int.emod_eq_of_lt (by omega) (by omega)]
    rw [e]; omega
  · omega
theorem rV_lt (u : Int) : 0 ≤ rV u ∧ rV u < pV := by
  unfold rV
  split
  · exact even_lt (rt0_lt u)
  · split
    · exact even_lt (rt1_lt u)
    · decide +kernel
theorem rV_even (u : Int) : rV u % 2 = 0 := by
  unfold rV
  split
  · exact even_even (rt0_lt u)
  · split
    · exact even_even (rt1_lt u)
    · rfl
theorem pow_neg_one : (-1 : Int) % pV = pV - 1 := by decide +kernel
theorem ok_neg_one : okV (pV - 1) = true := by
  refine (okV_iff (by decide +kernel) (by decide +kernel)).2 ?_
  rw [← pow_neg_one, pow_emod, neg_one_pow]
  decide +kernel
theorem miV_sq : miV * miV % pV = (-1) % pV := by rw [pow_neg_one]; exact rV_sq ok_neg_one
theorem kN_odd : kN = (kN / 2 + kN / 2) + 1 := by decide +kernel
theorem miV_pow : miV ^ (kN + kN) % pV = (-1) % pV := by
  rw [Int.pow_add, ← Int.mul_pow, ← pow_emod, miV_sq, pow_emod, kN_odd, Int.pow_succ, neg_one_pow, Int.one_mul]
theorem ok_neg (u : Int) : okV ((0 - u) % pV) = okV (u % pV) := by
  by_cases h : u % pV = 0
  · have : (0 - u) % pV = 0 := by rw [← sm2, h]; rfl
    rw [h, this]
  · have h2 : (0 - u) % pV ≠ 0 := fun e => h (by
      have h3 : (0 - (0 - u) % pV) % pV = 0 := by rw [e]; rfl
      rw [sm2] at h3
      simpa using h3)
    rw [Bool.eq_iff_iff, okV_iff (pV_mod _) h2, okV_iff (pV_mod _) h, pow_emod, pow_emod]
    rw [show (0 - u) = (-1) * u by omega, Int.mul_pow, neg_one_pow, Int.one_mul]
theorem ok_times {u : Int} (h : u % pV ≠ 0) : okV (u * miV % pV) = !okV (u % pV) := by
  have hm : (-1 : Int) % pV ≠ 1 := by decide +kernel
  have e1 : (1 : Int) % pV = 1 := by decide +kernel
  have hmz : miV % pV ≠ 0 := fun e => by
    have h1 := miV_sq
    rw [← mm1, e, Int.zero_mul] at h1
    exact absurd h1 (by decide +kernel)
  have h2 : u * miV % pV ≠ 0 := fun e => by
    rcases euclid_pV e with e | e
    · exact h e
    · exact hmz e
  have hp : u ^ (kN + kN) * miV ^ (kN + kN) % pV = u ^ (kN + kN) * (-1) % pV := by rw [← mm2, miV_pow, mm2]
  have k1 := okV_iff (pV_mod _) h2
  have k2 := okV_iff (pV_mod _) h
  rw [pow_emod, Int.mul_pow, hp] at k1
  rw [pow_emod] at k2
  rcases euler h with e | e
  · have a1 : okV (u % pV) = true := k2.2 e
    have a2 : okV (u * miV % pV) = false := by
      rw [Bool.eq_false_iff]
      intro hh
      have := k1.1 hh
      rw [← mm1, e, Int.one_mul] at this
      exact hm this
    rw [a1, a2]; rfl
  · have a1 : okV (u % pV) = false := by
      rw [Bool.eq_false_iff]
      intro hh
      have := k2.1 hh
      rw [e] at this
      exact hm this
    have a2 : okV (u * miV % pV) = true := by
      refine k1.2 ?_
      rw [← mm1, e, mm1]
      exact e1
    rw [a1, a2]; rfl
/-- A square has a root. -/
theorem ok_square (u : Int) : okV (u * u % pV) = true := by
  by_cases h : u % pV = 0
  · have : u * u % pV = 0 := by rw [← mm1, h, Int.zero_mul]; rfl
    rw [this]; exact okV_zero
  · have h2 : u * u % pV ≠ 0 := fun e => by
      rcases euclid_pV e with e | e <;> exact h e
    refine (okV_iff (pV_mod _) h2).2 ?_
    rw [pow_emod, Int.mul_pow, ← Int.pow_add, kN_p]
    exact fermat_pV u h
end Go.Proofs.YtlhloldjlfcchaaDoor
