/- Powers modulo a number, reckoned by squaring; the roots of 4 and of 2. -/
import Derived.Test.YtlhloldjlfcchaaDoorFM
namespace Go.Proofs.YtlhloldjlfcchaaDoor
open Go.RowKit Go.Shelf
set_option linter.unusedVariables false
set_option maxRecDepth 100000

/-- A power modulo p by squaring. -/
def pm (p u : Nat) : Nat → Nat → Nat
  | 0, _ => 1 % p
  | f + 1, e => (match e % 2 with | 0 => 1 | _ => u) * (pm p u f (e / 2) * pm p u f (e / 2) % p) % p
theorem pm_eq (p u : Nat) : ∀ f e, e < 2 ^ f → pm p u f e = u ^ e % p
  | 0, e, h => by
    obtain rfl : e = 0 := by simpa using h
    rfl
  | f + 1, e, h => by
    have ih := pm_eq p u f (e / 2) (by rw [Nat.pow_succ] at h; omega)
    have h2 : e = e / 2 + e / 2 + e % 2 := by omega
    unfold pm
    rw [ih]
    generalize hk : e / 2 = k at *
    have hm : e % 2 = 0 ∨ e % 2 = 1 := by omega
    have key : u ^ k % p * (u ^ k % p) % p = u ^ (k + k) % p := by rw [← Nat.mul_mod, ← Nat.pow_add]
    rw [key]
    rcases hm with h0 | h1
    · rw [h0] at h2 ⊢
      subst h2
      simp only [Nat.add_zero]
      rw [Nat.one_mul, Nat.mod_mod]
    · rw [h1] at h2 ⊢
      subst h2
      show u * (u ^ (k + k) % p) % p = u ^ (k + k + 1) % p
      rw [Nat.mul_mod, Nat.mod_mod, ← Nat.mul_mod, Nat.pow_succ, Nat.mul_comm]
def pN : Nat := 57896044618658097711785492504343953926634992332820282019728792003956564819949
theorem pV_nat : pV = (pN : Int) := by decide +kernel
theorem rtN_eq : (valB (powN 254 15) 32).toNat = 7237005577332262213973186563042994240829374041602535252466099000494570602494 := by decide +kernel
theorem rt0_gen (u N : Nat) (hN : (valB (powN 254 15) 32).toNat = N) (hl : N < 2 ^ 256) : rt0 u = (pm pN u 256 N : Nat) := by
  rw [pm_eq _ _ _ _ hl]
  unfold rt0
  rw [hN, pV_nat, Int.natCast_emod, Int.natCast_pow]
theorem rt0_pm (u : Nat) : rt0 u = (pm pN u 256 7237005577332262213973186563042994240829374041602535252466099000494570602494 : Nat) := rt0_gen u _ rtN_eq (by decide +kernel)
theorem rt0_4 : rt0 4 = 2 ∨ rt0 4 = pV - 2 ∨ rt0 4 * iV % pV = 2 ∨ rt0 4 * iV % pV = pV - 2 := by
  rw [show (4 : Int) = ((4 : Nat) : Int) from rfl, rt0_pm]
  decide +kernel
theorem root_4 : rV 4 = 2 ∧ okV 4 = true := by
  have h : rt0 4 = _ := rt0_pm 4
  unfold rV okV sq0 sq1 rt1 evenV
  rw [h]
  decide +kernel
theorem root_2 : rV 2 = 0 ∧ okV 2 = false := by
  have h : rt0 2 = _ := rt0_pm 2
  unfold rV okV sq0 sq1 rt1 evenV
  rw [h]
  decide +kernel
end Go.Proofs.YtlhloldjlfcchaaDoor
