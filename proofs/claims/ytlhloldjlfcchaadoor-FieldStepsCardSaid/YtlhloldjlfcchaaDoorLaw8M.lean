/- The field's laws. -/
import Derived.Test.YtlhloldjlfcchaaDoorLaw8L
import Derived.Test.YtlhloldjlfcchaaDoorFN
import Derived.Test.YtlhloldjlfcchaaDoorPrime
namespace Go.Proofs.YtlhloldjlfcchaaDoor
open Go.RowKit Go.Shelf
set_option linter.unusedVariables false
set_option maxRecDepth 8000

theorem vnB (z : Int) : valB (numB (z % pV)) 32 = z % pV := by
  have h := pV_mod z
  have := pV_lt
  exact valB_numB _ h.1 (by omega)
theorem mm1 (x y p : Int) : (x % p * y) % p = x * y % p := by rw [Int.mul_emod, Int.emod_emod_of_dvd _ (Int.dvd_refl _), ← Int.mul_emod]
theorem mm2 (x y p : Int) : (x * (y % p)) % p = x * y % p := by rw [Int.mul_emod, Int.emod_emod_of_dvd _ (Int.dvd_refl _), ← Int.mul_emod]
theorem am1 (x y p : Int) : (x % p + y) % p = (x + y) % p := by rw [Int.add_emod, Int.emod_emod_of_dvd _ (Int.dvd_refl _), ← Int.add_emod]
theorem am2 (x y p : Int) : (x + y % p) % p = (x + y) % p := by rw [Int.add_emod, Int.emod_emod_of_dvd _ (Int.dvd_refl _), ← Int.add_emod]
theorem sm1 (x y p : Int) : (x % p - y) % p = (x - y) % p := by rw [Int.sub_emod, Int.emod_emod_of_dvd _ (Int.dvd_refl _), ← Int.sub_emod]
theorem sm2 (x y p : Int) : (x - y % p) % p = (x - y) % p := by rw [Int.sub_emod, Int.emod_emod_of_dvd _ (Int.dvd_refl _), ← Int.sub_emod]
theorem pow_emod (u p : Int) : ∀ n : Nat, (u % p) ^ n % p = u ^ n % p
  | 0 => by rw [Int.pow_zero, Int.pow_zero]
  | n + 1 => by rw [Int.pow_succ, Int.pow_succ, mm2, ← mm1, pow_emod u p n, mm1]
theorem pN_prime : Prm pN := prm_p
/-- Fermat, for whole numbers. -/
theorem fermat_pV (u : Int) (h : u % pV ≠ 0) : u ^ (pN - 1) % pV = 1 := by
  have hu := pV_mod u
  have e : u ^ (pN - 1) % pV = (u % pV) ^ (pN - 1) % pV := (pow_emod u pV _).symm
  rw [e]
  generalize u % pV = v at *
  obtain ⟨n, rfl⟩ := Int.eq_ofNat_of_zero_le hu.1
  rw [pV_nat] at hu ⊢
  have hn : ¬ pN ∣ n := fun hd => by
    have := Nat.le_of_dvd (by omega) hd
    omega
  have hf := pN_prime.fermat hn
  rw [← Int.natCast_pow, ← Int.natCast_emod, hf]
  decide +kernel
theorem invN_eq : (valB (powN 235 127) 32).toNat = pN - 2 := by decide +kernel
theorem inv_mul (u : Int) : u * ((u % pV) ^ (valB (powN 235 127) 32).toNat % pV) % pV = if u % pV = 0 then 0 else 1 := by
  rw [invN_eq, mm2, ← mm1]
  have hs : u % pV * (u % pV) ^ (pN - 2) = (u % pV) ^ (pN - 1) := by
    rw [Int.mul_comm, ← Int.pow_succ]; congr 1
  rw [hs]
  split
  · next h => rw [h, Int.zero_pow (by decide +kernel)]; decide +kernel
  · next h => rw [pow_emod]; exact fermat_pV u h
theorem numB_zero : numB 0 = List.replicate 32 0 := by decide +kernel
theorem numB_one : numB 1 = unit32 1 := by decide +kernel
theorem law_laws (xb yb zb : List Int) (w : World) (hT : Tab w) (hxb : Bytes xb) (hxl : xb.length = 32) (hyb : Bytes yb) (hyl : yb.length = 32) (hzb : Bytes zb) (hzl : zb.length = 32) :
    Calls Tryd.prog 7 #[aggI .u8 xb, aggI .u8 yb, aggI .u8 zb] w fun e w' => e = .returned (.bool true) ∧ Below w.heap.size w w' := by
  have nl := numB_length
  have nb := numB_bytes
  have hz : decide (numB (valB xb 32 % pV) = List.replicate 32 0) = decide (valB xb 32 % pV = 0) := by
    rw [← numB_zero]
    exact numB_same (pV_mod _) (by decide +kernel)
  have hi := inv_mul (valB xb 32)
  refine laws_walk xb yb zb (numB ((valB xb 32 + valB yb 32) % pV)) (numB (valB xb 32 * valB yb 32 % pV)) (numB ((valB xb 32 + valB yb 32 + valB zb 32) % pV)) (numB ((valB yb 32 + valB zb 32) % pV)) (numB (valB xb 32 * valB yb 32 * valB zb 32 % pV)) (numB (valB yb 32 * valB zb 32 % pV))
    (numB (valB xb 32 * (valB yb 32 + valB zb 32) % pV)) (numB (valB xb 32 * valB zb 32 % pV)) (numB (valB xb 32 % pV)) (numB ((valB xb 32 % pV) ^ (valB (powN 235 127) 32).toNat % pV)) (numB (valB xb 32 * ((valB xb 32 % pV) ^ (valB (powN 235 127) 32).toNat % pV) % pV)) (decide (valB xb 32 % pV = 0)) w hT
    hxl hyl hzl (nl _) (nl _) (nl _) (nl _) (nl _) (nl _) (nl _) (nl _) (nl _) (nl _) (nl _)
    (fun W => add_v xb yb W hxb hyb hxl hyl) ?_ (fun W => mul_v xb yb W hxb hyb hxl hyl) ?_ ?_ (fun W => add_v yb zb W hyb hzb hyl hzl) ?_ ?_ (fun W => mul_v yb zb W hyb hzb hyl hzl) ?_ ?_ (fun W => mul_v xb zb W hxb hzb hxl hzl) ?_ ?_ (fun W => reduce_v xb W hxb hxl) (fun W => inv_v xb W hxb hxl) ?_ hz ?_ ?_
  · intro W; have h := add_v yb xb W hyb hxb hyl hxl; rw [Int.add_comm (valB yb 32)] at h; exact h
  · intro W; have h := mul_v yb xb W hyb hxb hyl hxl; rw [Int.mul_comm (valB yb 32)] at h; exact h
  · intro W; have h := add_v _ zb W (nb ((valB xb 32 + valB yb 32) % pV)) hzb (nl _) hzl; rw [vnB, am1] at h; exact h
  · intro W; have h := add_v xb _ W hxb (nb ((valB yb 32 + valB zb 32) % pV)) hxl (nl _); rw [vnB, am2, ← Int.add_assoc] at h; exact h
  · intro W; have h := mul_v _ zb W (nb (valB xb 32 * valB yb 32 % pV)) hzb (nl _) hzl; rw [vnB, mm1] at h; exact h
  · intro W; have h := mul_v xb _ W hxb (nb (valB yb 32 * valB zb 32 % pV)) hxl (nl _); rw [vnB, mm2, ← Int.mul_assoc] at h; exact h
  · intro W; have h := mul_v xb _ W hxb (nb ((valB yb 32 + valB zb 32) % pV)) hxl (nl _); rw [vnB, mm2] at h; exact h
  · intro W; have h := add_v _ _ W (nb (valB xb 32 * valB yb 32 % pV)) (nb (valB xb 32 * valB zb 32 % pV)) (nl _) (nl _); rw [vnB, vnB, am1, am2, ← Int.mul_add] at h; exact h
  · intro W; have h := sub_v _ yb W (nb ((valB xb 32 + valB yb 32) % pV)) hyb (nl _) hyl; rw [vnB, sm1, Int.add_sub_cancel] at h; exact h
  · intro W; have h := mul_v xb _ W hxb (nb ((valB xb 32 % pV) ^ (valB (powN 235 127) 32).toNat % pV)) hxl (nl _); rw [vnB] at h; exact h
  · intro hb
    rw [hi, if_neg (by simpa using hb), numB_one]
  · intro hb
    rw [hi, if_pos (by simpa using hb), numB_zero]
end Go.Proofs.YtlhloldjlfcchaaDoor
