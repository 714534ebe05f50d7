/- The law on roots of a number and of it times the root of -1. -/
import Derived.Test.YtlhloldjlfcchaaDoorRootM
import Derived.Test.YtlhloldjlfcchaaDoorLaw8O
namespace Go.Proofs.YtlhloldjlfcchaaDoor
open Go.RowKit Go.Shelf
set_option linter.unusedVariables false
set_option maxRecDepth 8000

theorem zeros_bytes : Bytes (List.replicate 32 0) := by intro x hx; simp only [List.mem_replicate] at hx; omega
theorem unit_bytes1 : Bytes (unit32 1) := by unfold Bytes; decide +kernel
theorem valB_zeros : valB (List.replicate 32 0) 32 = 0 := by decide +kernel
theorem valB_unit1 : valB (unit32 1) 32 = 1 := by decide +kernel
theorem law_one (xb : List Int) (w : World) (hT : Tab w) (hxb : Bytes xb) (hxl : xb.length = 32) :
    Calls Tryd.prog 8 #[aggI .u8 xb] w fun e w' => e = .returned (.bool true) ∧ Below w.heap.size w w' := by
  have nl := numB_length
  have nb := numB_bytes
  have HS1 := fun W => sub_v (List.replicate 32 0) (unit32 1) W zeros_bytes unit_bytes1 rfl rfl
  rw [valB_zeros, valB_unit1] at HS1
  have HR1 := fun W hW => root_v (numB ((0 - 1) % pV)) W (nb _) (nl _) hW
  rw [vnB, show (0 - 1) % pV % pV = pV - 1 by decide +kernel, ok_neg_one, show rV (pV - 1) = miV from rfl] at HR1
  have HR2 := fun W hW => root_v xb W hxb hxl hW
  have HM := fun W => mul_v xb (numB miV) W hxb (nb _) hxl (nl _)
  have hml := rV_lt (pV - 1)
  have hpl := pV_lt
  rw [valB_numB miV hml.1 (by have := hml.2; unfold miV; omega)] at HM
  have HR3 := fun W hW => root_v (numB (valB xb 32 * miV % pV)) W (nb _) (nl _) hW
  rw [vnB, Int.emod_emod_of_dvd _ (Int.dvd_refl _)] at HR3
  have HS2 := fun W => sub_v (List.replicate 32 0) xb W zeros_bytes hxb rfl hxl
  rw [valB_zeros] at HS2
  have HR4 := fun W hW => root_v (numB ((0 - valB xb 32) % pV)) W (nb _) (nl _) hW
  rw [vnB, Int.emod_emod_of_dvd _ (Int.dvd_refl _), ok_neg] at HR4
  have HD := fun W => reduce_v xb W hxb hxl
  have hz : decide (numB (valB xb 32 % pV) = List.replicate 32 0) = decide (valB xb 32 % pV = 0) := by
    rw [← numB_zero]
    exact numB_same (pV_mod _) (by decide +kernel)
  by_cases h0 : valB xb 32 % pV = 0
  · rw [decide_eq_true h0] at hz
    have h1 : valB xb 32 * miV % pV = 0 := by rw [← mm1, h0, Int.zero_mul]; rfl
    have ho : okV (valB xb 32 % pV) = true := by rw [h0]; exact okV_zero
    have ho2 : okV (valB xb 32 * miV % pV) = true := by rw [h1]; exact okV_zero
    rw [ho] at HR2 HR4
    rw [ho2] at HR3
    exact one_walk_z _ _ xb _ _ _ _ _ _ _ _ w built_zero rfl (built_unit 1) hT hxl (nl _) (nl _) (nl _) (nl _) (nl _) HS1 HR1 HR2 HM HR3 HS2 HR4 HD hz
  · rw [decide_eq_false h0] at hz
    have ht := ok_times h0
    rw [ht] at HR3
    cases ho : okV (valB xb 32 % pV)
    · rw [ho] at HR2 HR3 HR4
      exact one_walk_f _ _ xb _ _ _ _ _ _ _ _ w built_zero rfl (built_unit 1) hT hxl (nl _) (nl _) (nl _) (nl _) (nl _) HS1 HR1 HR2 HM HR3 HS2 HR4 HD hz
    · rw [ho] at HR2 HR3 HR4
      exact one_walk_t _ _ xb _ _ _ _ _ _ _ _ w built_zero rfl (built_unit 1) hT hxl (nl _) (nl _) (nl _) (nl _) (nl _) HS1 HR1 HR2 HM HR3 HS2 HR4 HD hz
end Go.Proofs.YtlhloldjlfcchaaDoor
