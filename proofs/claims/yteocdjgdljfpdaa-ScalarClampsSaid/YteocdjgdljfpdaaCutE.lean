/- Package scalar's cut: what its number is. -/
import Derived.Test.YteocdjgdljfpdaaCutD
namespace Go.Proofs.Yteocdjgdljfpdaa
open Go.RowKit Go.Shelf
set_option linter.unusedVariables false

theorem subS_words (xs ys : List Int) (n : Nat) : Words (subS xs ys n) := by
  intro x hx
  simp only [subS, List.mem_map] at hx
  obtain ⟨m, _, rfl⟩ := hx
  unfold subW
  omega
theorem cutS_words {xs : List Int} (hx : Words xs) : Words (cutS xs) := by
  unfold cutS
  split
  · exact hx
  · exact subS_words _ _ _
theorem cutS_length {xs : List Int} (hl : xs.length = 4) : (cutS xs).length = 4 := by
  unfold cutS
  split
  · exact hl
  · simp [subS]
theorem cutS_val {xs : List Int} (hx : Words xs) : valW (cutS xs) 4 = if valW xs 4 < valW ordL 4 then valW xs 4 else valW xs 4 - valW ordL 4 := by
  unfold cutS
  split
  · rfl
  · next h =>
    have hb := brw_iff xs ordL hx ordL_words 4
    rw [if_neg h] at hb
    rw [val_subW xs ordL hx ordL_words 4 4 (Nat.le_refl _), hb]
    omega
end Go.Proofs.Yteocdjgdljfpdaa
