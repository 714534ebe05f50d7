/- Package scalar's cut: its contract. -/
import Derived.Test.YteocdjgdljfpdaaCutC
namespace Go.Proofs.Yteocdjgdljfpdaa
open Go.RowKit Go.Shelf
set_option linter.unusedVariables false

/-- A number, or what is left of it without the order, if it isn't below it. -/
def cutS (xs : List Int) : List Int := if valW xs 4 < valW ordL 4 then xs else subS xs ordL 4
theorem four_of {l : List Int} (h : l.length = 4) : ∃ a b c d, l = [a, b, c, d] := by
  match l, h with
  | [a, b, c, d], _ => exact ⟨a, b, c, d, rfl⟩
theorem cut_any (xs : List Int) (w : World) (hx : Words xs) (hl : xs.length = 4) :
    Calls Try.prog 29 #[aggI .u64 xs] w fun e w' => e = .returned (aggI .u64 (cutS xs)) ∧ Below w.heap.size w w' := by
  have HL := fun w => less_any xs ordL w hx ordL_words hl rfl
  have HB := brw_iff xs ordL hx ordL_words 4
  obtain ⟨d0, d1, d2, d3, hd⟩ := four_of (by simp [subS] : (subS xs ordL 4).length = 4)
  have hc : cutS xs = if valW xs 4 < valW ordL 4 then xs else [d0, d1, d2, d3] := by rw [cutS, hd]
  rw [hd, HB] at HL
  rw [hc]
  clear hd HB hc
  by_cases hlt : valW xs 4 < valW ordL 4
  · rw [if_pos hlt] at HL ⊢
    clear hlt hx
    obtain ⟨x0, x1, x2, x3, rfl⟩ := four_of hl
    exact cut_walk x0 x1 x2 x3 d0 d1 d2 d3 _ _ _ _ w order_any HL
  · rw [if_neg hlt] at HL ⊢
    clear hlt hx
    obtain ⟨x0, x1, x2, x3, rfl⟩ := four_of hl
    exact cut_walk2 x0 x1 x2 x3 d0 d1 d2 d3 _ _ _ _ w order_any HL
end Go.Proofs.Yteocdjgdljfpdaa
