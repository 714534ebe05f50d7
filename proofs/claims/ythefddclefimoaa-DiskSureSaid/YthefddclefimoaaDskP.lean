/- The acts of DiskSure, as an argument. -/
import Derived.Test.YthefddclefimoaaDskO
import Derived.Test.YthefddclefimoaaDskI
import Derived.Deep.Strs
namespace Go.Proofs.Ythefddclefimoaa
open Go.ChangeShapes Go.WideShapes Go.ChangeAt Go.RowKit
set_option linter.unusedVariables false
section
variable {H : Type} {enc : TypeId × Value → H} {W : World} {base : Nat} {sp : Nat → Bool} {held : Bool}
theorem el_O (n : Nat) (cs : List Value) (x : DataW H × List MemPlace) (h : DataW.trod enc Try.prog W base sp held n 49 cs = some x) : ∃ p : Bool × Int × Int, cs = encO p ∧ (0 ≤ p.2.1 ∧ p.2.1 ≤ 255 ∧ 0 ≤ p.2.2 ∧ p.2.2 ≤ 255) := by
  obtain ⟨y0, y1, y2, m, _, hl, h0, h1, h2⟩ := Go.Deep.trod_struct3 Try.underlying49 h
  have cA : Try.prog.cellsOf 49 = 3 := by kernel_rfl
  have cB : Try.prog.cellsOf 4 = 1 := by kernel_rfl
  rw [cA] at hl
  match cs, hl with
  | [c, d, e], _ =>
    obtain ⟨a, ha, _⟩ := DataW.trod_bool Try.underlying4 h0
    obtain ⟨b, hb, _, wb⟩ := DataW.trod_int Try.underlying5 h1
    obtain ⟨g, hg, _, wg⟩ := DataW.trod_int Try.underlying5 h2
    simp only [cU, cB] at ha hb hg
    simp at ha hb hg
    exact ⟨(a, b, g), by simp [encO, ha, hb, hg], (u8_one wb).1, (u8_one wb).2, (u8_one wg).1, (u8_one wg).2⟩
theorem open_acts {r : Reach} {b0 : Nat} {v : Value} {d : DataW H} {p : List MemPlace} (hv : Value.okWide Try.prog W r b0 45 v) (h : DataW.Trod enc Try.prog W base sp held 45 v d p) : ∃ fs : List (Bool × Int × Int), RdF 3 [] W v (fs.map encO) ∧ ∀ f ∈ fs, 0 ≤ f.2.1 ∧ f.2.1 ≤ 255 ∧ 0 ≤ f.2.2 ∧ f.2.2 ≤ 255 := by
  obtain ⟨a, len, cap, rfl⟩ := okWide_slice Try.underlying45 hv
  obtain ⟨fuel, hf⟩ := h
  obtain ⟨v, fs, e, r, g⟩ := rd_of_slice (s := 3) encO (fun f => 0 ≤ f.2.1 ∧ f.2.1 ≤ 255 ∧ 0 ≤ f.2.2 ∧ f.2.2 ≤ 255) (by decide) Try.underlying45 (by kernel_rfl) (fun a _ => rfl) el_O hf
  simp [Value.cells] at e
  subst e
  exact ⟨fs, r, g⟩
end
end Go.Proofs.Ythefddclefimoaa
