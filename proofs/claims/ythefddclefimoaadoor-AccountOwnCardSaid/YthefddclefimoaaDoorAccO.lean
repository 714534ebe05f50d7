/- Users and texts, as arguments. -/
import Derived.Test.YthefddclefimoaaDoorAccL
import Derived.Test.YthefddclefimoaaDoorOpen
import Derived.Test.YthefddclefimoaaDoorTie
import Derived.Test.YthefddclefimoaaDoorCards
import Derived.Deep.Strs
import Derived.Deep.DeepHandedRow
import Derived.Lay
import Derived.LaidLaws
import Derived.SevenTiedAt
namespace Go.Proofs.YthefddclefimoaaDoor
open Go.ChangeShapes Go.WideShapes Go.ChangeAt Go.RowKit
set_option linter.unusedVariables false
set_option maxRecDepth 8000
theorem own : ownKnob Tryd.prog.godebug = none := by kernel_rfl
theorem laidOut : laidOutB Tryd.prog = true := by kernel_rfl
theorem cU : Tryd.prog.cellsOf 57 = 3 := by kernel_rfl
theorem cT : Tryd.prog.cellsOf 9 = 1 := by kernel_rfl
theorem cS : Tryd.prog.cellsOf 55 = 1 := by kernel_rfl
section
variable {H : Type} {enc : TypeId × Value → H} {W : World} {base : Nat} {sp : Nat → Bool} {held : Bool}
theorem el_T (n : Nat) (cs : List Value) (x : DataW H × List MemPlace) (h : DataW.trod enc Tryd.prog W base sp held n 9 cs = some x) : ∃ s : ByteArray, cs = encT s ∧ True := by
  obtain ⟨s, es, _, _⟩ := DataW.trod_string Tryd.underlying9 h
  exact ⟨s, es, trivial⟩
theorem el_U (n : Nat) (cs : List Value) (x : DataW H × List MemPlace) (h : DataW.trod enc Tryd.prog W base sp held n 57 cs = some x) : ∃ u : UserX, cs = encU u ∧ RdF 1 [] W u.2.2.1 (u.2.2.2.map encT) := by
  obtain ⟨y0, y1, y2, m, _, hl, h0, h1, h2⟩ := Go.Deep.trod_struct3 Tryd.underlying57 h
  rw [cU] at hl
  match cs, hl with
  | [c, d, e], _ =>
    obtain ⟨a, ha, _⟩ := el_T m _ _ h0
    obtain ⟨b, hb, _⟩ := el_T m _ _ h1
    obtain ⟨v, ts, hv, hr, _⟩ := rd_of_slice encT (fun _ => True) (by decide) Tryd.underlying55 cT (fun _ _ => rfl) el_T h2
    simp only [cT, cS] at ha hb hv
    simp [encT] at ha hb hv
    exact ⟨(a, b, v, ts), by simp [encU, ha, hb, hv], hr⟩
theorem open_users {r : Reach} {b0 : Nat} {v : Value} {d : DataW H} {p : List MemPlace} (hv : Value.okWide Tryd.prog W r b0 22 v) (h : DataW.Trod enc Tryd.prog W base sp held 22 v d p) : ∃ xs : List UserX, RdF 3 [] W v (xs.map encU) ∧ AgU [] W xs := by
  obtain ⟨a, len, cap, rfl⟩ := okWide_slice Tryd.underlying22 hv
  obtain ⟨fuel, hf⟩ := h
  obtain ⟨v, xs, e, r, g⟩ := rd_of_slice (s := 3) encU (fun u => RdF 1 [] W u.2.2.1 (u.2.2.2.map encT)) (by decide) Tryd.underlying22 cU (fun _ _ => rfl) el_U hf
  simp [Value.cells] at e
  subst e
  exact ⟨xs, r, g⟩
theorem open_two {v : Value} {d : DataW H} {p : List MemPlace} (h0 : DataW.Trod enc Tryd.prog W base sp held 23 v d p) : ∃ a b : ByteArray, v = .agg #[.string a, .string b] := by
  obtain ⟨fuel, hf⟩ := h0
  obtain ⟨xs, m, _, hx, hl, hxl, hi⟩ := DataW.trod_array Tryd.underlying23 hf
  rw [show Tryd.prog.cellsOf 23 = 2 by kernel_rfl] at hl
  rw [cT] at hi
  have e0 := hi 0 (by omega)
  have e1 := hi 1 (by omega)
  rw [List.getElem?_eq_getElem (by omega)] at e0 e1
  obtain ⟨a, ha, _⟩ := el_T m _ _ e0
  obtain ⟨b, hb, _⟩ := el_T m _ _ e1
  cases v with
  | agg cs =>
    simp only [Value.cells] at ha hb hl
    obtain ⟨l⟩ := cs
    match l, hl with
    | [c, d], _ =>
      simp [encT] at ha hb
      exact ⟨a, b, by rw [ha, hb]⟩
  | _ => simp [Value.cells] at hl
end
end Go.Proofs.YthefddclefimoaaDoor
