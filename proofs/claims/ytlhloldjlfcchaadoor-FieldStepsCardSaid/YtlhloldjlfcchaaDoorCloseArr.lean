/- Arguments that are arrays of numbers, opened. -/
import Derived.Test.YtlhloldjlfcchaaDoorClose
import Derived.Test.YtlhloldjlfcchaaDoorArr
namespace Go.Proofs.YtlhloldjlfcchaaDoor
open Go.ChangeShapes Go.WideShapes Go.ChangeAt Go.RowKit
set_option linter.unusedVariables false

theorem cells_of_one : ∀ (n : Nat) (K : IntKind) (cs : List Value), cs.length = n → (∀ i, i < n → ∃ x, (cs.drop i).take 1 = [.int K x] ∧ (Lit.int K x).wf = true) → ∃ zs : List Int, cs = zs.map (Value.int K) ∧ zs.length = n ∧ ∀ x ∈ zs, (Lit.int K x).wf = true
  | 0, K, cs, hl, _ => ⟨[], by simpa using List.eq_nil_of_length_eq_zero hl, rfl, fun x hx => by cases hx⟩
  | n + 1, K, [], hl, _ => by simp at hl
  | n + 1, K, c :: cs, hl, h => by
    obtain ⟨x, hx, hw⟩ := h 0 (by omega)
    obtain ⟨zs, h1, h2, h3⟩ := cells_of_one n K cs (by simpa using hl) fun i hi => by simpa using h (i + 1) (by omega)
    simp at hx
    refine ⟨x :: zs, by simp [hx, h1], by simp [h2], fun y hy => ?_⟩
    rcases List.mem_cons.1 hy with rfl | hy
    · exact hw
    · exact h3 y hy
/-- An array of numbers that came in. -/
theorem open_arrI {P : Program} {H : Type} {enc : TypeId × Value → H} {W : World} {t e : TypeId} {K : IntKind} {n : Nat} {v : Value} {d : DataW H} {p : List MemPlace}
    (ht : P.underlying t = some (.array n e)) (he : P.underlying e = some (.int K)) (hc : P.cellsOf e = 1) (hct : P.cellsOf t = n) (hn : n ≠ 1) (h0 : DataW.Trod enc P W 0 (fun _ => true) true t v d p) :
    ∃ zs, v = aggI K zs ∧ zs.length = n ∧ p = [] ∧ ∀ x ∈ zs, (Lit.int K x).wf = true := by
  obtain ⟨fuel, hf⟩ := h0
  obtain ⟨xs, m, rfl, hx, hl, hxl, hi⟩ := DataW.trod_array ht hf
  rw [hct] at hl
  rw [hc] at hi
  have hone : ∀ i, i < n → ∃ x, ((v.cells.toList).drop i).take 1 = [.int K x] ∧ (Lit.int K x).wf = true := fun i hin => by
    have h := hi i hin
    rw [Nat.mul_one] at h
    have hsome : xs[i]? = some xs[i] := List.getElem?_eq_getElem (by omega)
    rw [hsome] at h
    obtain ⟨x, h1, h2, h3⟩ := DataW.trod_int he h
    exact ⟨x, h1, h3⟩
  have hp : ∀ y ∈ xs, y.2 = [] := fun y hy => by
    obtain ⟨i, hil, hiy⟩ := List.getElem_of_mem hy
    have h := hi i (by omega)
    have hsome : xs[i]? = some xs[i] := List.getElem?_eq_getElem hil
    rw [hsome] at h
    obtain ⟨x, h1, h2, h3⟩ := DataW.trod_int he h
    rw [← hiy, h2]
  obtain ⟨zs, h1, h2, h3⟩ := cells_of_one n K v.cells.toList hl hone
  refine ⟨zs, ?_, h2, ?_, h3⟩
  · cases v with
    | agg cs =>
      simp only [Value.cells] at h1
      rw [aggI, ← h1]
    | _ => simp [Value.cells] at hl; omega
  · simp only [Prod.mk.injEq] at hx
    rw [hx.2]
    exact List.flatMap_eq_nil_iff.2 hp
end Go.Proofs.YtlhloldjlfcchaaDoor
