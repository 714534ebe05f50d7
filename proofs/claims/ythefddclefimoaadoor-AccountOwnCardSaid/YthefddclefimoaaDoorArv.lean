/- Arrays of three as values; tests that cannot be. No program stands here. -/
import Derived.Test.YthefddclefimoaaDoorNs
namespace Go.Proofs.YthefddclefimoaaDoor
open Go.RowKit
set_option linter.unusedVariables false
set_option linter.unusedSimpArgs false
def arr3B (P : Program) (t : TypeId) : Bool := match P.info? t, P.underlying t with
  | some it, some (.array n e) => match it.zero, P.info? e with
    | some z, some ie => ie.size == 1 && z.cells.size == 3 && n == 3 && oneB P e
    | _, _ => false
  | _, _ => false
theorem built3 {P : Program} {t : TypeId} {a b c : Value} (h : arr3B P t = true) (ha : a.oneCell' = true) (hb : b.oneCell' = true) (hc : c.oneCell' = true) : P.built t [(0, a), (1, b), (2, c)] = some [a, b, c].toArray := by
  have ha := Array.ext' (oc_one ha) (ys := #[a])
  have hb := Array.ext' (oc_one hb) (ys := #[b])
  have hc := Array.ext' (oc_one hc) (ys := #[c])
  unfold arr3B at h
  unfold Program.built
  split at h
  · rename_i it n e h1 h2
    rw [h1, h2]
    simp only
    split at h
    · rename_i z ie h3 h4
      rw [h3, h4]
      simp only [Bool.and_eq_true, beq_iff_eq] at h
      obtain ⟨⟨⟨h5, h6⟩, _⟩, _⟩ := h
      simp only [h5]
      obtain ⟨l, hl⟩ : ∃ l, z.cells = l := ⟨_, rfl⟩
      rw [hl] at h6 ⊢
      obtain ⟨l⟩ := l
      match l, h6 with
      | [x, y, u], _ => simp [Instr.fill, ha, hb, hc]
    · cases h
  · cases h
section
variable {P : Program} {ops : Array Oper} {o : Oper} {N : Nat} {f : Fl} {w : World}
theorem dv_F {p : Prop} [Decidable p] (h : DV P ops o N f w (.bool (!decide p))) (hp : p) : DV P ops o N f w (.bool false) := by rw [decide_eq_true hp] at h; exact h
theorem dx_ixA {t : TypeId} {x y : Operand} {a b c v : Value} {K : IntKind} {i : Int} (k : Nat) (ho : o.op = .index t x y) (ht : arr3B P t = true) (hx : ev f x = some (.agg [a, b, c].toArray)) (hy : ev f y = some (.int K i)) (hi : i = (k : Int)) (hv : [a, b, c][k]? = some v) (hw : wantF ops o f = some true := by rfl) : DV P ops o N f w v := fun q hq => by
  subst hi
  have hx := hq.ev hx
  have hy := hq.ev hy
  unfold arr3B at ht
  split at ht
  · rename_i it n e h1 h2
    split at ht
    · rename_i z ie h3 h4
      simp only [Bool.and_eq_true, beq_iff_eq] at ht
      obtain ⟨⟨⟨h5, h6⟩, rfl⟩, h7⟩ := ht
      obtain ⟨d, hu, hd, _⟩ := of_oneB h7
      have hagg : (isAgg e).run P w = .ok false w := by
        unfold isAgg
        rw [Sem.run_bind, run_underlying hu w]
        cases d <;> simp_all
      have hlt : k < 3 := by have := (List.getElem?_eq_some_iff.1 hv).1; simpa using this
      refine Does.pure (wantF_of hq hw) _ ?_ ⟨rfl, rfl⟩
      have g1 : (0 : Int) ≤ (k : Int) := by omega
      have g2 : (k : Int) < 3 := by omega
      unfold execOp
      simp only [ho, hx, hy, Instr.index, asIntOf, Sem.run_bind, Sem.run_pure, Result.andThen_ok, run_underlying h2]
      simp [g1, g2, sizeOf, typeInfo, h4, h5, part, Sem.run_bind, hagg]
      have : ([a, b, c].toArray)[k]? = some v := by simpa using hv
      match k, hlt, hv with
      | 0, _, hv => simp at hv; simp [hv]
      | 1, _, hv => simp at hv; simp [hv]
      | 2, _, hv => simp at hv; simp [hv]
    · cases ht
  · cases ht
end
end Go.Proofs.YthefddclefimoaaDoor
