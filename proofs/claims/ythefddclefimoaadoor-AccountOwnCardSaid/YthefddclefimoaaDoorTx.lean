/- Operations on texts. No program stands here. -/
import Derived.Test.YthefddclefimoaaDoorVw
namespace Go.Proofs.YthefddclefimoaaDoor
open Go.RowKit
set_option linter.unusedVariables false
set_option linter.unusedSimpArgs false
/-- A text's byte. -/
def atS (s : ByteArray) (k : Nat) : Int := (s.data[k]?.getD 0).toNat
theorem atS_lo (s : ByteArray) (k : Nat) : 0 ≤ atS s k ∧ atS s k ≤ 255 := by
  unfold atS
  have := (s.data[k]?.getD 0).toNat_lt
  omega
-- rows that encode
theorem oc_rowsX {α : Type} {enc : α → List Value} (h : ∀ x, ∀ u ∈ enc x, u.oneCell' = true) (xs : List α) : ∀ r ∈ xs.map enc, ∀ u ∈ r, u.oneCell' = true := fun r hr => by
  obtain ⟨x, _, rfl⟩ := List.mem_map.1 hr
  exact h x
theorem at_mapX {α : Type} {enc : α → List Value} {xs : List α} {i : Nat} {x : α} (h : xs[i]? = some x) : (xs.map enc)[i]? = some (enc x) := by rw [List.getElem?_map, h]; rfl
/-- The first place of one of this kind. -/
def idxX {α : Type} (p : α → Bool) : List α → Int → Int
  | [], _ => -1
  | x :: l, i => if p x then i else idxX p l (i + 1)
theorem idxX_step {α : Type} {p : α → Bool} {xs : List α} {i : Nat} {x : α} (h : xs[i]? = some x) (hx : p x = false) : idxX p (xs.drop i) i = idxX p (xs.drop (i + 1)) ((i + 1 : Nat) : Int) := by
  obtain ⟨hl, he⟩ := List.getElem?_eq_some_iff.1 h
  rw [List.drop_eq_getElem_cons hl, he, idxX, hx]
  simp
theorem idxX_here {α : Type} {p : α → Bool} {xs : List α} {i : Nat} {x : α} (h : xs[i]? = some x) (hx : p x = true) : idxX p (xs.drop i) i = i := by
  obtain ⟨hl, he⟩ := List.getElem?_eq_some_iff.1 h
  rw [List.drop_eq_getElem_cons hl, he, idxX, hx]
  simp
theorem idxX_end {α : Type} {p : α → Bool} {xs : List α} {i : Nat} (h : ¬ (i : Int) < xs.length) : idxX p (xs.drop i) i = -1 := by
  rw [List.drop_eq_nil_of_le (by omega)]; rfl
theorem idxX_any {α : Type} {p : α → Bool} : ∀ (xs : List α) (i : Int), 0 ≤ i → decide (0 ≤ idxX p xs i) = xs.any p
  | [], i, _ => by simp [idxX]
  | x :: l, i, h => by
    unfold idxX
    cases hx : p x with
    | true => simp [hx, h]
    | false => simp [hx]; have := idxX_any (p := p) l (i + 1) (by omega); simpa using this
section
variable {P : Program} {ops : Array Oper} {o : Oper} {N : Nat} {f : Fl} {w : World}
theorem dx_lenX {α : Type} {enc : α → List Value} {xs : List α} {t s s' : Nat} {L : List Nat} {x : Operand} {v : Value} (ho : o.op = .call { callee := .builtin .len, args := #[x], argTypes := #[t] }) (ht : sliceB P t s' = true) (hx : ev f x = some v) (hr : RdF s L w v (xs.map enc)) (hw : wantF ops o f = some true := by rfl) : DV P ops o N f w (.int .i64 (xs.length : Int)) := by
  have := dx_lenF (N := N) ho ht hx hr hw
  rwa [List.length_map] at this
theorem dx_at {t : TypeId} {x y : Operand} {s : ByteArray} {K : IntKind} {i : Int} (k : Nat) (ho : o.op = .index t x y) (ht : P.underlying t = some .string) (hx : ev f x = some (.string s)) (hy : ev f y = some (.int K i)) (hi : i = (k : Int)) (hk : k < s.size) (hw : wantF ops o f = some true := by rfl) : DV P ops o N f w (.int .u8 (atS s k)) := fun a ha => by
  subst hi
  have hx := ha.ev hx
  have hy := ha.ev hy
  have hk' : k < s.data.size := hk
  have e : s[k]? = some (s.data[k]?.getD 0) := by
    rw [getElem?_pos s k hk, Array.getElem?_eq_getElem hk']
    rfl
  refine Does.pure (wantF_of ha hw) _ ?_ ⟨rfl, rfl⟩
  unfold execOp
  simp only [ho, hx, hy, Instr.index, asIntOf, Sem.run_bind, Sem.run_pure, Result.andThen_ok, run_underlying ht]
  have h0 : (0 : Int) ≤ (k : Int) := by omega
  simp [h0, e, atS]
end
end Go.Proofs.YthefddclefimoaaDoor
