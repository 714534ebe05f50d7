/- Arrays of numbers: whether two are not the same. -/
import Derived.Test.YtlhloldjlfcchaaDoorArrEq
namespace Go.Proofs.YtlhloldjlfcchaaDoor
open Go.RowKit
set_option linter.unusedVariables false

section
variable {P : Program} {ops : Array Oper} {o : Oper} {a : Act} {w : World} {R : Value → World → Prop}

theorem run_neI (t e : TypeId) (n : Nat) (hu : P.underlying t = some (.array n e)) (K K' : IntKind) (he : P.underlying e = some (.int K')) (hc : (P.info? e).map (·.size) = some 1) (hg : P.eqGuardType P.depth t = false) (x y : Operand) (xs ys : List Int) (hx : xs.length = n) (hy : ys.length = n) :
    (do eqGuard .neq t x y (aggI K xs) (aggI K ys); binOp .neq t (aggI K xs) (aggI K ys) : Sem Value).run P w = .ok (.bool (!decide (xs = ys))) w := by
  cases hi : P.info? e with
  | none => rw [hi] at hc; cases hc
  | some i =>
    have hcells : P.cellsOf e = 1 := by simp [Program.cellsOf, hc]
    have hq : (eqGuard .neq t x y (aggI K xs) (aggI K ys)).run P w = .ok () w := by
      simp [eqGuard, aggI, Sem.run_bind, hg]
    have hall : (∀ i ∈ List.range n, at0 xs i = at0 ys i) ↔ xs = ys := by
      constructor
      · intro h
        exact eq_of_all (by omega) fun j hj => h j (List.mem_range.2 (by omega))
      · rintro rfl _ _; rfl
    simp only [Sem.run_bind, hq, Result.andThen_ok]
    unfold aggI
    rw [run_neq_struct, show (10000 : Nat) = 9999 + 1 from rfl, run_equalIn_array w 9999 _ _ hu hi, hcells, show (9999 : Nat) = 9998 + 1 from rfl, run_eqItemsI 9998 e K K' xs ys he (List.range n) (fun i hi => by have := List.mem_range.1 hi; omega)]
    simp only [Result.andThen_ok]
    congr 3
    exact decide_eq_decide.2 hall
theorem Does.neI (hw : Region.wanted o (yielded ops a.tmps) = true) (t t' e : TypeId) (x y : Operand) (ho : o.op = .binOp .neq t x y t') (n : Nat) (hu : P.underlying t = some (.array n e)) (K K' : IntKind) (he : P.underlying e = some (.int K')) (hc : (P.info? e).map (·.size) = some 1) (hg : P.eqGuardType P.depth t = false)
    (xs ys : List Int) (hx : a.eval x = aggI K xs) (hy : a.eval y = aggI K ys) (hxl : xs.length = n) (hyl : ys.length = n) (b : Bool) (hb : (!decide (xs = ys)) = b) (hR : R (.bool b) w) : Does P ops o a w R := by
  refine Does.pure hw (.bool b) ?_ hR
  unfold execOp
  have h := run_neI (w := w) t e n hu K K' he hc hg x y xs ys hxl hyl
  simp only [ho, hx, hy, Sem.run_bind] at h ⊢
  rw [h, hb]
  rfl
theorem off_of {g t : Nat} {b c : Bool} (hg : o.guard = some (g, b)) (hd : dstAt ops g = some t) (hv : a.eval (.tmp t) = .bool c) (hne : c ≠ b) : Region.wanted o (yielded ops a.tmps) = false := by
  have h : a.tmps[t]? = some (.bool c) := by
    simp only [Act.eval, Array.getD_eq_getD_getElem?] at hv
    cases hq : a.tmps[t]? with
    | none => rw [hq] at hv; simp [undef] at hv
    | some x => rw [hq] at hv; simp at hv; rw [hv]
  have hy : yielded ops a.tmps g = some c := by
    unfold dstAt at hd
    simp [yielded, hd, h]
  unfold Region.wanted
  rw [hg]
  simp [hy, hne]
end
end Go.Proofs.YtlhloldjlfcchaaDoor
