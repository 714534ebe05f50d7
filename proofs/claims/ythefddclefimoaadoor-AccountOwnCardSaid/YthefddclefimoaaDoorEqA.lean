/- Arrays and structs: whether two are the same. No program stands here. -/
import Derived.Test.YthefddclefimoaaDoorOwn
import Derived.ChangeKeysEq
import Derived.Laws.StructEq
namespace Go.Proofs.YthefddclefimoaaDoor
open Go.RowKit
set_option linter.unusedVariables false
set_option linter.unusedSimpArgs false
set_option maxRecDepth 8000

section
variable {P : Program} {ops : Array Oper} {o : Oper} {N : Nat} {f : Fl} {w : World}
theorem run_partI (e : TypeId) (d : TypeDesc) (he : P.underlying e = some d) (hd : (match d with | .struct _ | .array _ _ => true | _ => false) = false) (K : IntKind) (zs : List Int) (i : Nat) (hi : i < zs.length) :
    (part e (zs.map (Value.int K)).toArray i).run P w = .ok (.int K (at0 zs i)) w := by
  have hagg : (isAgg e).run P w = .ok false w := by
    unfold isAgg
    rw [Sem.run_bind, run_underlying he w]
    cases d <;> simp_all
  simp [part, Sem.run_bind, hagg, hi, at0]
theorem run_eqItemsI (d : Nat) (e : TypeId) (K K' : IntKind) (xs ys : List Int) (he : P.underlying e = some (.int K')) : ∀ is : List Nat, (∀ i ∈ is, i < xs.length ∧ i < ys.length) →
    (Op.eqItems (d + 1) e 1 (xs.map (Value.int K)).toArray (ys.map (Value.int K)).toArray is).run P w = .ok (decide (∀ i ∈ is, at0 xs i = at0 ys i)) w
  | [], _ => by simp [Op.eqItems]
  | i :: is, h => by
    have h1 := run_partI (w := w) e _ he rfl K xs i (h i (by simp)).1
    have h2 := run_partI (w := w) e _ he rfl K ys i (h i (by simp)).2
    have h3 := run_eqItemsI d e K K' xs ys he is (fun j hj => h j (by simp [hj]))
    have h4 := run_equalIn_int (P := P) w d e K K' (at0 xs i) (at0 ys i) he
    simp only [Op.eqItems, Sem.run_bind, Nat.mul_one, h1, h2, h4, Result.andThen_ok]
    by_cases hb : at0 xs i = at0 ys i
    · simp [hb, h3]
    · simp [hb]
theorem run_eqI (t e : TypeId) (n : Nat) (hu : P.underlying t = some (.array n e)) (K K' : IntKind) (he : P.underlying e = some (.int K')) (hc : (P.info? e).map (·.size) = some 1) (hg : P.eqGuardType P.depth t = false) (x y : Operand) (xs ys : List Int) (hx : xs.length = n) (hy : ys.length = n) :
    (do eqGuard .eql t x y (aggI K xs) (aggI K ys); binOp .eql t (aggI K xs) (aggI K ys) : Sem Value).run P w = .ok (.bool (decide (xs = ys))) w := by
  cases hi : P.info? e with
  | none => rw [hi] at hc; cases hc
  | some i =>
    have hcells : P.cellsOf e = 1 := by simp [Program.cellsOf, hc]
    have hq : (eqGuard .eql t x y (aggI K xs) (aggI K ys)).run P w = .ok () w := by
      simp [eqGuard, aggI, Sem.run_bind, hg]
    have hall : (∀ i ∈ List.range n, at0 xs i = at0 ys i) ↔ xs = ys := by
      constructor
      · intro h
        exact eq_of_all (by omega) fun j hj => h j (List.mem_range.2 (by omega))
      · rintro rfl _ _; rfl
    simp only [Sem.run_bind, hq, Result.andThen_ok]
    unfold aggI
    rw [run_eql_struct, show (10000 : Nat) = 9999 + 1 from rfl, run_equalIn_array w 9999 _ _ hu hi, hcells, show (9999 : Nat) = 9998 + 1 from rfl, run_eqItemsI 9998 e K K' xs ys he (List.range n) (fun i hi => by have := List.mem_range.1 hi; omega)]
    simp only [Result.andThen_ok]
    congr 2
    exact decide_eq_decide.2 hall
theorem run_equalI (t e : TypeId) (n : Nat) (hu : P.underlying t = some (.array n e)) (K K' : IntKind) (he : P.underlying e = some (.int K')) (hc : (P.info? e).map (·.size) = some 1) (d : Nat) (xs ys : List Int) (hx : xs.length = n) (hy : ys.length = n) :
    (Op.equalIn (d + 2) t (aggI K xs) (aggI K ys)).run P w = .ok (decide (xs = ys)) w := by
  cases hi : P.info? e with
  | none => rw [hi] at hc; cases hc
  | some i =>
    have hcells : P.cellsOf e = 1 := by simp [Program.cellsOf, hc]
    have hall : (∀ i ∈ List.range n, at0 xs i = at0 ys i) ↔ xs = ys := by
      constructor
      · intro h
        exact eq_of_all (by omega) fun j hj => h j (List.mem_range.2 (by omega))
      · rintro rfl _ _; rfl
    unfold aggI
    rw [run_equalIn_array w (d + 1) _ _ hu hi, hcells, run_eqItemsI d e K K' xs ys he (List.range n) (fun i hi => by have := List.mem_range.1 hi; omega)]
    congr 1
    exact decide_eq_decide.2 hall
theorem dx_eqA {t t' e : TypeId} {x y : Operand} {n : Nat} {K K' : IntKind} {xs ys : List Int} (ho : o.op = .binOp .eql t x y t') (hu : P.underlying t = some (.array n e)) (he : P.underlying e = some (.int K')) (hc : sizeB P e 1 = true) (hg : P.eqGuardType P.depth t = false) (hx : ev f x = some (aggI K xs)) (hy : ev f y = some (aggI K ys)) (hxl : xs.length = n) (hyl : ys.length = n) (hw : wantF ops o f = some true := by rfl) : DV P ops o N f w (.bool (decide (xs = ys))) := fun a ha => by
  have hx := ha.ev hx
  have hy := ha.ev hy
  refine Does.pure (wantF_of ha hw) _ ?_ ⟨rfl, rfl⟩
  unfold execOp
  have h := run_eqI (w := w) t e n hu K K' he (of_sizeM hc) hg x y xs ys hxl hyl
  simp only [ho, hx, hy, Sem.run_bind] at h ⊢
  rw [h]
  rfl
theorem dx_neqA {t t' e : TypeId} {x y : Operand} {n : Nat} {K K' : IntKind} {xs ys : List Int} (ho : o.op = .binOp .neq t x y t') (hu : P.underlying t = some (.array n e)) (he : P.underlying e = some (.int K')) (hc : sizeB P e 1 = true) (hg : P.eqGuardType P.depth t = false) (hx : ev f x = some (aggI K xs)) (hy : ev f y = some (aggI K ys)) (hxl : xs.length = n) (hyl : ys.length = n) (hw : wantF ops o f = some true := by rfl) : DV P ops o N f w (.bool (!decide (xs = ys))) := fun a ha => by
  have hx := ha.ev hx
  have hy := ha.ev hy
  have hq : (eqGuard .neq t x y (aggI K xs) (aggI K ys)).run P w = .ok () w := by
    simp [eqGuard, aggI, Sem.run_bind, hg]
  have h := run_equalI (w := w) t e n hu K K' he (of_sizeM hc) 9998 xs ys hxl hyl
  have e1 : binOp .neq t (aggI K xs) (aggI K ys) = (do pure (.bool (!(← Op.equal t (aggI K xs) (aggI K ys))))) := rfl
  have e2 : (Op.equal t (aggI K xs) (aggI K ys)).run P w = .ok (decide (xs = ys)) w := h
  exact Does.pure (wantF_of ha hw) _ (by unfold execOp; simp only [ho, hx, hy, Sem.run_bind, hq, Result.andThen_ok, e1, e2, Sem.run_pure]) ⟨rfl, rfl⟩
theorem dx_eqB {t t' : TypeId} {x y : Operand} {b c : Bool} (ho : o.op = .binOp .eql t x y t') (hu : P.underlying t = some .bool) (hx : ev f x = some (.bool b)) (hy : ev f y = some (.bool c)) (hw : wantF ops o f = some true := by rfl) : DV P ops o N f w (.bool (decide (b = c))) := fun a ha => by
  have hx := ha.ev hx
  have hy := ha.ev hy
  have e1 : binOp .eql t (.bool b) (.bool c) = (do pure (.bool (← Op.equal t (.bool b) (.bool c)))) := rfl
  have e2 : (Op.equal t (.bool b) (.bool c)).run P w = .ok (b == c) w := run_equalIn_bool' w 9999 t b c hu
  have e3 : (b == c) = decide (b = c) := by cases b <;> cases c <;> rfl
  exact Does.pure (wantF_of ha hw) _ (by unfold execOp; simp only [ho, hx, hy, eqGuard, Sem.run_bind, Sem.run_pure, Result.andThen_ok, e1]; simp [e2, e3]) ⟨rfl, rfl⟩
theorem dx_neqB {t t' : TypeId} {x y : Operand} {b c : Bool} (ho : o.op = .binOp .neq t x y t') (hu : P.underlying t = some .bool) (hx : ev f x = some (.bool b)) (hy : ev f y = some (.bool c)) (hw : wantF ops o f = some true := by rfl) : DV P ops o N f w (.bool (!decide (b = c))) := fun a ha => by
  have hx := ha.ev hx
  have hy := ha.ev hy
  have e1 : binOp .neq t (.bool b) (.bool c) = (do pure (.bool (!(← Op.equal t (.bool b) (.bool c))))) := rfl
  have e2 : (Op.equal t (.bool b) (.bool c)).run P w = .ok (b == c) w := run_equalIn_bool' w 9999 t b c hu
  have e3 : (b == c) = decide (b = c) := by cases b <;> cases c <;> rfl
  exact Does.pure (wantF_of ha hw) _ (by unfold execOp; simp only [ho, hx, hy, eqGuard, Sem.run_bind, Sem.run_pure, Result.andThen_ok, e1]; simp [e2, e3]) ⟨rfl, rfl⟩
end
end Go.Proofs.YthefddclefimoaaDoor
