/- Arrays of numbers: whether two are the same; one that is written out. -/
import Derived.Test.YtohnicmacmkapaaDoorOrdA
import Derived.Test.YtohnicmacmkapaaDoorClampA
import Derived.ChangeKeysEq
import Derived.Laws.StructEq
namespace Go.Proofs.YtohnicmacmkapaaDoor
open Go.RowKit
set_option linter.unusedVariables false
set_option maxRecDepth 8000

section
variable {P : Program} {ops : Array Oper} {o : Oper} {a : Act} {w : World} {R : Value → World → Prop}

theorem run_partI (e : TypeId) (d : TypeDesc) (he : P.underlying e = some d) (hd : (match d with | .struct _ | .array _ _ => true | _ => false) = false) (K : IntKind) (zs : List Int) (i : Nat) (hi : i < zs.length) :
    (part e (zs.map (Value.int K)).toArray i).run P w = .ok (.int K (at0 zs i)) w := by
  have hagg : (isAgg e).run P w = .ok false w := by
    unfold isAgg
    rw [Sem.run_bind, run_underlying he w]
    cases d <;> simp_all
  simp [part, Sem.run_bind, hagg, hi, at0]
theorem run_eqItemsI (d : Nat) (e : TypeId) (K K' : IntKind) (xs ys : List Int) (he : P.underlying e = some (.int K')) : ∀ is : List Nat, (∀ i ∈ is, i < xs.length ∧ i < ys.length) →
    (Op.eqItems (d + 1) e 1 (xs.map (Value.int K)).toArray (ys.map (Value.int K)).toArray is).run P w = .ok (decide (∀ i ∈ is, at0 xs i = at0 ys i)) w
  | [], _ => by simp [Op.eqItems]
  | i :: is, h => by
    have h1 := run_partI (w := w) e _ he rfl K xs i (h i (by simp)).1
    have h2 := run_partI (w := w) e _ he rfl K ys i (h i (by simp)).2
    have h3 := run_eqItemsI d e K K' xs ys he is (fun j hj => h j (by simp [hj]))
    have h4 := run_equalIn_int (P := P) w d e K K' (at0 xs i) (at0 ys i) he
    simp only [Op.eqItems, Sem.run_bind, Nat.mul_one, h1, h2, h4, Result.andThen_ok]
    by_cases hb : at0 xs i = at0 ys i
    · simp [hb, h3]
    · simp [hb]
theorem run_eqI (t e : TypeId) (n : Nat) (hu : P.underlying t = some (.array n e)) (K K' : IntKind) (he : P.underlying e = some (.int K')) (hc : (P.info? e).map (·.size) = some 1) (hg : P.eqGuardType P.depth t = false) (x y : Operand) (xs ys : List Int) (hx : xs.length = n) (hy : ys.length = n) :
    (do eqGuard .eql t x y (aggI K xs) (aggI K ys); binOp .eql t (aggI K xs) (aggI K ys) : Sem Value).run P w = .ok (.bool (decide (xs = ys))) w := by
  cases hi : P.info? e with
  | none => rw [hi] at hc; cases hc
  | some i =>
    have hcells : P.cellsOf e = 1 := by simp [Program.cellsOf, hc]
    have hq : (eqGuard .eql t x y (aggI K xs) (aggI K ys)).run P w = .ok () w := by
      simp [eqGuard, aggI, Sem.run_bind, hg]
    have hall : (∀ i ∈ List.range n, at0 xs i = at0 ys i) ↔ xs = ys := by
      constructor
      · intro h
        exact eq_of_all (by omega) fun j hj => h j (List.mem_range.2 (by omega))
      · rintro rfl _ _; rfl
    simp only [Sem.run_bind, hq, Result.andThen_ok]
    unfold aggI
    rw [run_eql_struct, show (10000 : Nat) = 9999 + 1 from rfl, run_equalIn_array w 9999 _ _ hu hi, hcells, show (9999 : Nat) = 9998 + 1 from rfl, run_eqItemsI 9998 e K K' xs ys he (List.range n) (fun i hi => by have := List.mem_range.1 hi; omega)]
    simp only [Result.andThen_ok]
    congr 2
    exact decide_eq_decide.2 hall
theorem Does.eqlI (hw : Region.wanted o (yielded ops a.tmps) = true) (t t' e : TypeId) (x y : Operand) (ho : o.op = .binOp .eql t x y t') (n : Nat) (hu : P.underlying t = some (.array n e)) (K K' : IntKind) (he : P.underlying e = some (.int K')) (hc : (P.info? e).map (·.size) = some 1) (hg : P.eqGuardType P.depth t = false)
    (xs ys : List Int) (hx : a.eval x = aggI K xs) (hy : a.eval y = aggI K ys) (hxl : xs.length = n) (hyl : ys.length = n) (b : Bool) (hb : decide (xs = ys) = b) (hR : R (.bool b) w) : Does P ops o a w R := by
  refine Does.pure hw (.bool b) ?_ hR
  unfold execOp
  have h := run_eqI (w := w) t e n hu K K' he hc hg x y xs ys hxl hyl
  simp only [ho, hx, hy, Sem.run_bind] at h ⊢
  rw [h, hb]
  rfl
theorem wpList_eqlI {rest : List Oper} {Q : Exit → Act → World → Prop} (hgd : o.guard = none) (t t' e : TypeId) (x y : Operand) (ho : o.op = .binOp .eql t x y t') (n : Nat) (hu : P.underlying t = some (.array n e)) (K K' : IntKind) (he : P.underlying e = some (.int K')) (hc : (P.info? e).map (·.size) = some 1) (hg : P.eqGuardType P.depth t = false)
    (xs ys : List Int) (hx : a.eval x = aggI K xs) (hy : a.eval y = aggI K ys) (hxl : xs.length = n) (hyl : ys.length = n) (b : Bool) (hb : decide (xs = ys) = b) (h : wpList P ops Q rest (a.put o.dst (.bool b)) w) : wpList P ops Q (o :: rest) a w := by
  refine wpList_plain hgd fun KK hK => ?_
  unfold Oper.wp execOp
  have h' := run_eqI (w := w) t e n hu K K' he hc hg x y xs ys hxl hyl
  simp only [ho, hx, hy, Sem.run_bind] at h' ⊢
  rw [h', hb]
  exact hK _ _ h
/-- An array that is written out. -/
theorem Does.buildI (hw : Region.wanted o (yielded ops a.tmps) = true) (t : TypeId) (parts : Array (Nat × Operand)) (ho : o.op = .build t parts) (K : IntKind) (zs : List Int)
    (ps : List (Nat × Value)) (hf : P.built t ps = some (zs.map (Value.int K)).toArray) (hps : parts.toList.map (fun (i, x) => (i, a.eval x)) = ps) (hR : R (aggI K zs) w) : Does P ops o a w R := by
  have hf : P.built t (parts.map fun (i, x) => (i, a.eval x)).toList = some (zs.map (Value.int K)).toArray := by rw [Array.toList_map, hps]; exact hf
  clear hps
  refine Does.pure hw _ ?_ hR
  unfold execOp
  simp only [ho, Sem.run_bind, run_build w t _ _ hf, Result.andThen_ok]
  rfl
theorem wpList_buildI {rest : List Oper} {Q : Exit → Act → World → Prop} (hgd : o.guard = none) (t : TypeId) (parts : Array (Nat × Operand)) (ho : o.op = .build t parts) (K : IntKind) (zs : List Int)
    (ps : List (Nat × Value)) (hf : P.built t ps = some (zs.map (Value.int K)).toArray) (hps : parts.toList.map (fun (i, x) => (i, a.eval x)) = ps) (h : wpList P ops Q rest (a.put o.dst (aggI K zs)) w) : wpList P ops Q (o :: rest) a w := by
  have hf : P.built t (parts.map fun (i, x) => (i, a.eval x)).toList = some (zs.map (Value.int K)).toArray := by rw [Array.toList_map, hps]; exact hf
  clear hps
  refine wpList_plain hgd fun KK hK => ?_
  unfold Oper.wp execOp
  simp only [ho, Sem.run_bind, run_build w t _ _ hf, Result.andThen_ok]
  exact hK _ _ h
/-- A new variable, and what it holds, in one step. -/
theorem wpList_newI {o1 o2 : Oper} {rest : List Oper} {Q : Exit → Act → World → Prop} (hg1 : o1.guard = none) (hg2 : o2.guard = none) (t : TypeId) (d : Tmp) (y : Operand) (ho1 : o1.op = .alloc t) (ho2 : o2.op = .store t (.tmp d) y) (hd1 : o1.dst = some d) (hd2 : o2.dst = none)
    (K : IntKind) (n : Nat) (hz : (P.info? t).bind (·.zero) = some (.agg (Array.replicate n (Value.int K 0)))) (hi : (P.info? t).map (·.size) = some n) (hd : d < a.tmps.size)
    (ys : List Int) (hyd : y ≠ .tmp d) (hy : a.eval y = aggI K ys) (hl : ys.length = n)
    (h : ∀ w' B, w.heap.size ≤ B → B < w'.heap.size → Arr K w' B ys → Below w.heap.size w w' → wpList P ops Q rest (a.put (some d) (.pointer (some ⟨B, 0, none⟩))) w') : wpList P ops Q (o1 :: o2 :: rest) a w := by
  refine wpList_allocI hg1 t ho1 K n hz fun w1 A1 s1 b1 => ?_
  rw [hd1]
  have he : (a.put (some d) (.pointer (some ⟨w.heap.size, 0, none⟩))).eval (.tmp d) = .pointer (some ⟨w.heap.size, 0, none⟩) := by
    simp only [Act.eval, Array.getD_eq_getD_getElem?, put_get]
    simp [hd]
  refine wpList_storeI hg2 t (.tmp d) y ho2 n hi w.heap.size he K (List.replicate n 0) ys (by rw [Act.eval_put (fun e he => by cases he; exact hyd)]; exact hy) A1 (by simp) hl fun A2 => ?_
  rw [hd2]
  have hb := Below.setRow b1 (Nat.le_refl _) (ys.map (Value.int K)).toArray
  have hsz : w.heap.size < (w1.setRow w.heap.size (ys.map (Value.int K)).toArray).heap.size := by simpa [World.setRow] using s1
  exact h _ w.heap.size (Nat.le_refl _) hsz A2 hb
/-- A slice of the whole of an array. -/
theorem wpList_sliceI {rest : List Oper} {Q : Exit → Act → World → Prop} (hgd : o.guard = none) (t : TypeId) (x : Operand) (ho : o.op = .slice t x none none none) (v : Value) (hx : (execOp a.eval o).run P w = .ok (.value v) w) (h : wpList P ops Q rest (a.put o.dst v) w) : wpList P ops Q (o :: rest) a w := by
  refine wpList_plain hgd fun KK hK => ?_
  unfold Oper.wp
  rw [hx]
  exact hK _ _ h
end
end Go.Proofs.YtohnicmacmkapaaDoor
