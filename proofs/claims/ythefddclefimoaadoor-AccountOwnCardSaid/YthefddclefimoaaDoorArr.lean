/- Laws of ours over the walk: an array of numbers, as one value that no rule opens, and as a row of memory. -/
import Derived.Test.YthefddclefimoaaDoorRow
import Derived.Laws.Rows
import Derived.KernelRfl
namespace Go.Proofs.YthefddclefimoaaDoor
open Go.RowKit
set_option linter.unusedVariables false

/-- An array of numbers of one kind. -/
def aggI (K : IntKind) (zs : List Int) : Value := .agg (zs.map (Value.int K)).toArray
/-- Block B is an array that holds these numbers and nothing else, all of it free. -/
def Arr (K : IntKind) (w : World) (B : Nat) (zs : List Int) : Prop := ∃ t, w.heap[B]? = some (.cells (zs.map (Value.int K)).toArray t (0, 0))

theorem Arr.row {K : IntKind} {w : World} {B : Nat} {zs : List Int} (h : Arr K w B zs) : BRow K w B zs := by
  obtain ⟨t, h⟩ := h
  refine ⟨_, t, _, h, by simp, fun j hj => ⟨by simp [hj, at0], by simp⟩⟩
theorem Arr.below {K : IntKind} {w w' : World} {B : Nat} {zs : List Int} (h : Arr K w B zs) (hb : Below w.heap.size w w') : Arr K w' B zs := by
  obtain ⟨t, h⟩ := h
  exact ⟨t, by rw [hb.block B (Array.getElem?_eq_some_iff.1 h).1]; exact h⟩
theorem Arr.lt {K : IntKind} {w : World} {B : Nat} {zs : List Int} (h : Arr K w B zs) : B < w.heap.size := by
  obtain ⟨t, h⟩ := h
  exact (Array.getElem?_eq_some_iff.1 h).1
theorem Arr.cell {K : IntKind} {w : World} {B : Nat} {zs : List Int} (h : Arr K w B zs) {k : Nat} (hk : k < zs.length) : w.cell? ⟨B, k, none⟩ = some (.int K (at0 zs k)) := h.row.cell hk
theorem Arr.free {K : IntKind} {w : World} {B : Nat} {zs : List Int} (h : Arr K w B zs) {k : Nat} (hk : k < zs.length) : w.frozen? ⟨B, k, none⟩ = false := h.row.free hk
theorem Arr.set {K : IntKind} {w : World} {B : Nat} {zs : List Int} (h : Arr K w B zs) (k : Nat) (x : Int) : Arr K (w.setCell ⟨B, k, none⟩ (.int K x)) B (zs.set k x) := by
  obtain ⟨t, h⟩ := h
  refine ⟨t, ?_⟩
  simp [World.setCell, Array.getElem?_modify, h, List.map_set]
theorem Arr.setOther {K : IntKind} {w : World} {B : Nat} {zs : List Int} (h : Arr K w B zs) {B' : Nat} (hne : B ≠ B') (k : Nat) (v : Value) : Arr K (w.setCell ⟨B', k, none⟩ v) B zs := by
  obtain ⟨t, h⟩ := h
  exact ⟨t, by rw [heap_setCell_other w ⟨B', k, none⟩ B v hne]; exact h⟩
theorem Arr.rowOther {K : IntKind} {w : World} {B : Nat} {zs : List Int} (h : Arr K w B zs) {B' : Nat} (hne : B ≠ B') (cs : Array Value) : Arr K (w.setRow B' cs) B zs := by
  obtain ⟨t, h⟩ := h
  exact ⟨t, by rw [setRow_other w B' B cs hne]; exact h⟩
theorem Arr.setRow {K : IntKind} {w : World} {B : Nat} {zs : List Int} (h : Arr K w B zs) (ys : List Int) : Arr K (w.setRow B (ys.map (Value.int K)).toArray) B ys := by
  obtain ⟨t, h⟩ := h
  exact ⟨t, setRow_heap w B _ _ t _ h⟩
theorem Arr.drewN {K : IntKind} {w : World} {B : Nat} {zs : List Int} (h : Arr K w B zs) (n : Nat) : Arr K (w.drewN n) B zs := h.below (below_drewN (Below.refl _ _) n)
/-- What a call is that gives this and leaves the memory that was there. -/
abbrev Ret (f : FuncId) (args : Array Value) (v : Value) (W : World) : Prop := Calls Tryd.prog f args W fun e w' => e = .returned v ∧ Below W.heap.size W w'

section
variable {P : Program} {w : World} {ops : Array Oper} {rest : List Oper} {o : Oper} {a : Act} {Q : Exit → Act → World → Prop}

/-- Goes on only where the next operation is of this form. -/
theorem at_n (n : Tmp) {b c d e f} (h : wpList P ops Q (⟨some n, b, c, d, e, f⟩ :: rest) a w) : wpList P ops Q (⟨some n, b, c, d, e, f⟩ :: rest) a w := h
theorem at_op (h : wpList P ops Q (o :: rest) a w) : wpList P ops Q (o :: rest) a w := h
theorem wpList_boxI (hgd : o.guard = none) (t : TypeId) (x : Operand) (ho : o.op = .box t x) (K : IntKind) (zs : List Int) (hx : a.eval x = aggI K zs)
    (h : ∀ w1, Arr K w1 w.heap.size zs → w.heap.size < w1.heap.size → Below w.heap.size w w1 → wpList P ops Q rest (a.put o.dst (.pointer (some ⟨w.heap.size, 0, none⟩))) w1) : wpList P ops Q (o :: rest) a w := by
  refine wpList_plain hgd fun Kq hK => ?_
  unfold Oper.wp execOp
  simp only [ho, hx, aggI, Value.cells, Sem.run_bind, Instr.box, newVar, newRow, run_newObj_alloc, Sem.run_pure, Result.andThen_ok]
  exact hK _ _ (h _ ⟨_, heap_alloc_new w _⟩ (Array.getElem?_eq_some_iff.1 (heap_alloc_new w _)).1 ((Below.refl _ _).alloc (Nat.le_refl _) _))

theorem wpList_allocI (hgd : o.guard = none) (t : TypeId) (ho : o.op = .alloc t) (K : IntKind) (n : Nat) (hz : (P.info? t).bind (·.zero) = some (.agg (Array.replicate n (Value.int K 0))))
    (h : ∀ w1, Arr K w1 w.heap.size (List.replicate n 0) → w.heap.size < w1.heap.size → Below w.heap.size w w1 → wpList P ops Q rest (a.put o.dst (.pointer (some ⟨w.heap.size, 0, none⟩))) w1) : wpList P ops Q (o :: rest) a w := by
  refine wpList_plain hgd fun Kq hK => ?_
  cases hi : P.info? t with
  | none => rw [hi] at hz; cases hz
  | some i =>
    rw [hi] at hz
    have hz' : i.zero = some (.agg (Array.replicate n (Value.int K 0))) := hz
    have hti : (typeInfo t).run P w = .ok i w := by simp [typeInfo, hi]
    unfold Oper.wp execOp
    simp only [ho, Sem.run_bind, Instr.alloc, zeroValue, hti, hz', newVar, newRow, run_newObj_alloc, Sem.run_pure, Result.andThen_ok, Value.cells]
    refine hK _ _ (h _ ⟨t, ?_⟩ (Array.getElem?_eq_some_iff.1 (heap_alloc_new w _)).1 ((Below.refl _ _).alloc (Nat.le_refl _) _))
    rw [heap_alloc_new]
    simp

theorem wpList_loadI (hgd : o.guard = none) (ty : TypeId) (x : Operand) (ho : o.op = .load ty x) (n : Nat) (e : TypeId) (hu : P.underlying ty = some (.array n e)) (hi : (P.info? ty).map (·.size) = some n)
    (B : Nat) (hx : a.eval x = .pointer (some ⟨B, 0, none⟩)) (K : IntKind) (zs : List Int) (hz : Arr K w B zs) (hn : zs.length = n)
    (h : wpList P ops Q rest (a.put o.dst (aggI K zs)) w) : wpList P ops Q (o :: rest) a w := by
  obtain ⟨t, hz⟩ := hz
  exact wpList_load_row hgd ty x ho B hx t _ _ _ hz hu rfl (by rw [hi]; simp [hn]) h

theorem wpList_storeI (hgd : o.guard = none) (ty : TypeId) (x y : Operand) (ho : o.op = .store ty x y) (n : Nat) (hi : (P.info? ty).map (·.size) = some n)
    (B : Nat) (hx : a.eval x = .pointer (some ⟨B, 0, none⟩)) (K : IntKind) (zs ys : List Int) (hy : a.eval y = aggI K ys) (hz : Arr K w B zs) (hn : zs.length = n) (hm : ys.length = n)
    (h : Arr K (w.setRow B (ys.map (Value.int K)).toArray) B ys → wpList P ops Q rest (a.put o.dst undef) (w.setRow B (ys.map (Value.int K)).toArray)) : wpList P ops Q (o :: rest) a w := by
  have h' := h (hz.setRow ys)
  obtain ⟨t, hz⟩ := hz
  refine wpList_store_row hgd ty x y ho B _ hx hy t _ hz (by rw [hi]; simp [hm]) (by simp [hn, hm]) ?_ h'
  simp [Value.oneCell']

theorem run_indexI (ty : TypeId) (n : Nat) (e : TypeId) (hu : P.underlying ty = some (.array n e)) (d : TypeDesc) (he : P.underlying e = some d) (hd : (match d with | .struct _ | .array _ _ => true | _ => false) = false)
    (hi : (P.info? e).map (·.size) = some 1) (K : IntKind) (zs : List Int) (hn : zs.length = n) (i : Int) (h0 : 0 ≤ i) (h1 : i < n) :
    (Instr.index ty (aggI K zs) (.int .i64 i)).run P w = .ok (.int K (at0 zs i.toNat)) w := by
  cases hq : P.info? e with
  | none => rw [hq] at hi; cases hi
  | some q =>
    have hs : q.size = 1 := by simpa [hq] using hi
    have hlt : i.toNat < zs.length := by omega
    have hagg : (isAgg e).run P w = .ok false w := by
      unfold isAgg
      rw [Sem.run_bind, run_underlying he w]
      cases d <;> simp_all
    simp [Instr.index, aggI, asIntOf, Sem.run_bind, run_underlying hu w, h0, h1, sizeOf, typeInfo, hq, hs, part, hagg, hlt, at0]

theorem results_cellI {fn : Func} {p : Tmp} {ty : TypeId} (h : fn.results = #[.cell p ty]) (tmps : Array Value) (n : Nat) (e : TypeId) (hu : P.underlying ty = some (.array n e)) (hi : (P.info? ty).map (·.size) = some n)
    (B : Nat) (hp : tmps.getD p undef = .pointer (some ⟨B, 0, none⟩)) (K : IntKind) (zs : List Int) (hz : Arr K w B zs) (hn : zs.length = n) : (results fn tmps).run P w = .ok (aggI K zs) w := by
  obtain ⟨t, hz⟩ := hz
  exact results_cell_row h tmps w B t _ _ _ hp hz hu rfl (by rw [hi]; simp [hn])
theorem results_cell_tmpI {fn : Func} {p t1 : Tmp} {ty : TypeId} (h : fn.results = #[.cell p ty, .tmp t1]) (tmps : Array Value) (n : Nat) (e : TypeId) (hu : P.underlying ty = some (.array n e)) (hi : (P.info? ty).map (·.size) = some n)
    (B : Nat) (hp : tmps.getD p undef = .pointer (some ⟨B, 0, none⟩)) (K : IntKind) (zs : List Int) (hz : Arr K w B zs) (hn : zs.length = n) : (results fn tmps).run P w = .ok (.tuple #[aggI K zs, tmps.getD t1 undef]) w := by
  obtain ⟨t, hz⟩ := hz
  have hp' : tmps[p]?.getD undef = .pointer (some ⟨B, 0, none⟩) := by simpa using hp
  have hl := run_loadVar_row (P := P) w B t ty _ _ _ hz hu rfl (by rw [hi]; simp [hn])
  simp [results, h, hp', asAddr, hl, aggI]
end
end Go.Proofs.YthefddclefimoaaDoor
