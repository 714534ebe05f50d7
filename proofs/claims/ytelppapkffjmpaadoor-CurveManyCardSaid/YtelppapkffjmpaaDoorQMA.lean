/- Merged: Plain words of ours on slices that are read, on worlds that have grown, and on bytes. No program stands here. Laws of ours over the walk: an append to a slice of the call's own, whatever is appended; a slice cut at its beginning. Bit by bit: what a disjunction of numbers apart, and a mask, come to. Laws of ours: a row of numbers that the call may write; a text as bytes, bytes as a text. Laws of ours over the walk: an array of numbers, as one value that no rule opens, and as a row of memory. A law of ours on regions whose order is drawn: each operation is shown once, from what holds of the operations that it waits for; what was shown of one stays true while the others run. No program stands here. One operation of a region, kind by kind, for the law on drawn orders. A law of ours on regions whose order is drawn and that make several variables and store into each: each operation is shown once. No program stands here. Package scalar's Clamp, and the reference's. Arrays of numbers: whether two are the same; one that is written out. Arrays of numbers: whether two are not the same. Rows of numbers of which a part is loaded or stored; addresses of fields and elements. No program stands here. One element of an array stored into, on a list of operations. Slices whose elements are rows of numbers: an element's address; a new one of zeros. No program stands here. From what a law's call does to the given statement: the arguments opened, the row closed. Arguments that are arrays of numbers, opened. -/
import Derived.Test.YtelppapkffjmpaaDoorRows
import Derived.WalkKit
import Derived.ProofKit
import Derived.OpenShut
import Derived.Handy
import Derived.Lib.Hide
import Derived.Outline
import Derived.Deep.QuietTactic
import Derived.BigQuiet
import Derived.Carry
import Derived.Laws.AppendOwnNone
import Derived.Laws.BitsAllLaws
import Derived.Laws.BytesArg
import Derived.Laws.IdiomStrings
import Derived.Laws.Rows
import Derived.KernelRfl
import Derived.RegionTactic
import Derived.Laws.Tables
import Derived.Laws.CopyRow
import Derived.ChangeKeysEq
import Derived.Laws.StructEq
import Derived.Deep.MidRow
import Derived.Lib.SlBuf
import Derived.Laws.MakeOwn
section
namespace Go.Proofs.YtelppapkffjmpaaDoor
open Go.RowKit
set_option linter.unusedVariables false

/-- The number at a place, as a word that no rewriting opens. -/
def at0 (l : List Int) (k : Nat) : Int := l[k]?.getD 0
theorem at0_lt {l : List Int} {k : Nat} (h : k < l.length) : at0 l k = l[k] := by simp [at0, h]
theorem at0_mem {l : List Int} {k : Nat} (h : k < l.length) : at0 l k ∈ l := by rw [at0_lt h]; exact List.getElem_mem _
theorem at0_cons_zero (x : Int) (l : List Int) : at0 (x :: l) 0 = x := rfl
theorem at0_cons_succ (x : Int) (l : List Int) (k : Nat) : at0 (x :: l) (k + 1) = at0 l k := by simp [at0]
/-- All are bytes. -/
def Bytes (l : List Int) : Prop := ∀ x ∈ l, 0 ≤ x ∧ x ≤ 255
theorem Bytes.at {l : List Int} (h : Bytes l) (k : Nat) : 0 ≤ at0 l k ∧ at0 l k ≤ 255 := by
  by_cases hk : k < l.length
  · exact h _ (at0_mem hk)
  · simp [at0, hk]
theorem Bytes.drop {l : List Int} (h : Bytes l) (k : Nat) : Bytes (l.drop k) := fun x hx => h x (List.mem_of_mem_drop hx)
theorem Bytes.append {l m : List Int} (h : Bytes l) (k : Bytes m) : Bytes (l ++ m) := fun x hx => (List.mem_append.1 hx).elim (h x) (k x)
theorem eq_of_all {la lb : List Int} (hl : la.length = lb.length) (h : ∀ j, j < la.length → at0 la j = at0 lb j) : la = lb := by
  apply List.ext_getElem hl
  intro i h1 h2
  have := h i h1
  rwa [at0_lt h1, at0_lt h2] at this

/-- A slice value that holds these integers, of one kind. -/
def RdI (K : IntKind) (w : World) (v : Value) (zs : List Int) : Prop :=
  ∃ a cap, v = .slice a zs.length cap ∧ zs.length ≤ cap ∧ cap ≤ maxLen ∧ (∀ k, k < zs.length → ∃ x o, a = some ⟨x, o, none⟩ ∧ w.cell? ⟨x, o + k, none⟩ = some (.int K (at0 zs k))) ∧ (a = none → cap = 0)

theorem below_drewN {B : Nat} {a w : World} (h : Below B a w) (n : Nat) : Below B a (w.drewN n) := ⟨h.os, h.tape, h.output, h.size, h.block⟩

theorem RdI.below {K : IntKind} {w w' : World} {v : Value} {zs : List Int} (h : RdI K w v zs) (hb : Below w.heap.size w w') : RdI K w' v zs := by
  obtain ⟨a, cap, rfl, h1, h2, h3, h4⟩ := h
  refine ⟨a, cap, rfl, h1, h2, fun k hk => ?_, h4⟩
  obtain ⟨x, o, rfl, hc⟩ := h3 k hk
  exact ⟨x, o, rfl, by rw [hb.cell (World.block_lt_of_cell? w _ hc)]; exact hc⟩

theorem RdI.drewN {K : IntKind} {w : World} {v : Value} {zs : List Int} (h : RdI K w v zs) (n : Nat) : RdI K (w.drewN n) v zs := h.below (below_drewN (Below.refl _ _) n)

theorem RdI.nil {K : IntKind} {w : World} : RdI K w (.slice none 0 0) [] := ⟨none, 0, rfl, Nat.le_refl _, by unfold maxLen; omega, fun k hk => by simp at hk, fun _ => rfl⟩

/-- What is below the heap's size of a later world is below an earlier one's. -/
theorem below_then {a b c : World} (h : Below a.heap.size a b) (k : Below b.heap.size b c) : Below a.heap.size a c := h.trans (k.mono h.size)

end Go.Proofs.YtelppapkffjmpaaDoor
end
section
namespace Go.Proofs.YtelppapkffjmpaaDoor
open Go.RowKit
set_option linter.unusedVariables false

end Go.Proofs.YtelppapkffjmpaaDoor
end
section
namespace Go.Proofs.YtelppapkffjmpaaDoor
open Go.RowKit
set_option linter.unusedVariables false

theorem nat_or_add (x y n : Nat) (hx : x % 2 ^ n = 0) (hy : y < 2 ^ n) : x ||| y = x + y := by
  have hx' : x = (x / 2 ^ n) <<< n := by
    rw [Nat.shiftLeft_eq]
    have := Nat.div_add_mod x (2 ^ n)
    rw [hx, Nat.add_zero, Nat.mul_comm] at this
    exact this.symm
  rw [hx', ← Nat.shiftLeft_add_eq_or_of_lt hy]
theorem u64_or_add (x y : Int) (n : Nat) (hx0 : 0 ≤ x) (hx1 : x < 18446744073709551616) (hx : x % 2 ^ n = 0) (hy0 : 0 ≤ y) (hy1 : y < 2 ^ n) (hy2 : y < 18446744073709551616) : bits .or .u64 x y = x + y := by
  obtain ⟨a, rfl⟩ := Int.eq_ofNat_of_zero_le hx0
  obtain ⟨b, rfl⟩ := Int.eq_ofNat_of_zero_le hy0
  rw [u64_or_nat a b (by omega) (by omega), nat_or_add a b n (by exact_mod_cast hx) (by exact_mod_cast hy1)]
  rfl
theorem u64_and_mask (x : Int) (n m : Nat) (hm : m = 2 ^ n - 1) (hn : m < 18446744073709551616) (hx0 : 0 ≤ x) (hx1 : x < 18446744073709551616) : bits .and .u64 x (m : Int) = x % 2 ^ n := by
  obtain ⟨a, rfl⟩ := Int.eq_ofNat_of_zero_le hx0
  rw [u64_and_nat a m (by omega) hn, hm, Nat.and_two_pow_sub_one_eq_mod]
  clear hx0 hx1 hn hm
  rw [Int.natCast_emod, Int.natCast_pow]
  rfl
theorem wrap_u64_eq (x : Int) : IntKind.u64.wrap x = x % 18446744073709551616 := IntKind.wrap_u64 x
end Go.Proofs.YtelppapkffjmpaaDoor
end
section
namespace Go.Proofs.YtelppapkffjmpaaDoor
open Go.RowKit
set_option linter.unusedVariables false

/-- Block B holds these numbers from its head on, and each may be written. -/
def BRow (K : IntKind) (w : World) (B : Nat) (zs : List Int) : Prop :=
  ∃ cur e fz, w.heap[B]? = some (.cells cur e fz) ∧ zs.length ≤ cur.size ∧ ∀ j, j < zs.length → cur[j]? = some (.int K (at0 zs j)) ∧ ¬ (fz.1 ≤ j ∧ j < fz.2)

theorem BRow.cell {K : IntKind} {w : World} {B : Nat} {zs : List Int} (h : BRow K w B zs) {k : Nat} (hk : k < zs.length) : w.cell? ⟨B, k, none⟩ = some (.int K (at0 zs k)) := by
  obtain ⟨cur, e, fz, h1, h2, h3⟩ := h
  simp [World.cell?, h1, (h3 k hk).1]
theorem BRow.free {K : IntKind} {w : World} {B : Nat} {zs : List Int} (h : BRow K w B zs) {k : Nat} (hk : k < zs.length) : w.frozen? ⟨B, k, none⟩ = false := by
  obtain ⟨cur, e, ⟨lo, hi⟩, h1, h2, h3⟩ := h
  have := (h3 k hk).2
  simp only [World.frozen?, h1]
  simp at this ⊢
  exact this
theorem at0_set (zs : List Int) (k j : Nat) (x : Int) (hk : k < zs.length) : at0 (zs.set k x) j = if j = k then x else at0 zs j := by
  unfold at0
  by_cases h : j = k
  · subst h; simp [hk]
  · rw [if_neg h, List.getElem?_set_ne (by omega)]
theorem BRow.set {K : IntKind} {w : World} {B : Nat} {zs : List Int} (h : BRow K w B zs) {k : Nat} (hk : k < zs.length) (x : Int) : BRow K (w.setCell ⟨B, k, none⟩ (.int K x)) B (zs.set k x) := by
  obtain ⟨cur, e, fz, h1, h2, h3⟩ := h
  refine ⟨cur.setIfInBounds k (.int K x), e, fz, ?_, by simpa using h2, fun j hj => ?_⟩
  · simp [World.setCell, Array.getElem?_modify, h1]
  · simp only [List.length_set] at hj
    refine ⟨?_, (h3 j hj).2⟩
    rw [at0_set zs k j x hk]
    by_cases hjk : j = k
    · subst hjk
      have : j < cur.size := by omega
      simp [this]
    · rw [if_neg hjk, Array.getElem?_setIfInBounds_ne (by omega)]
      exact (h3 j hj).1
theorem BRow.below {K : IntKind} {w w' : World} {B : Nat} {zs : List Int} (h : BRow K w B zs) (hb : Below w.heap.size w w') : BRow K w' B zs := by
  obtain ⟨cur, e, fz, h1, h2, h3⟩ := h
  exact ⟨cur, e, fz, by rw [hb.block B (Array.getElem?_eq_some_iff.1 h1).1]; exact h1, h2, h3⟩
theorem BRow.lt {K : IntKind} {w : World} {B : Nat} {zs : List Int} (h : BRow K w B zs) : B < w.heap.size := by
  obtain ⟨cur, e, fz, h1, h2, h3⟩ := h
  exact (Array.getElem?_eq_some_iff.1 h1).1
section
variable {P : Program} {w : World} {ops : Array Oper} {rest : List Oper} {o : Oper} {a : Act} {Q : Exit → Act → World → Prop}
end
end Go.Proofs.YtelppapkffjmpaaDoor
end
section
namespace Go.Proofs.YtelppapkffjmpaaDoor
open Go.RowKit
set_option linter.unusedVariables false

/-- An array of numbers of one kind. -/
def aggI (K : IntKind) (zs : List Int) : Value := .agg (zs.map (Value.int K)).toArray
/-- Block B is an array that holds these numbers and nothing else, all of it free. -/
def Arr (K : IntKind) (w : World) (B : Nat) (zs : List Int) : Prop := ∃ t, w.heap[B]? = some (.cells (zs.map (Value.int K)).toArray t (0, 0))

theorem Arr.row {K : IntKind} {w : World} {B : Nat} {zs : List Int} (h : Arr K w B zs) : BRow K w B zs := by
  obtain ⟨t, h⟩ := h
  refine ⟨_, t, _, h, by simp, fun j hj => ⟨by simp [hj, at0], by simp⟩⟩
theorem Arr.below {K : IntKind} {w w' : World} {B : Nat} {zs : List Int} (h : Arr K w B zs) (hb : Below w.heap.size w w') : Arr K w' B zs := by
  obtain ⟨t, h⟩ := h
  exact ⟨t, by rw [hb.block B (Array.getElem?_eq_some_iff.1 h).1]; exact h⟩
theorem Arr.lt {K : IntKind} {w : World} {B : Nat} {zs : List Int} (h : Arr K w B zs) : B < w.heap.size := by
  obtain ⟨t, h⟩ := h
  exact (Array.getElem?_eq_some_iff.1 h).1
theorem Arr.cell {K : IntKind} {w : World} {B : Nat} {zs : List Int} (h : Arr K w B zs) {k : Nat} (hk : k < zs.length) : w.cell? ⟨B, k, none⟩ = some (.int K (at0 zs k)) := h.row.cell hk
theorem Arr.free {K : IntKind} {w : World} {B : Nat} {zs : List Int} (h : Arr K w B zs) {k : Nat} (hk : k < zs.length) : w.frozen? ⟨B, k, none⟩ = false := h.row.free hk
theorem Arr.set {K : IntKind} {w : World} {B : Nat} {zs : List Int} (h : Arr K w B zs) (k : Nat) (x : Int) : Arr K (w.setCell ⟨B, k, none⟩ (.int K x)) B (zs.set k x) := by
  obtain ⟨t, h⟩ := h
  refine ⟨t, ?_⟩
  simp [World.setCell, Array.getElem?_modify, h, List.map_set]
theorem Arr.setOther {K : IntKind} {w : World} {B : Nat} {zs : List Int} (h : Arr K w B zs) {B' : Nat} (hne : B ≠ B') (k : Nat) (v : Value) : Arr K (w.setCell ⟨B', k, none⟩ v) B zs := by
  obtain ⟨t, h⟩ := h
  exact ⟨t, by rw [heap_setCell_other w ⟨B', k, none⟩ B v hne]; exact h⟩
theorem Arr.rowOther {K : IntKind} {w : World} {B : Nat} {zs : List Int} (h : Arr K w B zs) {B' : Nat} (hne : B ≠ B') (cs : Array Value) : Arr K (w.setRow B' cs) B zs := by
  obtain ⟨t, h⟩ := h
  exact ⟨t, by rw [setRow_other w B' B cs hne]; exact h⟩
theorem Arr.setRow {K : IntKind} {w : World} {B : Nat} {zs : List Int} (h : Arr K w B zs) (ys : List Int) : Arr K (w.setRow B (ys.map (Value.int K)).toArray) B ys := by
  obtain ⟨t, h⟩ := h
  exact ⟨t, setRow_heap w B _ _ t _ h⟩
theorem Arr.drewN {K : IntKind} {w : World} {B : Nat} {zs : List Int} (h : Arr K w B zs) (n : Nat) : Arr K (w.drewN n) B zs := h.below (below_drewN (Below.refl _ _) n)
/-- What a call is that gives this and leaves the memory that was there. -/
abbrev Ret (f : FuncId) (args : Array Value) (v : Value) (W : World) : Prop := Calls Tryd.prog f args W fun e w' => e = .returned v ∧ Below W.heap.size W w'

section
variable {P : Program} {w : World} {ops : Array Oper} {rest : List Oper} {o : Oper} {a : Act} {Q : Exit → Act → World → Prop}

/-- Goes on only where the next operation is of this form. -/
theorem at_n (n : Tmp) {b c d e f} (h : wpList P ops Q (⟨some n, b, c, d, e, f⟩ :: rest) a w) : wpList P ops Q (⟨some n, b, c, d, e, f⟩ :: rest) a w := h
theorem at_op (h : wpList P ops Q (o :: rest) a w) : wpList P ops Q (o :: rest) a w := h
theorem wpList_boxI (hgd : o.guard = none) (t : TypeId) (x : Operand) (ho : o.op = .box t x) (K : IntKind) (zs : List Int) (hx : a.eval x = aggI K zs)
    (h : ∀ w1, Arr K w1 w.heap.size zs → w.heap.size < w1.heap.size → Below w.heap.size w w1 → wpList P ops Q rest (a.put o.dst (.pointer (some ⟨w.heap.size, 0, none⟩))) w1) : wpList P ops Q (o :: rest) a w := by
  refine wpList_plain hgd fun Kq hK => ?_
  unfold Oper.wp execOp
  simp only [ho, hx, aggI, Value.cells, Sem.run_bind, Instr.box, newVar, newRow, run_newObj_alloc, Sem.run_pure, Result.andThen_ok]
  exact hK _ _ (h _ ⟨_, heap_alloc_new w _⟩ (Array.getElem?_eq_some_iff.1 (heap_alloc_new w _)).1 ((Below.refl _ _).alloc (Nat.le_refl _) _))

theorem wpList_allocI (hgd : o.guard = none) (t : TypeId) (ho : o.op = .alloc t) (K : IntKind) (n : Nat) (hz : (P.info? t).bind (·.zero) = some (.agg (Array.replicate n (Value.int K 0))))
    (h : ∀ w1, Arr K w1 w.heap.size (List.replicate n 0) → w.heap.size < w1.heap.size → Below w.heap.size w w1 → wpList P ops Q rest (a.put o.dst (.pointer (some ⟨w.heap.size, 0, none⟩))) w1) : wpList P ops Q (o :: rest) a w := by
  refine wpList_plain hgd fun Kq hK => ?_
  cases hi : P.info? t with
  | none => rw [hi] at hz; cases hz
  | some i =>
    rw [hi] at hz
    have hz' : i.zero = some (.agg (Array.replicate n (Value.int K 0))) := hz
    have hti : (typeInfo t).run P w = .ok i w := by simp [typeInfo, hi]
    unfold Oper.wp execOp
    simp only [ho, Sem.run_bind, Instr.alloc, zeroValue, hti, hz', newVar, newRow, run_newObj_alloc, Sem.run_pure, Result.andThen_ok, Value.cells]
    refine hK _ _ (h _ ⟨t, ?_⟩ (Array.getElem?_eq_some_iff.1 (heap_alloc_new w _)).1 ((Below.refl _ _).alloc (Nat.le_refl _) _))
    rw [heap_alloc_new]
    simp

theorem wpList_loadI (hgd : o.guard = none) (ty : TypeId) (x : Operand) (ho : o.op = .load ty x) (n : Nat) (e : TypeId) (hu : P.underlying ty = some (.array n e)) (hi : (P.info? ty).map (·.size) = some n)
    (B : Nat) (hx : a.eval x = .pointer (some ⟨B, 0, none⟩)) (K : IntKind) (zs : List Int) (hz : Arr K w B zs) (hn : zs.length = n)
    (h : wpList P ops Q rest (a.put o.dst (aggI K zs)) w) : wpList P ops Q (o :: rest) a w := by
  obtain ⟨t, hz⟩ := hz
  exact wpList_load_row hgd ty x ho B hx t _ _ _ hz hu rfl (by rw [hi]; simp [hn]) h

theorem wpList_storeI (hgd : o.guard = none) (ty : TypeId) (x y : Operand) (ho : o.op = .store ty x y) (n : Nat) (hi : (P.info? ty).map (·.size) = some n)
    (B : Nat) (hx : a.eval x = .pointer (some ⟨B, 0, none⟩)) (K : IntKind) (zs ys : List Int) (hy : a.eval y = aggI K ys) (hz : Arr K w B zs) (hn : zs.length = n) (hm : ys.length = n)
    (h : Arr K (w.setRow B (ys.map (Value.int K)).toArray) B ys → wpList P ops Q rest (a.put o.dst undef) (w.setRow B (ys.map (Value.int K)).toArray)) : wpList P ops Q (o :: rest) a w := by
  have h' := h (hz.setRow ys)
  obtain ⟨t, hz⟩ := hz
  refine wpList_store_row hgd ty x y ho B _ hx hy t _ hz (by rw [hi]; simp [hm]) (by simp [hn, hm]) ?_ h'
  simp [Value.oneCell']

theorem run_indexI (ty : TypeId) (n : Nat) (e : TypeId) (hu : P.underlying ty = some (.array n e)) (d : TypeDesc) (he : P.underlying e = some d) (hd : (match d with | .struct _ | .array _ _ => true | _ => false) = false)
    (hi : (P.info? e).map (·.size) = some 1) (K : IntKind) (zs : List Int) (hn : zs.length = n) (i : Int) (h0 : 0 ≤ i) (h1 : i < n) :
    (Instr.index ty (aggI K zs) (.int .i64 i)).run P w = .ok (.int K (at0 zs i.toNat)) w := by
  cases hq : P.info? e with
  | none => rw [hq] at hi; cases hi
  | some q =>
    have hs : q.size = 1 := by simpa [hq] using hi
    have hlt : i.toNat < zs.length := by omega
    have hagg : (isAgg e).run P w = .ok false w := by
      unfold isAgg
      rw [Sem.run_bind, run_underlying he w]
      cases d <;> simp_all
    simp [Instr.index, aggI, asIntOf, Sem.run_bind, run_underlying hu w, h0, h1, sizeOf, typeInfo, hq, hs, part, hagg, hlt, at0]

theorem results_cellI {fn : Func} {p : Tmp} {ty : TypeId} (h : fn.results = #[.cell p ty]) (tmps : Array Value) (n : Nat) (e : TypeId) (hu : P.underlying ty = some (.array n e)) (hi : (P.info? ty).map (·.size) = some n)
    (B : Nat) (hp : tmps.getD p undef = .pointer (some ⟨B, 0, none⟩)) (K : IntKind) (zs : List Int) (hz : Arr K w B zs) (hn : zs.length = n) : (results fn tmps).run P w = .ok (aggI K zs) w := by
  obtain ⟨t, hz⟩ := hz
  exact results_cell_row h tmps w B t _ _ _ hp hz hu rfl (by rw [hi]; simp [hn])
theorem results_cell_tmpI {fn : Func} {p t1 : Tmp} {ty : TypeId} (h : fn.results = #[.cell p ty, .tmp t1]) (tmps : Array Value) (n : Nat) (e : TypeId) (hu : P.underlying ty = some (.array n e)) (hi : (P.info? ty).map (·.size) = some n)
    (B : Nat) (hp : tmps.getD p undef = .pointer (some ⟨B, 0, none⟩)) (K : IntKind) (zs : List Int) (hz : Arr K w B zs) (hn : zs.length = n) : (results fn tmps).run P w = .ok (.tuple #[aggI K zs, tmps.getD t1 undef]) w := by
  obtain ⟨t, hz⟩ := hz
  have hp' : tmps[p]?.getD undef = .pointer (some ⟨B, 0, none⟩) := by simpa using hp
  have hl := run_loadVar_row (P := P) w B t ty _ _ _ hz hu rfl (by rw [hi]; simp [hn])
  simp [results, h, hp', asAddr, hl, aggI]
end
end Go.Proofs.YtelppapkffjmpaaDoor
end
section
namespace Go.Proofs.YtelppapkffjmpaaDoor
open Go.RowKit
set_option linter.unusedVariables false

/-- Which operations an operation waits for. -/
def depsOf (md : Region.Mode) (o : Oper) : List Nat := (o.after.toList.filter (Region.binds md)).map (·.on)
def depsAt (md : Region.Mode) (ops : Array Oper) (i : Nat) : List Nat := ((ops[i]?).map (depsOf md)).getD []
def dstAt (ops : Array Oper) (i : Nat) : Option Tmp := (ops[i]?).bind (·.dst)
/-- What was yielded by some operations alone. -/
def restr (f : Nat → Value) (l : List Nat) (k : Nat) : Value := if l.contains k then f k else undef
def upd {α : Type} (f : Nat → α) (i : Nat) (v : α) (k : Nat) : α := if k = i then v else f k
/-- The act, with what these operations have yielded. -/
def putDeps (ops : Array Oper) (f : Nat → Value) : List Nat → Act → Act
  | [], a => a
  | j :: l, a => putDeps ops f l (a.put (dstAt ops j) (f j))
/-- No two operations write one slot; an operation looks at a slot that another one writes just if it waits for it, or the other way round. -/
def ordB (md : Region.Mode) (ops : Array Oper) : Bool :=
  (List.range ops.size).all fun i => match ops[i]? with
    | none => true
    | some o => (match o.op with | .select .. => false | _ => true) && (depsOf md o).all (fun j => decide (j < i)) &&
      (List.range ops.size).all fun j => match dstAt ops j with
        | none => true
        | some t => (j == i || dstAt ops i != some t) && (!(o.looksAt ops).contains t || j == i || (depsOf md o).contains j || (depsAt md ops j).contains i) && !((depsOf md o).contains j && (depsAt md ops j).contains i)

/-- An act that is another one with what some operations have yielded. -/
structure Agrees (ops : Array Oper) (L : Nat → Prop) (f : Nat → Value) (a a' : Act) : Prop where
  defers : a'.defers = a.defers
  size : a'.tmps.size = a.tmps.size
  put : ∀ j t, L j → dstAt ops j = some t → t < a.tmps.size → a'.tmps[t]? = some (f j)
  same : ∀ t, (∀ j, L j → dstAt ops j ≠ some t) → a'.tmps[t]? = a.tmps[t]?

theorem Agrees.start {ops : Array Oper} {f : Nat → Value} {a : Act} {L : Nat → Prop} (h : ∀ j, ¬ L j) : Agrees ops L f a a :=
  ⟨rfl, rfl, fun j t hj => absurd hj (h j), fun t _ => rfl⟩
theorem put_size (a : Act) (d : Option Tmp) (v : Value) : (a.put d v).tmps.size = a.tmps.size := by cases d <;> simp [Act.put]
theorem put_defers (a : Act) (d : Option Tmp) (v : Value) : (a.put d v).defers = a.defers := by cases d <;> rfl
theorem put_get (a : Act) (d : Option Tmp) (v : Value) (t : Nat) : (a.put d v).tmps[t]? = if d = some t ∧ t < a.tmps.size then some v else a.tmps[t]? := by
  cases d with
  | none => simp [Act.put]
  | some d =>
    simp only [Act.put, Option.some.injEq]
    by_cases h : d = t
    · subst h
      by_cases hs : d < a.tmps.size
      · simp [hs]
      · simp [hs]
    · simp [h, Array.getElem?_setIfInBounds_ne h]

/-- No two of these write one slot. -/
def Own (ops : Array Oper) : Prop := ∀ i j t, dstAt ops i = some t → dstAt ops j = some t → i = j
theorem Agrees.step {ops : Array Oper} (ho : Own ops) {L L' : Nat → Prop} {f f' : Nat → Value} {a a' : Act} (h : Agrees ops L f a a') (i : Nat) (v : Value)
    (hL : ∀ j, L' j ↔ (j = i ∨ L j)) (hf : ∀ j, j ≠ i → L j → f' j = f j) (hi : f' i = v) : Agrees ops L' f' a (a'.put (dstAt ops i) v) := by
  refine ⟨by rw [put_defers]; exact h.defers, by rw [put_size]; exact h.size, fun j t hj hd ht => ?_, fun t hn => ?_⟩
  · rw [put_get]
    by_cases e : dstAt ops i = some t
    · have hij := ho i j t e hd
      subst hij
      rw [if_pos ⟨e, by rw [h.size]; exact ht⟩, hi]
    · rw [if_neg (fun x => e x.1)]
      have hji : j ≠ i := fun e2 => e (e2 ▸ hd)
      have hLj := ((hL j).1 hj).resolve_left hji
      rw [h.put j t hLj hd ht, hf j hji hLj]
  · rw [put_get, if_neg (fun x => hn i ((hL i).2 (.inl rfl)) x.1)]
    exact h.same t fun j hj => hn j ((hL j).2 (.inr hj))
theorem Agrees.congr {ops : Array Oper} {L L' : Nat → Prop} {f f' : Nat → Value} {a a' : Act} (h : Agrees ops L f a a') (hL : ∀ j, L j ↔ L' j) (hf : ∀ j, L j → f j = f' j) : Agrees ops L' f' a a' :=
  ⟨h.defers, h.size, fun j t hj hd ht => by rw [← hf j ((hL j).2 hj)]; exact h.put j t ((hL j).2 hj) hd ht, fun t hn => h.same t fun j hj => hn j ((hL j).1 hj)⟩
theorem Agrees.puts {ops : Array Oper} (ho : Own ops) {f : Nat → Value} {a : Act} : ∀ (l : List Nat) {L : Nat → Prop} {a' : Act}, Agrees ops L f a a' → Agrees ops (fun j => j ∈ l ∨ L j) f a (putDeps ops f l a')
  | [], L, a', h => h.congr (by simp) (fun _ _ => rfl)
  | i :: l, L, a', h => by
    have h1 := h.step ho (L' := fun j => j = i ∨ L j) (f' := f) i (f i) (fun j => Iff.rfl) (fun _ _ _ => rfl) rfl
    have h2 := Agrees.puts ho l h1
    exact h2.congr (fun j => by simp only [List.mem_cons]; exact ⟨fun h => h.elim (fun h => .inl (.inr h)) (fun h => h.elim (fun h => .inl (.inl h)) .inr), fun h => h.elim (fun h => h.elim (fun h => .inr (.inl h)) .inl) (fun h => .inr (.inr h))⟩) (fun _ _ => rfl)
theorem Agrees.of {ops : Array Oper} (ho : Own ops) (f : Nat → Value) (a : Act) (l : List Nat) : Agrees ops (· ∈ l) f a (putDeps ops f l a) :=
  (Agrees.puts ho l (Agrees.start (L := fun _ => False) (fun _ h => h))).congr (by simp) (fun _ _ => rfl)
theorem Agrees.unique {ops : Array Oper} {L : Nat → Prop} {f : Nat → Value} {a a' a'' : Act} (h : Agrees ops L f a a') (k : Agrees ops L f a a'') : a' = a'' := by
  have ht : a'.tmps = a''.tmps := by
    apply Array.ext_getElem?
    intro t
    by_cases ht : t < a.tmps.size
    · by_cases e : ∃ j, L j ∧ dstAt ops j = some t
      · obtain ⟨j, hj, hd⟩ := e
        rw [h.put j t hj hd ht, k.put j t hj hd ht]
      · have hn : ∀ j, L j → dstAt ops j ≠ some t := fun j hj hd => e ⟨j, hj, hd⟩
        rw [h.same t hn, k.same t hn]
    · rw [Array.getElem?_eq_none (by rw [h.size]; omega), Array.getElem?_eq_none (by rw [k.size]; omega)]
  have hd : a'.defers = a''.defers := by rw [h.defers, k.defers]
  cases a'; cases a''
  simp only at ht hd
  rw [ht, hd]

theorem eval_slots {a a' : Act} {x : Operand} (h : ∀ t, x = .tmp t → a'.tmps[t]? = a.tmps[t]?) : a'.eval x = a.eval x := by
  cases x with
  | tmp t => have := h t rfl; simp [Act.eval, Array.getD_eq_getD_getElem?, this]
  | _ => rfl
theorem wanted_slots {ops : Array Oper} {o : Oper} {a a' : Act} (h : ∀ t, t ∈ o.looksAt ops → a'.tmps[t]? = a.tmps[t]?) : Region.wanted o (yielded ops a'.tmps) = Region.wanted o (yielded ops a.tmps) := by
  unfold Region.wanted
  cases hg : o.guard with
  | none => rfl
  | some gw =>
    obtain ⟨g, want⟩ := gw
    have hy : yielded ops a'.tmps g = yielded ops a.tmps g := by
      unfold yielded
      cases ht : (ops[g]?).bind (·.dst) with
      | none => rfl
      | some t =>
        have := h t (by simp [Oper.looksAt, hg, ht])
        simp [this]
    simp only [hy]
theorem exec_slots {ops : Array Oper} {o : Oper} {a a' : Act} (hs : ∀ cs b, o.op ≠ .select cs b) (h : ∀ t, t ∈ o.looksAt ops → a'.tmps[t]? = a.tmps[t]?) : execOp a'.eval o = execOp a.eval o :=
  execOp_congr o hs fun x hx => eval_slots fun t ht => h t (by subst ht; exact List.mem_append_left _ (List.mem_filterMap.2 ⟨.tmp t, by simpa using hx, rfl⟩))

section
variable {P : Program} {ops : Array Oper} {md : Region.Mode}

/-- What is shown of one operation: from the act with what it waits for. -/
def Does (P : Program) (ops : Array Oper) (o : Oper) (a : Act) (w : World) (R : Value → World → Prop) : Prop :=
  ∀ K : Act → World → Prop, (∀ v w', R v w' → K (a.put o.dst v) w') → if Region.wanted o (yielded ops a.tmps) then Oper.wp P o a w K (fun _ _ _ => False) else K (a.put o.dst undef) w

theorem put_put {a a' : Act} {d : Option Tmp} {u v : Value} (hs : a'.tmps.size = a.tmps.size) (h : a.put d u = a.put d v) : a'.put d u = a'.put d v := by
  cases d with
  | none => rfl
  | some d =>
    by_cases hd : d < a.tmps.size
    · have h1 := congrArg (fun x : Act => x.tmps[d]?) h
      simp only [put_get, hd, and_self, if_true, Option.some.injEq] at h1
      rw [h1]
    · simp only [Act.put]
      rw [Array.setIfInBounds_eq_of_size_le (by rw [hs]; exact Nat.le_of_not_lt hd), Array.setIfInBounds_eq_of_size_le (by rw [hs]; exact Nat.le_of_not_lt hd)]

theorem Does.wpOp {Q : Exit → Act → World → Prop} {i : Nat} {o : Oper} (hi : ops[i]? = some o) (hs : ∀ cs b, o.op ≠ .select cs b) {a a' : Act} {w : World} {R : Value → World → Prop} (hsz : a'.tmps.size = a.tmps.size)
    (hl : ∀ t, t ∈ o.looksAt ops → a'.tmps[t]? = a.tmps[t]?) (h : Does P ops o a w R) {K : Act → World → Prop} (hK : ∀ v w', R v w' → K (a'.put o.dst v) w') : wpOp P ops Q i K a' w := by
  unfold Go.wpOp
  simp only [hi]
  have h := h (fun a1 w1 => ∃ v, a1 = a.put o.dst v ∧ R v w1) (fun v w' hr => ⟨v, rfl, hr⟩)
  rw [wanted_slots hl]
  by_cases hw : Region.wanted o (yielded ops a.tmps) = true
  · rw [if_pos hw] at h ⊢
    refine .inl ?_
    unfold Oper.wp at *
    rw [exec_slots hs hl]
    generalize (execOp a.eval o).run P w = r at *
    cases r with
    | ok n w' =>
      cases n <;> simp only [Oper.upon] at h ⊢
      case value u => obtain ⟨v, he, hr⟩ := h; rw [put_put hsz he]; exact hK v _ hr
      case skip => obtain ⟨v, he, hr⟩ := h; rw [put_put hsz he]; exact hK v _ hr
      case defer d =>
        obtain ⟨v, he, hr⟩ := h
        have h1 := congrArg (fun x : Act => x.defers.length) he
        simp [put_defers] at h1
      case enter f args =>
        refine Calls.mono h fun e w'' he => ?_
        cases e with
        | returned u => obtain ⟨v, he, hr⟩ := he; show K (a'.put o.dst u) w''; rw [put_put hsz he]; exact hK v _ hr
        | panicked c => exact False.elim he
        | outgrown => obtain ⟨_, _, hf⟩ := he; exact False.elim hf
      case row row args => exact Rows.mono h fun u w'' he => by obtain ⟨v, he, hr⟩ := he; rw [put_put hsz he]; exact hK v _ hr
    | halt x w' =>
      cases x <;> simp only [Oper.upon] at h ⊢
  · rw [if_neg hw] at h ⊢
    obtain ⟨v, he, hr⟩ := h
    rw [put_put hsz he]
    exact hK v _ hr

theorem restr_upd {f : Nat → Value} {l : List Nat} {i : Nat} {v : Value} (h : l.contains i = false) : restr (upd f i v) l = restr f l := by
  funext k
  unfold restr upd
  by_cases e : k = i
  · subst e; rw [h]; simp
  · simp [e]

/-- What holds of an operation that has run. -/
abbrev Facts := Nat → (Nat → Value) → World → Prop

theorem ordB_own (h : ordB md ops = true) : Own ops := by
  intro i j t hi hj
  by_cases hij : i = j
  · exact hij
  · exfalso
    have hi' : i < ops.size := by
      rcases Nat.lt_or_ge i ops.size with h | h
      · exact h
      · simp [dstAt, Array.getElem?_eq_none h] at hi
    have hj' : j < ops.size := by
      rcases Nat.lt_or_ge j ops.size with h | h
      · exact h
      · simp [dstAt, Array.getElem?_eq_none h] at hj
    have h1 := List.all_eq_true.1 h i (List.mem_range.2 hi')
    rw [Array.getElem?_eq_getElem hi'] at h1
    simp only [Bool.and_eq_true] at h1
    have h2 := List.all_eq_true.1 h1.2 j (List.mem_range.2 hj')
    rw [hj] at h2
    simp only [Bool.and_eq_true] at h2
    have h3 := h2.1.1
    simp [hi] at h3
    exact hij h3.symm

theorem ordB_deps (h : ordB md ops = true) {i : Nat} {o : Oper} (hi : ops[i]? = some o) : (∀ cs b, o.op ≠ .select cs b) ∧ (∀ j ∈ depsOf md o, j < i) ∧
    ∀ j t, j < ops.size → dstAt ops j = some t → (t ∈ o.looksAt ops → j = i ∨ j ∈ depsOf md o ∨ i ∈ depsAt md ops j) ∧ ¬ (j ∈ depsOf md o ∧ i ∈ depsAt md ops j) := by
  have hi' : i < ops.size := (Array.getElem?_eq_some_iff.1 hi).1
  have h1 := List.all_eq_true.1 h i (List.mem_range.2 hi')
  rw [hi] at h1
  simp only [Bool.and_eq_true] at h1
  refine ⟨fun cs b e => ?_, fun j hj => ?_, fun j t hj hd => ?_⟩
  · have := h1.1.1
    rw [e] at this
    simp at this
  · have := List.all_eq_true.1 h1.1.2 j hj
    simpa using this
  · have h2 := List.all_eq_true.1 h1.2 j (List.mem_range.2 hj)
    rw [hd] at h2
    simp only [Bool.and_eq_true] at h2
    refine ⟨fun ht => ?_, fun hx => ?_⟩
    · have h3 := h2.1.2
      simp only [Bool.or_eq_true, Bool.not_eq_true', List.contains_iff_mem, beq_iff_eq] at h3
      rcases h3 with ((h3 | h3) | h3) | h3
      · rw [← List.contains_iff_mem] at ht; rw [ht] at h3; cases h3
      · exact .inl h3
      · exact .inr (.inl h3)
      · exact .inr (.inr h3)
    · have h3 := h2.2
      simp only [Bool.not_eq_true', Bool.and_eq_false_iff] at h3
      rcases h3 with h3 | h3
      · have := List.contains_iff_mem.2 hx.1; rw [this] at h3; cases h3
      · have := List.contains_iff_mem.2 hx.2; rw [this] at h3; cases h3

theorem all_listed (hb : ordB md ops = true) {listed : Array Bool} (hsz : listed.size = ops.size) (hr : Region.ready md ops listed = []) : ∀ j, j < ops.size → listed.getD j false = true := by
  intro j
  induction j using Nat.strongRecOn with
  | _ j ih =>
    intro hj
    by_cases hl : listed.getD j false = true
    · exact hl
    · exfalso
      have ho : ops[j]? = some ops[j] := Array.getElem?_eq_getElem hj
      have hd := (ordB_deps hb ho).2.1
      have : j ∈ Region.ready md ops listed := by
        refine mem_ready.2 ⟨?_, _, ho, fun e he hbd => ?_⟩
        · rw [Array.getD_eq_getD_getElem?, Array.getElem?_eq_getElem (by omega)] at hl ⊢
          simpa using hl
        · have hm : e.on ∈ depsOf md ops[j] := List.mem_map.2 ⟨e, List.mem_filter.2 ⟨by simpa using he, hbd⟩, rfl⟩
          have := hd _ hm
          exact ih _ this (by omega)
      rw [hr] at this
      cases this

theorem depsAt_eq {i : Nat} {o : Oper} (hi : ops[i]? = some o) : depsAt md ops i = depsOf md o := by simp [depsAt, hi]
/-- The law. G holds throughout, said of which operations have run; what is shown of an operation (F) bears what others do to the world (R). -/
theorem wpAny_facts {Q : Exit → Act → World → Prop} (hb : ordB md ops = true) (a : Act) (G : (Nat → Bool) → World → Prop) (F : Facts) (R : Nat → (Nat → Value) → World → World → Prop)
    (hF : ∀ i f w w' j g, R i f w w' → j ≠ i → F j g w → F j g w')
    (hstep : ∀ i o, ops[i]? = some o → ∀ L f w, L i = false → (∀ j, i ∈ depsAt md ops j → L j = false) → G L w → (∀ j ∈ depsOf md o, F j (restr f (j :: depsAt md ops j)) w) →
      Does P ops o (putDeps ops f (depsOf md o) a) w fun v w' => R i (restr f (depsOf md o)) w w' ∧ G (upd L i true) w' ∧ F i (restr (upd f i v) (i :: depsOf md o)) w')
    (hend : ∀ L f w, (∀ j, L j = decide (j < ops.size)) → G L w → (∀ j, j < ops.size → F j (restr f (j :: depsAt md ops j)) w) → Q .normal (putDeps ops f (List.range ops.size) a) w) :
    ∀ (fuel : Nat) (listed : Array Bool) (f : Nat → Value) (a' : Act) (w : World), listed.size = ops.size → (listed.toList.countP (fun b => !b) ≤ fuel) →
      (∀ j, listed.getD j false = true → ∀ k ∈ depsAt md ops j, listed.getD k false = true) →
      Agrees ops (fun j => listed.getD j false = true) f a a' → G (fun j => listed.getD j false) w → (∀ j, listed.getD j false = true → F j (restr f (j :: depsAt md ops j)) w) → wpAny P md ops Q fuel listed a' w := by
  have ho := ordB_own hb
  have fin : ∀ (listed : Array Bool) (f : Nat → Value) (a' : Act) (w : World), listed.size = ops.size → Region.ready md ops listed = [] →
      Agrees ops (fun j => listed.getD j false = true) f a a' → G (fun j => listed.getD j false) w → (∀ j, listed.getD j false = true → F j (restr f (j :: depsAt md ops j)) w) → Q .normal a' w := by
    intro listed f a' w hsz hr hag hg hf
    have hl := all_listed hb hsz hr
    have hout : ∀ j, listed.getD j false = true → j < ops.size := by
      intro j h
      rcases Nat.lt_or_ge j ops.size with h' | h'
      · exact h'
      · simp [Array.getElem?_eq_none (by omega : listed.size ≤ j)] at h
    have e : a' = putDeps ops f (List.range ops.size) a := by
      refine hag.unique ((Agrees.of ho f a (List.range ops.size)).congr (fun j => ?_) (fun _ _ => rfl))
      rw [List.mem_range]
      exact ⟨hl j, hout j⟩
    rw [e]
    refine hend _ f w (fun j => ?_) hg fun j hj => hf j (hl j hj)
    by_cases hj : j < ops.size
    · rw [hl j hj]; simp [hj]
    · have : ¬ listed.getD j false = true := fun h => hj (hout j h)
      rw [Bool.not_eq_true] at this
      rw [this]; simp [hj]
  intro fuel
  induction fuel with
  | zero =>
    intro listed f a' w hsz hc hcl hag hg hf
    have hr : Region.ready md ops listed = [] := by
      rw [List.eq_nil_iff_forall_not_mem]
      intro j hj
      obtain ⟨h0, o, hoj, _⟩ := mem_ready.1 hj
      have hjs : j < ops.size := (Array.getElem?_eq_some_iff.1 hoj).1
      have hc0 : listed.toList.countP (fun b => !b) = 0 := by omega
      rw [List.countP_eq_zero] at hc0
      have h1 := hc0 listed[j] (by simp)
      rw [Array.getD_eq_getD_getElem?, Array.getElem?_eq_getElem (by omega)] at h0
      simp only [Option.getD_some] at h0
      rw [h0] at h1
      exact h1 rfl
    exact ⟨hr, fin listed f a' w hsz hr hag hg hf⟩
  | succ fuel ih =>
    intro listed f a' w hsz hc hcl hag hg hf
    refine ⟨fun hr => fin listed f a' w hsz hr hag hg hf, fun i hi => ?_⟩
    obtain ⟨h0, o, hoi, hdep⟩ := mem_ready.1 hi
    have his : i < ops.size := (Array.getElem?_eq_some_iff.1 hoi).1
    obtain ⟨hsel, hlt, hlook⟩ := ordB_deps hb hoi
    have hdl : ∀ j ∈ depsOf md o, listed.getD j false = true := by
      intro j hj
      obtain ⟨e, he, rfl⟩ := List.mem_map.1 hj
      obtain ⟨he1, he2⟩ := List.mem_filter.1 he
      exact hdep e (by simpa using he1) he2
    have hun : ¬ listed.getD i false = true := by
      intro h
      rw [Array.getD_eq_getD_getElem?, Array.getElem?_eq_getElem (by omega)] at h0 h
      simp only [Option.getD_some] at h0 h
      rw [h0] at h
      cases h
    have hA := Agrees.of ho f a (depsOf md o)
    have hdst : o.dst = dstAt ops i := by simp [dstAt, hoi]
    have hset : ∀ j, (listed.setIfInBounds i true).getD j false = upd (fun j => listed.getD j false) i true j := by
      intro j
      unfold upd
      by_cases e : j = i
      · subst e
        simp [Array.getD_eq_getD_getElem?, hsz, his]
      · rw [getD_set_ne false (fun h => e h.symm), if_neg e]
    refine Does.wpOp hoi hsel (a := putDeps ops f (depsOf md o) a) (by rw [hag.size, hA.size]) (fun t ht => ?_)
      (hstep i o hoi (fun j => listed.getD j false) f w (by simpa using hun) (fun j hj => by
        rw [← Bool.not_eq_true]
        exact fun h => hun (hcl j h i hj)) hg fun j hj => hf j (hdl j hj)) fun v w' hR => ?_
    · by_cases hts : t < a.tmps.size
      · by_cases e : ∃ j, dstAt ops j = some t
        · obtain ⟨j, hd⟩ := e
          have hj' : j < ops.size := by
            rcases Nat.lt_or_ge j ops.size with h | h
            · exact h
            · simp [dstAt, Array.getElem?_eq_none h] at hd
          have hl := hlook j t hj' hd
          by_cases hjd : j ∈ depsOf md o
          · rw [hag.put j t (hdl j hjd) hd hts, hA.put j t hjd hd hts]
          · have hjl : ¬ listed.getD j false = true := by
              intro hjl
              rcases hl.1 ht with h | h | h
              · exact hun (h ▸ hjl)
              · exact hjd h
              · exact hun (hcl j hjl i h)
            rw [hag.same t (fun k hk hkd => hjl (ho k j t hkd hd ▸ hk)), hA.same t (fun k hk hkd => hjd (ho k j t hkd hd ▸ hk))]
        · have hn : ∀ j, dstAt ops j ≠ some t := fun j hj => e ⟨j, hj⟩
          rw [hag.same t (fun j _ => hn j), hA.same t (fun j _ => hn j)]
      · rw [Array.getElem?_eq_none (by rw [hag.size]; exact Nat.le_of_not_lt hts), Array.getElem?_eq_none (by rw [hA.size]; exact Nat.le_of_not_lt hts)]
    · obtain ⟨hR1, hR3, hR2⟩ := hR
      have hset' : ∀ j, (listed.setIfInBounds i true).getD j false = true ↔ (j = i ∨ listed.getD j false = true) := by
        intro j
        rw [hset j]
        unfold upd
        by_cases e : j = i <;> simp [e]
      rw [hdst]
      refine ih (listed.setIfInBounds i true) (upd f i v) _ w' (by simp [hsz]) ?_ ?_ ?_ (by rw [show (fun j => (listed.setIfInBounds i true).getD j false) = upd (fun j => listed.getD j false) i true from funext hset]; exact hR3) ?_
      · have hc2 : (listed.setIfInBounds i true).toList.countP (fun b => !b) + 1 ≤ listed.toList.countP (fun b => !b) := by
          rw [Array.toList_setIfInBounds]
          have hlen : i < listed.toList.length := by simpa [hsz] using his
          have hli : listed.toList[i] = false := by
            rw [Array.getD_eq_getD_getElem?, Array.getElem?_eq_getElem (by omega)] at h0
            simpa using h0
          rw [List.countP_set hlen, hli]
          have : 0 < listed.toList.countP (fun b => !b) := List.countP_pos_iff.2 ⟨false, by rw [← hli]; exact List.getElem_mem _, rfl⟩
          simp only [Bool.not_false, Bool.not_true, if_true, Bool.false_eq_true, if_false]
          omega
        omega
      · intro j hj k hk
        rw [hset'] at hj ⊢
        rcases hj with rfl | hj
        · rw [depsAt_eq hoi] at hk
          exact .inr (hdl k hk)
        · exact .inr (hcl j hj k hk)
      · exact hag.step ho i v hset' (fun j hji _ => by simp [upd, hji]) (by simp [upd])
      · intro j hj
        rw [hset'] at hj
        by_cases e : j = i
        · subst e
          rw [depsAt_eq hoi]
          exact hR2
        · have hjl := hj.resolve_left e
          have hnc : (j :: depsAt md ops j).contains i = false := by
            rw [← Bool.not_eq_true, List.contains_iff_mem, List.mem_cons]
            rintro (h | h)
            · exact e h.symm
            · exact hun (hcl j hjl i h)
          rw [restr_upd hnc]
          exact hF i _ w w' j _ hR1 e (hf j hjl)

/-- The acts, by a list of slots. -/
def putL (ds : List (Option Tmp)) (f : Nat → Value) : List Nat → Act → Act
  | [], a => a
  | j :: l, a => putL ds f l (a.put (ds[j]?.join) (f j))
theorem putL_eq {ds : List (Option Tmp)} (h : ops.toList.map (·.dst) = ds) (f : Nat → Value) : ∀ (l : List Nat) (a : Act), putDeps ops f l a = putL ds f l a
  | [], a => rfl
  | j :: l, a => by
    have e : dstAt ops j = ds[j]?.join := by
      subst h
      simp only [dstAt, List.getElem?_map, Array.getElem?_toList]
      cases ops[j]? <;> rfl
    simp only [putDeps, putL, e, putL_eq h f l]
/-- What holds of those that an operation waits for. -/
def HypL (F : Facts) (dl : List (List Nat)) (f : Nat → Value) (w : World) : List Nat → Prop
  | [] => True
  | j :: l => F j (restr f (j :: (dl[j]?).getD [])) w ∧ HypL F dl f w l
theorem HypL.of {F : Facts} {dl : List (List Nat)} {f : Nat → Value} {w : World} : ∀ (l : List Nat), (∀ j ∈ l, F j (restr f (j :: (dl[j]?).getD [])) w) → HypL F dl f w l
  | [], _ => trivial
  | j :: l, h => ⟨h j (by simp), HypL.of l fun k hk => h k (by simp [hk])⟩
/-- Each operation's own step: s is the one that writes, G of whether it has run. -/
def StepL (P : Program) (ops : Array Oper) (ds : List (Option Tmp)) (dl : List (List Nat)) (s : Nat) (a : Act) (G : Bool → World → Prop) (F : Facts) (S : (Nat → Value) → World → World → Prop) : Nat → List Oper → Prop
  | _, [] => True
  | k, o :: l => (if k = s then ∀ f w, G false w → HypL F dl f w ((dl[k]?).getD []) → Does P ops o (putL ds f ((dl[k]?).getD []) a) w fun v w' => S (restr f ((dl[k]?).getD [])) w w' ∧ G true w' ∧ F k (restr (upd f k v) (k :: (dl[k]?).getD [])) w'
      else ∀ b f w, (((dl[s]?).getD []).contains k = true → b = false) → G b w → HypL F dl f w ((dl[k]?).getD []) → Does P ops o (putL ds f ((dl[k]?).getD []) a) w fun v w' => Below w.heap.size w w' ∧ F k (restr (upd f k v) (k :: (dl[k]?).getD [])) w') ∧ StepL P ops ds dl s a G F S (k + 1) l
theorem StepL.at {ds : List (Option Tmp)} {dl : List (List Nat)} {s : Nat} {a : Act} {G : Bool → World → Prop} {F : Facts} {S : (Nat → Value) → World → World → Prop} : ∀ (l : List Oper) (k : Nat), StepL P ops ds dl s a G F S k l → ∀ i o, l[i]? = some o →
    (if k + i = s then ∀ f w, G false w → HypL F dl f w ((dl[k + i]?).getD []) → Does P ops o (putL ds f ((dl[k + i]?).getD []) a) w fun v w' => S (restr f ((dl[k + i]?).getD [])) w w' ∧ G true w' ∧ F (k + i) (restr (upd f (k + i) v) ((k + i) :: (dl[k + i]?).getD [])) w'
      else ∀ b f w, (((dl[s]?).getD []).contains (k + i) = true → b = false) → G b w → HypL F dl f w ((dl[k + i]?).getD []) → Does P ops o (putL ds f ((dl[k + i]?).getD []) a) w fun v w' => Below w.heap.size w w' ∧ F (k + i) (restr (upd f (k + i) v) ((k + i) :: (dl[k + i]?).getD [])) w')
  | [], k, _, i, o, h => by simp at h
  | x :: l, k, hs, 0, o, h => by
    simp only [List.getElem?_cons_zero, Option.some.injEq] at h
    subst h
    exact hs.1
  | x :: l, k, hs, i + 1, o, h => by
    have := StepL.at l (k + 1) hs.2 i o (by simpa using h)
    rw [show k + (i + 1) = k + 1 + i by omega]
    exact this

theorem Does.mono {o : Oper} {a : Act} {w : World} {R R' : Value → World → Prop} (h : Does P ops o a w R) (hr : ∀ v w', R v w' → R' v w') : Does P ops o a w R' := fun K hK => h K fun v w' hv => hK v w' (hr v w' hv)

/-- The law as it is used: of a region whose order is drawn, and that writes by one operation (s) at most. -/
theorem wp_region_ord {Q : Exit → Act → World → Prop} {id : Nat} {a : Act} {w : World} (dl : List (List Nat)) (ds : List (Option Tmp)) (s : Nat) (G : Bool → World → Prop) (F : Facts) (S : (Nat → Value) → World → World → Prop)
  (hm : P.follows .mixedOrders = true) (hb : ordB .any ops = true) (hdl : ops.toList.map (depsOf .any) = dl) (hds : ops.toList.map (·.dst) = ds)
  (hGB : ∀ b w w', Below w.heap.size w w' → G b w → G b w')
  (hFB : ∀ j g w w', Below w.heap.size w w' → F j g w → F j g w')
  (hFS : ∀ j g f w w', j ≠ s → S f w w' → F j g w → F j g w')
  (h0 : G false w.drew)
  (hstep : StepL P ops ds dl s a G F S 0 ops.toList)
  (hend : ∀ f w, G (decide (s < dl.length)) w → HypL F dl f w (List.range dl.length) → Q .normal (putL ds f (List.range dl.length) a) w) :
  (Code.region id ops true).wp P Q a w := by
 have hlen : dl.length = ops.size := by subst hdl; simp
 have hda : ∀ j, depsAt .any ops j = (dl[j]?).getD [] := by
  intro j
  subst hdl
  simp only [depsAt, List.getElem?_map, Array.getElem?_toList]
 refine wp_region_any hm (wpAny_facts hb a (fun L => G (L s)) F (fun i f w w' => if i = s then S f w w' else Below w.heap.size w w')
  (fun i f w w' j g hR hji hf => ?_) (fun i o hoi L f w hLi hLd hg hd => ?_) (fun L f w hL hg hf => ?_) ops.size (Array.replicate ops.size false) (fun _ => undef) a w.drew (by simp) (by
   have := List.countP_le_length (p := fun b => !b) (l := (Array.replicate ops.size false).toList)
   simpa using this)
  (fun j hj => by simp [Array.getD_eq_getD_getElem?, Array.getElem?_replicate] at hj; split at hj <;> simp_all)
  (Agrees.start fun j hj => by simp [Array.getD_eq_getD_getElem?, Array.getElem?_replicate] at hj; split at hj <;> simp_all)
  (by
   have : (Array.replicate ops.size false).getD s false = false := by
    simp [Array.getD_eq_getD_getElem?, Array.getElem?_replicate]
    split <;> rfl
   show G ((Array.replicate ops.size false).getD s false) w.drew
   rw [this]; exact h0)
  (fun j hj => by simp [Array.getD_eq_getD_getElem?, Array.getElem?_replicate] at hj; split at hj <;> simp_all))
 ·
  by_cases e : i = s
  ·
   rw [if_pos e] at hR
   exact hFS j g f w w' (e ▸ hji) hR hf
  ·
   rw [if_neg e] at hR
   exact hFB j g w w' hR hf
 ·
  have hk := StepL.at ops.toList 0 hstep i o (by simpa using hoi)
  rw [Nat.zero_add] at hk
  have hdo : depsOf .any o = (dl[i]?).getD [] := by rw [← hda i, depsAt_eq hoi]
  rw [hdo] at hd ⊢
  rw [putL_eq hds]
  have hH : HypL F dl f w ((dl[i]?).getD []) := HypL.of _ fun j hj => by have := hd j hj; rwa [hda j] at this
  by_cases e : i = s
  ·
   rw [if_pos e] at hk
   have hg' : G false w := by rw [← hLi, e]; exact hg
   refine (hk f w hg' hH).mono fun v w' h => ⟨by rw [if_pos e]; exact h.1, ?_, h.2.2⟩
   show G (upd L i true s) w'
   rw [upd, if_pos e.symm]
   exact h.2.1
  ·
   rw [if_neg e] at hk
   refine (hk (L s) f w (fun h => hLd s (by rw [hda s]; simpa using h)) hg hH).mono fun v w' h => ⟨by rw [if_neg e]; exact h.1, ?_, h.2⟩
   show G (upd L i true s) w'
   rw [upd, if_neg (fun h => e h.symm)]
   exact hGB _ _ _ h.1 hg
 ·
  rw [putL_eq hds, ← hlen]
  refine hend f w ?_ (HypL.of _ fun j hj => ?_)
  ·
   have := hL s
   rw [← hlen] at this
   rw [← this]
   exact hg
  ·
   have := hf j (by rw [← hlen]; simpa using hj)
   rwa [hda j] at this
end
end Go.Proofs.YtelppapkffjmpaaDoor
end
section
namespace Go.Proofs.YtelppapkffjmpaaDoor
open Go.RowKit
set_option linter.unusedVariables false

/-- Which of these operations has written a slot last. -/
def lookL (ds : List (Option Tmp)) : List Nat → Nat → Option Nat
  | [], _ => none
  | j :: l, t => (lookL ds l t).orElse fun _ => if ds[j]?.join = some t then some j else none
theorem putL_defers (ds : List (Option Tmp)) (f : Nat → Value) : ∀ (l : List Nat) (a : Act), (putL ds f l a).defers = a.defers
  | [], a => rfl
  | j :: l, a => by rw [putL, putL_defers ds f l, put_defers]
theorem putL_get (ds : List (Option Tmp)) (f : Nat → Value) (t : Nat) : ∀ (l : List Nat) (a : Act), t < a.tmps.size → (putL ds f l a).tmps[t]? = match lookL ds l t with
    | some j => some (f j)
    | none => a.tmps[t]?
  | [], a, _ => rfl
  | j :: l, a, ht => by
    rw [putL, putL_get ds f t l _ (by rw [put_size]; exact ht), lookL]
    cases lookL ds l t with
    | some i => rfl
    | none =>
      simp only [Option.orElse_none]
      rw [put_get]
      by_cases e : ds[j]?.join = some t
      · rw [if_pos ⟨e, ht⟩, if_pos e]
      · rw [if_neg (fun h => e h.1), if_neg e]
theorem putL_look {ds : List (Option Tmp)} {f : Nat → Value} {t j n : Nat} {l : List Nat} {a : Act} (h : lookL ds l t = some j) (hs : a.tmps.size = n) (ht : decide (t < n) = true) {v : Value} (hv : f j = v) : (putL ds f l a).eval (.tmp t) = v := by
  simp only [Act.eval, Array.getD_eq_getD_getElem?]
  rw [putL_get ds f t l a (by rw [hs]; exact of_decide_eq_true ht), h, ← hv]
  rfl
theorem putL_none {ds : List (Option Tmp)} {f : Nat → Value} {t n : Nat} {l : List Nat} {a : Act} (h : lookL ds l t = none) (hs : a.tmps.size = n) (ht : decide (t < n) = true) {v : Value} (hv : a.eval (.tmp t) = v) : (putL ds f l a).eval (.tmp t) = v := by
  simp only [Act.eval, Array.getD_eq_getD_getElem?] at hv ⊢
  rw [putL_get ds f t l a (by rw [hs]; exact of_decide_eq_true ht), h]
  exact hv
theorem putLl {ds : List (Option Tmp)} {f : Nat → Value} {l : List Nat} {a A : Act} (hA : putL ds f l a = A) (t : Nat) {j : Nat} {v : Value} (hv : f j = v) (h : lookL ds l t = some j) (ht : decide (t < a.tmps.size) = true) : A.eval (.tmp t) = v := hA ▸ putL_look h rfl ht hv
theorem putLn {ds : List (Option Tmp)} {f : Nat → Value} {l : List Nat} {a A : Act} (hA : putL ds f l a = A) (t : Nat) {v : Value} (h : lookL ds l t = none) (ht : decide (t < a.tmps.size) = true) (hv : a.eval (.tmp t) = v) : A.eval (.tmp t) = v := hA ▸ putL_none h rfl ht hv
theorem slot_get {a : Act} {t : Nat} {v : Value} (h : a.eval (.tmp t) = v) : a.tmps[t]?.getD undef = v := by simpa [Act.eval] using h

section
variable {P : Program} {ops : Array Oper} {o : Oper} {a : Act} {w : World} {R : Value → World → Prop}

theorem wp_abs {c : Code} {Q : Exit → Act → World → Prop} (h : ∀ a0, a0 = a → Code.wp P c Q a0 w) : Code.wp P c Q a w := h a rfl
theorem Does.of_wp (hw : Region.wanted o (yielded ops a.tmps) = true) (h : ∀ K : Act → World → Prop, (∀ v w', R v w' → K (a.put o.dst v) w') → Oper.wp P o a w K (fun _ _ _ => False)) : Does P ops o a w R := fun K hK => by
  rw [if_pos hw]; exact h K hK
/-- An operation that yields, and leaves the world alone. -/
theorem Does.pure (hw : Region.wanted o (yielded ops a.tmps) = true) (v : Value) (hx : (execOp a.eval o).run P w = .ok (.value v) w) (hR : R v w) : Does P ops o a w R :=
  Does.of_wp hw fun K hK => by unfold Oper.wp; rw [hx]; exact hK v w hR
/-- A guarded operation that isn't wanted. -/
theorem Does.off (hw : Region.wanted o (yielded ops a.tmps) = false) (hR : R undef w) : Does P ops o a w R := fun K hK => by
  rw [if_neg (by rw [hw]; simp)]; exact hK _ _ hR
/-- A call of a Go function. -/
theorem Does.call (hw : Region.wanted o (yielded ops a.tmps) = true) (f : FuncId) (args : Array Value) (hx : (execOp a.eval o).run P w = .ok (.enter f args) w) (hc : Calls P f args w fun e w' => ∃ v, e = .returned v ∧ R v w') : Does P ops o a w R :=
  Does.of_wp hw fun K hK => by
    unfold Oper.wp
    rw [hx]
    refine Calls.mono hc fun e w' he => ?_
    obtain ⟨v, rfl, hr⟩ := he
    exact hK v w' hr
theorem Does.loadI (hw : Region.wanted o (yielded ops a.tmps) = true) (ty : TypeId) (x : Operand) (ho : o.op = .load ty x) (n : Nat) (e : TypeId) (hu : P.underlying ty = some (.array n e)) (hi : (P.info? ty).map (·.size) = some n)
    (B : Nat) (hx : a.eval x = .pointer (some ⟨B, 0, none⟩)) (K : IntKind) (zs : List Int) (hz : Arr K w B zs) (hn : zs.length = n) (hR : R (aggI K zs) w) : Does P ops o a w R :=
  Does.of_wp hw fun KK hK => by
    obtain ⟨t, hz⟩ := hz
    exact wp_load_row ty x ho B hx t _ _ _ hz hu rfl (by rw [hi]; simp [hn]) (hK _ _ hR)
/-- A struct of numbers of one kind, loaded whole. -/
theorem Does.loadS (hw : Region.wanted o (yielded ops a.tmps) = true) (ty : TypeId) (x : Operand) (ho : o.op = .load ty x) (n : Nat) (fs : Array Field) (hu : P.underlying ty = some (.struct fs)) (hi : (P.info? ty).map (·.size) = some n)
    (B : Nat) (hx : a.eval x = .pointer (some ⟨B, 0, none⟩)) (K : IntKind) (zs : List Int) (hz : Arr K w B zs) (hn : zs.length = n) (hR : R (aggI K zs) w) : Does P ops o a w R :=
  Does.of_wp hw fun KK hK => by
    obtain ⟨t, hz⟩ := hz
    exact wp_load_row ty x ho B hx t _ _ _ hz hu rfl (by rw [hi]; simp [hn]) (hK _ _ hR)
theorem Does.storeI (hw : Region.wanted o (yielded ops a.tmps) = true) (ty : TypeId) (x y : Operand) (ho : o.op = .store ty x y) (n : Nat) (hi : (P.info? ty).map (·.size) = some n)
    (B : Nat) (hx : a.eval x = .pointer (some ⟨B, 0, none⟩)) (K : IntKind) (zs ys : List Int) (hy : a.eval y = aggI K ys) (hz : Arr K w B zs) (hn : zs.length = n) (hm : ys.length = n)
    (hR : Arr K (w.setRow B (ys.map (Value.int K)).toArray) B ys → R undef (w.setRow B (ys.map (Value.int K)).toArray)) : Does P ops o a w R :=
  Does.of_wp hw fun KK hK => by
    have h' := hR (hz.setRow ys)
    obtain ⟨t, hz⟩ := hz
    refine wp_store_row ty x y ho B _ hx hy t _ hz (by rw [hi]; simp [hm]) (by simp [hn, hm]) ?_ (hK _ _ h')
    simp [Value.oneCell']
theorem Does.allocI (hw : Region.wanted o (yielded ops a.tmps) = true) (t : TypeId) (ho : o.op = .alloc t) (K : IntKind) (n : Nat) (hz : (P.info? t).bind (·.zero) = some (.agg (Array.replicate n (Value.int K 0))))
    (hR : ∀ w1, Arr K w1 w.heap.size (List.replicate n 0) → w.heap.size < w1.heap.size → Below w.heap.size w w1 → R (.pointer (some ⟨w.heap.size, 0, none⟩)) w1) : Does P ops o a w R :=
  Does.of_wp hw fun Kq hK => by
    cases hi : P.info? t with
    | none => rw [hi] at hz; cases hz
    | some i =>
      rw [hi] at hz
      have hz' : i.zero = some (.agg (Array.replicate n (Value.int K 0))) := hz
      have hti : (typeInfo t).run P w = .ok i w := by simp [typeInfo, hi]
      unfold Oper.wp execOp
      simp only [ho, Sem.run_bind, Instr.alloc, zeroValue, hti, hz', newVar, newRow, run_newObj_alloc, Sem.run_pure, Result.andThen_ok, Value.cells]
      refine hK _ _ (hR _ ⟨t, ?_⟩ (Array.getElem?_eq_some_iff.1 (heap_alloc_new w _)).1 ((Below.refl _ _).alloc (Nat.le_refl _) _))
      rw [heap_alloc_new]
      simp

theorem run_copyI (t t' ty elem : TypeId) (hu : P.underlying t = some (.slice elem)) (hs : (P.info? elem).map (·.size) = some 1) (B B' c c' : Nat) (K : IntKind) (zs ys : List Int) (hz : Arr K w B zs) (hy : Arr K w B' ys) (hle : ys.length ≤ zs.length) :
    (Builtin.copy_ #[t, t'] ty #[.slice (some ⟨B, 0, none⟩) zs.length c, .slice (some ⟨B', 0, none⟩) ys.length c']).run P w = .ok (goInt ys.length) (w.setRow B ((ys ++ zs.drop ys.length).map (Value.int K)).toArray) := by
  obtain ⟨tz, hz⟩ := hz
  have hcell : ∀ j v, (ys.map (Value.int K))[j]? = some v → w.cell? ((⟨B', 0, none⟩ : Addr).add j) = some v := by
    intro j v hj
    obtain ⟨ty, hy⟩ := hy
    rw [Addr.add_lit]
    simp only [World.cell?, hy, Nat.zero_add]
    simpa using hj
  have h := run_copy_row (P := P) w t t' ty elem B 0 zs.length c ⟨B', 0, none⟩ ys.length c' _ tz (ys.map (Value.int K)) hu hs hz (by simp [Nat.min_eq_left hle]) hcell (by simp; omega) (by simp [Value.oneCell'])
  rw [h]
  simp
theorem Does.copyI (hw : Region.wanted o (yielded ops a.tmps) = true) (d s : Operand) (t t' : TypeId) (ho : o.op = .call { callee := .builtin .copy, args := #[d, s], argTypes := #[t, t'] })
    (elem : TypeId) (hu : P.underlying t = some (.slice elem)) (hsz : (P.info? elem).map (·.size) = some 1) (B B' c c' n m : Nat) (hd : a.eval d = .slice (some ⟨B, 0, none⟩) n c) (hs : a.eval s = .slice (some ⟨B', 0, none⟩) m c') (K : IntKind) (zs ys : List Int)
    (hz : Arr K w B zs) (hy : Arr K w B' ys) (hn : zs.length = n) (hm : ys.length = m) (hle : m ≤ n)
    (hR : Arr K (w.setRow B ((ys ++ zs.drop ys.length).map (Value.int K)).toArray) B (ys ++ zs.drop ys.length) → R (goInt m) (w.setRow B ((ys ++ zs.drop ys.length).map (Value.int K)).toArray)) : Does P ops o a w R := by
  subst hn hm
  refine Does.of_wp hw fun KK hK => ?_
  have hr := run_copyI (P := P) t t' o.type elem hu hsz B B' c c' K zs ys hz hy hle
  unfold Oper.wp execOp
  simp only [ho, resolve, invoke, builtin, Sem.run_bind, Sem.run_pure, Result.andThen_ok, List.map_toArray, List.map_cons, List.map_nil, hd, hs, hr]
  exact hK _ _ (hR (hz.setRow _))

theorem Oper.wp_weaken {K : Act → World → Prop} {Q' Q : Exit → Act → World → Prop} (hq : ∀ e a w, Q' e a w → Q e a w) (h : Oper.wp P o a w K Q') : Oper.wp P o a w K Q := by
  unfold Oper.wp at *
  generalize (execOp a.eval o).run P w = r at *
  cases r with
  | ok n w' =>
    cases n <;> simp only [Oper.upon] at h ⊢ <;>
      first
        | exact h
        | exact Calls.mono h (fun e w'' he => by
            cases e with
            | returned u => exact he
            | panicked c => exact hq _ _ _ he
            | outgrown => obtain ⟨x, y, hxy⟩ := he; exact ⟨x, y, hq _ _ _ hxy⟩)
  | halt x w' =>
    cases x <;> simp only [Oper.upon] at h ⊢
    case panic u => exact hq _ _ _ h
/-- What is shown of one operation, in a region whose order is fixed. -/
theorem wpList_does {rest : List Oper} {Q : Exit → Act → World → Prop} (h : Does P ops o a w R) (hk : ∀ v w', R v w' → wpList P ops Q rest (a.put o.dst v) w') : wpList P ops Q (o :: rest) a w := by
  refine wpList_step fun K hK => ?_
  have h' := h K fun v w' hr => hK _ _ (hk v w' hr)
  split
  · next hw => rw [if_pos hw] at h'; exact Oper.wp_weaken (fun _ _ _ hf => hf.elim) h'
  · next hw => rw [if_neg hw] at h'; exact h'
/-- A guard that is met. -/
theorem wanted_of {g t : Nat} {b : Bool} (hg : o.guard = some (g, b)) (hd : dstAt ops g = some t) (hv : a.eval (.tmp t) = .bool b) : Region.wanted o (yielded ops a.tmps) = true := by
  have h : a.tmps[t]? = some (.bool b) := by
    simp only [Act.eval, Array.getD_eq_getD_getElem?] at hv
    cases hq : a.tmps[t]? with
    | none => rw [hq] at hv; simp [undef] at hv
    | some x => rw [hq] at hv; simp at hv; rw [hv]
  have hy : yielded ops a.tmps g = some b := by
    unfold yielded
    unfold dstAt at hd
    rw [hd]
    simp [h]
  unfold Region.wanted
  simp [hg, hy]
variable {ds : List (Option Tmp)} {dl : List (List Nat)} {s : Nat} {G : Bool → World → Prop} {F : Facts} {S : (Nat → Value) → World → World → Prop}
theorem StepL.other {k : Nat} {o : Oper} {l : List Oper} (hk : decide (k = s) = false) (h : ∀ b f w, (((dl[s]?).getD []).contains k = true → b = false) → G b w → HypL F dl f w ((dl[k]?).getD []) →
    Does P ops o (putL ds f ((dl[k]?).getD []) a) w fun v w' => Below w.heap.size w w' ∧ F k (restr (upd f k v) (k :: (dl[k]?).getD [])) w') (hl : StepL P ops ds dl s a G F S (k + 1) l) : StepL P ops ds dl s a G F S k (o :: l) :=
  ⟨by rw [if_neg (of_decide_eq_false hk)]; exact h, hl⟩
theorem StepL.self {k : Nat} {o : Oper} {l : List Oper} (hk : k = s) (h : ∀ f w, G false w → HypL F dl f w ((dl[k]?).getD []) →
    Does P ops o (putL ds f ((dl[k]?).getD []) a) w fun v w' => S (restr f ((dl[k]?).getD [])) w w' ∧ G true w' ∧ F k (restr (upd f k v) (k :: (dl[k]?).getD [])) w') (hl : StepL P ops ds dl s a G F S (k + 1) l) : StepL P ops ds dl s a G F S k (o :: l) :=
  ⟨by rw [if_pos hk]; exact h, hl⟩
end
end Go.Proofs.YtelppapkffjmpaaDoor
end
section
namespace Go.Proofs.YtelppapkffjmpaaDoor
open Go.RowKit
set_option linter.unusedVariables false

section
variable {P : Program} {ops : Array Oper} {md : Region.Mode}

/-- The law with one invariant of what has run, what it has yielded, and the world. -/
theorem wpAny_inv {Q : Exit → Act → World → Prop} (hb : ordB md ops = true) (a : Act) (I : (Nat → Bool) → (Nat → Value) → World → Prop)
    (hstep : ∀ i o, ops[i]? = some o → ∀ L f w, L i = false → (∀ j, i ∈ depsAt md ops j → L j = false) → (∀ j ∈ depsOf md o, L j = true) → (∀ j, L j = true → ∀ k ∈ depsAt md ops j, L k = true) → I L f w →
      Does P ops o (putDeps ops f (depsOf md o) a) w fun v w' => I (upd L i true) (upd f i v) w')
    (hend : ∀ L f w, (∀ j, L j = decide (j < ops.size)) → I L f w → Q .normal (putDeps ops f (List.range ops.size) a) w) :
    ∀ (fuel : Nat) (listed : Array Bool) (f : Nat → Value) (a' : Act) (w : World), listed.size = ops.size → (listed.toList.countP (fun b => !b) ≤ fuel) →
      (∀ j, listed.getD j false = true → ∀ k ∈ depsAt md ops j, listed.getD k false = true) →
      Agrees ops (fun j => listed.getD j false = true) f a a' → I (fun j => listed.getD j false) f w → wpAny P md ops Q fuel listed a' w := by
  have ho := ordB_own hb
  have fin : ∀ (listed : Array Bool) (f : Nat → Value) (a' : Act) (w : World), listed.size = ops.size → Region.ready md ops listed = [] →
      Agrees ops (fun j => listed.getD j false = true) f a a' → I (fun j => listed.getD j false) f w → Q .normal a' w := by
    intro listed f a' w hsz hr hag hg
    have hl := all_listed hb hsz hr
    have hout : ∀ j, listed.getD j false = true → j < ops.size := by
      intro j h
      rcases Nat.lt_or_ge j ops.size with h' | h'
      · exact h'
      · simp [Array.getElem?_eq_none (by omega : listed.size ≤ j)] at h
    have e : a' = putDeps ops f (List.range ops.size) a := by
      refine hag.unique ((Agrees.of ho f a (List.range ops.size)).congr (fun j => ?_) (fun _ _ => rfl))
      rw [List.mem_range]
      exact ⟨hl j, hout j⟩
    rw [e]
    refine hend _ f w (fun j => ?_) hg
    by_cases hj : j < ops.size
    · rw [hl j hj]; simp [hj]
    · have : ¬ listed.getD j false = true := fun h => hj (hout j h)
      rw [Bool.not_eq_true] at this
      rw [this]; simp [hj]
  intro fuel
  induction fuel with
  | zero =>
    intro listed f a' w hsz hc hcl hag hg
    have hr : Region.ready md ops listed = [] := by
      rw [List.eq_nil_iff_forall_not_mem]
      intro j hj
      obtain ⟨h0, o, hoj, _⟩ := mem_ready.1 hj
      have hjs : j < ops.size := (Array.getElem?_eq_some_iff.1 hoj).1
      have hc0 : listed.toList.countP (fun b => !b) = 0 := by omega
      rw [List.countP_eq_zero] at hc0
      have h1 := hc0 listed[j] (by simp)
      rw [Array.getD_eq_getD_getElem?, Array.getElem?_eq_getElem (by omega)] at h0
      simp only [Option.getD_some] at h0
      rw [h0] at h1
      exact h1 rfl
    exact ⟨hr, fin listed f a' w hsz hr hag hg⟩
  | succ fuel ih =>
    intro listed f a' w hsz hc hcl hag hg
    refine ⟨fun hr => fin listed f a' w hsz hr hag hg, fun i hi => ?_⟩
    obtain ⟨h0, o, hoi, hdep⟩ := mem_ready.1 hi
    have his : i < ops.size := (Array.getElem?_eq_some_iff.1 hoi).1
    obtain ⟨hsel, hlt, hlook⟩ := ordB_deps hb hoi
    have hdl : ∀ j ∈ depsOf md o, listed.getD j false = true := by
      intro j hj
      obtain ⟨e, he, rfl⟩ := List.mem_map.1 hj
      obtain ⟨he1, he2⟩ := List.mem_filter.1 he
      exact hdep e (by simpa using he1) he2
    have hun : ¬ listed.getD i false = true := by
      intro h
      rw [Array.getD_eq_getD_getElem?, Array.getElem?_eq_getElem (by omega)] at h0 h
      simp only [Option.getD_some] at h0 h
      rw [h0] at h
      cases h
    have hA := Agrees.of ho f a (depsOf md o)
    have hdst : o.dst = dstAt ops i := by simp [dstAt, hoi]
    have hset : ∀ j, (listed.setIfInBounds i true).getD j false = upd (fun j => listed.getD j false) i true j := by
      intro j
      unfold upd
      by_cases e : j = i
      · subst e
        simp [Array.getD_eq_getD_getElem?, hsz, his]
      · rw [getD_set_ne false (fun h => e h.symm), if_neg e]
    refine Does.wpOp hoi hsel (a := putDeps ops f (depsOf md o) a) (by rw [hag.size, hA.size]) (fun t ht => ?_)
      (hstep i o hoi (fun j => listed.getD j false) f w (by simpa using hun) (fun j hj => by
        rw [← Bool.not_eq_true]
        exact fun h => hun (hcl j h i hj)) hdl hcl hg) fun v w' hR => ?_
    · by_cases hts : t < a.tmps.size
      · by_cases e : ∃ j, dstAt ops j = some t
        · obtain ⟨j, hd⟩ := e
          have hj' : j < ops.size := by
            rcases Nat.lt_or_ge j ops.size with h | h
            · exact h
            · simp [dstAt, Array.getElem?_eq_none h] at hd
          have hl := hlook j t hj' hd
          by_cases hjd : j ∈ depsOf md o
          · rw [hag.put j t (hdl j hjd) hd hts, hA.put j t hjd hd hts]
          · have hjl : ¬ listed.getD j false = true := by
              intro hjl
              rcases hl.1 ht with h | h | h
              · exact hun (h ▸ hjl)
              · exact hjd h
              · exact hun (hcl j hjl i h)
            rw [hag.same t (fun k hk hkd => hjl (ho k j t hkd hd ▸ hk)), hA.same t (fun k hk hkd => hjd (ho k j t hkd hd ▸ hk))]
        · have hn : ∀ j, dstAt ops j ≠ some t := fun j hj => e ⟨j, hj⟩
          rw [hag.same t (fun j _ => hn j), hA.same t (fun j _ => hn j)]
      · rw [Array.getElem?_eq_none (by rw [hag.size]; exact Nat.le_of_not_lt hts), Array.getElem?_eq_none (by rw [hA.size]; exact Nat.le_of_not_lt hts)]
    · have hset' : ∀ j, (listed.setIfInBounds i true).getD j false = true ↔ (j = i ∨ listed.getD j false = true) := by
        intro j
        rw [hset j]
        unfold upd
        by_cases e : j = i <;> simp [e]
      rw [hdst]
      refine ih (listed.setIfInBounds i true) (upd f i v) _ w' (by simp [hsz]) ?_ ?_ ?_ (by rw [show (fun j => (listed.setIfInBounds i true).getD j false) = upd (fun j => listed.getD j false) i true from funext hset]; exact hR)
      · have hc2 : (listed.setIfInBounds i true).toList.countP (fun b => !b) + 1 ≤ listed.toList.countP (fun b => !b) := by
          rw [Array.toList_setIfInBounds]
          have hlen : i < listed.toList.length := by simpa [hsz] using his
          have hli : listed.toList[i] = false := by
            rw [Array.getD_eq_getD_getElem?, Array.getElem?_eq_getElem (by omega)] at h0
            simpa using h0
          rw [List.countP_set hlen, hli]
          have : 0 < listed.toList.countP (fun b => !b) := List.countP_pos_iff.2 ⟨false, by rw [← hli]; exact List.getElem_mem _, rfl⟩
          simp only [Bool.not_false, Bool.not_true, if_true, Bool.false_eq_true, if_false]
          omega
        omega
      · intro j hj k hk
        rw [hset'] at hj ⊢
        rcases hj with rfl | hj
        · rw [depsAt_eq hoi] at hk
          exact .inr (hdl k hk)
        · exact .inr (hcl j hj k hk)
      · exact hag.step ho i v hset' (fun j hji _ => by simp [upd, hji]) (by simp [upd])

/-- A variable that the region makes (operation ka) and stores v into (operation ks). -/
structure NItem where
  ka : Nat
  ks : Nat
  K : IntKind
  n : Nat
  v : List Int
/-- What holds of the variables that were made. -/
def NewE (base : Nat) (items : List NItem) (L : Nat → Bool) (f : Nat → Value) (w : World) : Prop :=
  ∃ loc : Nat → Nat, (∀ it ∈ items, L it.ka = true → f it.ka = .pointer (some ⟨loc it.ka, 0, none⟩) ∧ base ≤ loc it.ka ∧ Arr it.K w (loc it.ka) (if L it.ks then it.v else List.replicate it.n 0)) ∧
    (∀ it ∈ items, ∀ it' ∈ items, L it.ka = true → L it'.ka = true → it.ka ≠ it'.ka → loc it.ka ≠ loc it'.ka)
inductive NKind where
  | plain
  | alloc (it : NItem)
  | store (it : NItem)
def nkind (items : List NItem) (k : Nat) : NKind :=
  match items.find? (fun it => it.ka == k) with
  | some it => .alloc it
  | none => match items.find? (fun it => it.ks == k) with
    | some it => .store it
    | none => .plain
/-- No two have one operation; a store waits for the variable's making. -/
def itemsB (dl : List (List Nat)) (items : List NItem) : Bool :=
  items.all fun it => items.all (fun it' => it.ka != it'.ks && (it.ka != it'.ka || (it.ks == it'.ks)) && (it.ks != it'.ks || it.ka == it'.ka)) && ((dl[it.ks]?).getD []).contains it.ka
def ItemsOne (items : List NItem) : Prop := ∀ it ∈ items, ∀ it' ∈ items, it.ka = it'.ka → it = it'
variable {ds : List (Option Tmp)} {dl : List (List Nat)} {G : World → Prop} {F : Facts} {base : Nat} {items : List NItem} {a : Act}
theorem NewE.start {L : Nat → Bool} {f : Nat → Value} {w : World} (h : ∀ j, L j = false) : NewE base items L f w :=
  ⟨fun _ => 0, fun it _ (hl : L it.ka = true) => absurd hl (by rw [h]; decide), fun it _ it' _ (hl : L it.ka = true) => absurd hl (by rw [h]; decide)⟩
theorem NewE.below {L : Nat → Bool} {f : Nat → Value} {w w' : World} (h : NewE base items L f w) (hb : Below w.heap.size w w') : NewE base items L f w' := by
  obtain ⟨loc, h1, h2⟩ := h
  exact ⟨loc, fun it hi hl => ⟨(h1 it hi hl).1, (h1 it hi hl).2.1, (h1 it hi hl).2.2.below hb⟩, h2⟩
theorem NewE.plain {L : Nat → Bool} {f : Nat → Value} {w : World} {k : Nat} {v : Value} (h : NewE base items L f w) (hk : ∀ it ∈ items, it.ka ≠ k ∧ it.ks ≠ k) : NewE base items (upd L k true) (upd f k v) w := by
  obtain ⟨loc, h1, h2⟩ := h
  refine ⟨loc, fun it hi hl => ?_, fun it hi it' hi' hl hl' => ?_⟩
  · have e := hk it hi
    simp only [upd, if_neg e.1, if_neg e.2] at hl ⊢
    exact h1 it hi hl
  · have e := hk it hi
    have e' := hk it' hi'
    simp only [upd, if_neg e.1, if_neg e'.1] at hl hl'
    exact h2 it hi it' hi' hl hl'
theorem NewE.alloc {L : Nat → Bool} {f : Nat → Value} {w w' : World} {it : NItem} (hone : ItemsOne items) (hok : itemsB dl items = true) (hi : it ∈ items) (hks : L it.ks = false) (hb : Below w.heap.size w w') (hbase : base ≤ w.heap.size)
    (hA : Arr it.K w' w.heap.size (List.replicate it.n 0)) (h : NewE base items L f w) : NewE base items (upd L it.ka true) (upd f it.ka (.pointer (some ⟨w.heap.size, 0, none⟩))) w' := by
  obtain ⟨loc, h1, h2⟩ := h
  refine ⟨upd loc it.ka w.heap.size, fun jt hj hl => ?_, fun jt hj jt' hj' hl hl' hne => ?_⟩
  · have hck := (List.all_eq_true.1 hok it hi)
    simp only [Bool.and_eq_true] at hck
    have hck2 := List.all_eq_true.1 hck.1 jt hj
    simp only [Bool.and_eq_true, bne_iff_ne, ne_eq, Bool.or_eq_true, beq_iff_eq] at hck2
    have hks' : jt.ks ≠ it.ka := fun e => hck2.1.1 e.symm
    by_cases e : jt.ka = it.ka
    · obtain rfl := hone jt hj it hi e
      simp only [upd, if_true, if_neg hks', hks]
      exact ⟨trivial, hbase, hA⟩
    · simp only [upd, if_neg e, if_neg hks'] at hl ⊢
      have := h1 jt hj hl
      exact ⟨this.1, this.2.1, this.2.2.below hb⟩
  · by_cases e : jt.ka = it.ka
    · have e' : jt'.ka ≠ it.ka := fun x => hne (e.trans x.symm)
      simp only [upd, e, if_true, if_neg e'] at hl' ⊢
      have := (h1 jt' hj' hl').2.2.lt
      omega
    · simp only [upd, if_neg e] at hl ⊢
      by_cases e' : jt'.ka = it.ka
      · simp only [e', if_true]
        have := (h1 jt hj hl).2.2.lt
        omega
      · simp only [upd, if_neg e'] at hl' ⊢
        exact h2 jt hj jt' hj' hl hl' hne
theorem NewE.store {L : Nat → Bool} {f : Nat → Value} {w w' : World} {it : NItem} {B : Nat} {v : Value} (hone : ItemsOne items) (hok : itemsB dl items = true) (hi : it ∈ items) (hka : L it.ka = true) (hB : f it.ka = .pointer (some ⟨B, 0, none⟩))
    (hw : w' = w.setRow B (it.v.map (Value.int it.K)).toArray) (hA : Arr it.K w' B it.v) (h : NewE base items L f w) : NewE base items (upd L it.ks true) (upd f it.ks v) w' := by
  obtain ⟨loc, h1, h2⟩ := h
  have hl0 : loc it.ka = B := by
    have := (h1 it hi hka).1
    rw [hB] at this
    simpa using this.symm
  have hck := (List.all_eq_true.1 hok it hi)
  simp only [Bool.and_eq_true] at hck
  have hkk : ∀ jt ∈ items, jt.ka ≠ it.ks := fun jt hj e => by
    have h3 := (List.all_eq_true.1 hok jt hj)
    simp only [Bool.and_eq_true] at h3
    have h4 := List.all_eq_true.1 h3.1 it hi
    simp only [Bool.and_eq_true, bne_iff_ne, ne_eq] at h4
    exact h4.1.1 e
  refine ⟨loc, fun jt hj hl => ?_, fun jt hj jt' hj' hl hl' hne => ?_⟩
  · have hjk := hkk jt hj
    simp only [upd, if_neg hjk] at hl ⊢
    have h5 := h1 jt hj hl
    by_cases e : jt.ka = it.ka
    · obtain rfl := hone jt hj it hi e
      simp only [if_true]
      rw [hl0]
      exact ⟨by rw [hB], by rw [← hl0]; exact h5.2.1, hA⟩
    · have hck2 := List.all_eq_true.1 hck.1 jt hj
      simp only [Bool.and_eq_true, bne_iff_ne, ne_eq, Bool.or_eq_true, beq_iff_eq] at hck2
      have hs : jt.ks ≠ it.ks := fun x => by
        rcases hck2.2 with y | y
        · exact y x.symm
        · exact e y.symm
      simp only [if_neg hs]
      refine ⟨h5.1, h5.2.1, ?_⟩
      rw [hw]
      refine h5.2.2.rowOther ?_ _
      rw [← hl0]
      exact h2 jt hj it hi hl hka e
  · simp only [upd, if_neg (hkk jt hj), if_neg (hkk jt' hj')] at hl hl'
    exact h2 jt hj jt' hj' hl hl' hne
/-- Each operation's own step. -/
def StepN (P : Program) (ops : Array Oper) (ds : List (Option Tmp)) (dl : List (List Nat)) (a : Act) (G : World → Prop) (F : Facts) (items : List NItem) : Nat → List Oper → Prop
  | _, [] => True
  | k, o :: l => (match nkind items k with
      | .plain => ∀ f w, G w → HypL F dl f w ((dl[k]?).getD []) → Does P ops o (putL ds f ((dl[k]?).getD []) a) w fun v w' => Below w.heap.size w w' ∧ F k (restr (upd f k v) (k :: (dl[k]?).getD [])) w'
      | .alloc it => (∀ g w, F k g w) ∧ ∀ A w, Does P ops o A w fun v w' => Below w.heap.size w w' ∧ v = .pointer (some ⟨w.heap.size, 0, none⟩) ∧ Arr it.K w' w.heap.size (List.replicate it.n 0)
      | .store it => (∀ g w, F k g w) ∧ ∀ f w B, G w → HypL F dl f w ((dl[k]?).getD []) → f it.ka = .pointer (some ⟨B, 0, none⟩) → Arr it.K w B (List.replicate it.n 0) →
          Does P ops o (putL ds f ((dl[k]?).getD []) a) w fun v w' => w' = w.setRow B (it.v.map (Value.int it.K)).toArray ∧ Arr it.K w' B it.v) ∧ StepN P ops ds dl a G F items (k + 1) l
theorem StepN.at : ∀ (l : List Oper) (k : Nat), StepN P ops ds dl a G F items k l → ∀ i o, l[i]? = some o →
    (match nkind items (k + i) with
      | .plain => ∀ f w, G w → HypL F dl f w ((dl[k + i]?).getD []) → Does P ops o (putL ds f ((dl[k + i]?).getD []) a) w fun v w' => Below w.heap.size w w' ∧ F (k + i) (restr (upd f (k + i) v) ((k + i) :: (dl[k + i]?).getD [])) w'
      | .alloc it => (∀ g w, F (k + i) g w) ∧ ∀ A w, Does P ops o A w fun v w' => Below w.heap.size w w' ∧ v = .pointer (some ⟨w.heap.size, 0, none⟩) ∧ Arr it.K w' w.heap.size (List.replicate it.n 0)
      | .store it => (∀ g w, F (k + i) g w) ∧ ∀ f w B, G w → HypL F dl f w ((dl[k + i]?).getD []) → f it.ka = .pointer (some ⟨B, 0, none⟩) → Arr it.K w B (List.replicate it.n 0) →
          Does P ops o (putL ds f ((dl[k + i]?).getD []) a) w fun v w' => w' = w.setRow B (it.v.map (Value.int it.K)).toArray ∧ Arr it.K w' B it.v)
  | [], k, _, i, o, h => by simp at h
  | x :: l, k, hs, 0, o, h => by
    simp only [List.getElem?_cons_zero, Option.some.injEq] at h
    subst h
    exact hs.1
  | x :: l, k, hs, i + 1, o, h => by
    have := StepN.at l (k + 1) hs.2 i o (by simpa using h)
    rw [show k + (i + 1) = k + 1 + i by omega]
    exact this
/-- The law as it is used: of a region whose order is drawn, and that makes variables and stores into each once. -/
theorem wp_region_new {Q : Exit → Act → World → Prop} {id : Nat} {w : World} (dl : List (List Nat)) (ds : List (Option Tmp)) (base : Nat) (items : List NItem) (G : World → Prop) (F : Facts)
  (hm : P.follows .mixedOrders = true) (hb : ordB .any ops = true) (hdl : ops.toList.map (depsOf .any) = dl) (hds : ops.toList.map (·.dst) = ds) (hok : itemsB dl items = true) (hone : ItemsOne items)
  (hGB : ∀ w w', Below w.heap.size w w' → G w → G w') (hGb : ∀ w, G w → base ≤ w.heap.size) (hGS : ∀ w B cs, base ≤ B → G w → G (w.setRow B cs))
  (hFB : ∀ j g w w', F j g w → F j g w')
  (h0 : G w.drew)
  (hstep : StepN P ops ds dl a G F items 0 ops.toList)
  (hin : ∀ it ∈ items, it.ka < dl.length ∧ it.ks < dl.length)
  (hend : ∀ f w, G w → HypL F dl f w (List.range dl.length) → NewE base items (fun _ => true) f w → Q .normal (putL ds f (List.range dl.length) a) w) :
  (Code.region id ops true).wp P Q a w := by
 have hlen : dl.length = ops.size := by subst hdl; simp
 have hda : ∀ j, depsAt .any ops j = (dl[j]?).getD [] := by
  intro j
  subst hdl
  simp only [depsAt, List.getElem?_map, Array.getElem?_toList]
 have hnone : ∀ j, (Array.replicate ops.size false).getD j false = false := by
  intro j
  simp [Array.getD_eq_getD_getElem?, Array.getElem?_replicate]
  split <;> rfl
 refine wp_region_any hm (wpAny_inv hb a (fun L f w => G w ∧ (∀ j, L j = true → F j (restr f (j :: (dl[j]?).getD [])) w) ∧ NewE base items L f w)
  (fun i o hoi L f w hLi hLd hdeps hcl hI => ?_) (fun L f w hL hI => ?_) ops.size (Array.replicate ops.size false) (fun _ => undef) a w.drew (by simp) (by
   have := List.countP_le_length (p := fun b => !b) (l := (Array.replicate ops.size false).toList)
   simpa using this)
  (fun j hj => absurd hj (by rw [hnone]; decide))
  (Agrees.start fun j hj => absurd hj (by rw [hnone]; decide))
  ⟨h0, fun j (hj : (Array.replicate ops.size false).getD j false = true) => absurd hj (by rw [hnone]; decide), NewE.start hnone⟩)
 ·
  obtain ⟨hg, hf, he⟩ := hI
  have hdo : depsOf .any o = (dl[i]?).getD [] := by rw [← hda i, depsAt_eq hoi]
  have hk := StepN.at ops.toList 0 hstep i o (by simpa using hoi)
  rw [Nat.zero_add] at hk
  rw [hdo] at hdeps ⊢
  rw [putL_eq hds]
  have hH : HypL F dl f w ((dl[i]?).getD []) := HypL.of _ fun j hj => hf j (hdeps j hj)
  have hnext : ∀ v w', (∀ j, L j = true → F j (restr f (j :: (dl[j]?).getD [])) w → F j (restr f (j :: (dl[j]?).getD [])) w') → F i (restr (upd f i v) (i :: (dl[i]?).getD [])) w' →
    ∀ j, upd L i true j = true → F j (restr (upd f i v) (j :: (dl[j]?).getD [])) w' := by
   intro v w' hst hi j hj
   by_cases e : j = i
   ·
    subst e; exact hi
   ·
    simp only [upd, if_neg e] at hj
    have hnc : (j :: (dl[j]?).getD []).contains i = false := by
     rw [← Bool.not_eq_true, List.contains_iff_mem, List.mem_cons]
     rintro (h | h)
     ·
      exact e h.symm
     ·
      have := hLd j (by rw [hda j]; exact h)
      rw [this] at hj
      cases hj
    rw [restr_upd hnc]
    exact hst j hj (hf j hj)
  cases hkind : nkind items i with
  | plain =>
   rw [hkind] at hk
   have hne : ∀ it ∈ items, it.ka ≠ i ∧ it.ks ≠ i := by
    intro it hi
    unfold nkind at hkind
    cases h1 : items.find? (fun it => it.ka == i) with
    | some x => rw [h1] at hkind; cases hkind
    | none =>
     rw [h1] at hkind
     cases h2 : items.find? (fun it => it.ks == i) with
     | some x => rw [h2] at hkind; cases hkind
     | none =>
      have a1 := List.find?_eq_none.1 h1 it hi
      have a2 := List.find?_eq_none.1 h2 it hi
      exact ⟨fun e => a1 (by simp [e]), fun e => a2 (by simp [e])⟩
   refine (hk f w hg hH).mono fun v w' h => ⟨hGB _ _ h.1 hg, hnext v w' (fun j _ hx => hFB j _ w w' hx) h.2, (he.below h.1).plain hne⟩
  | alloc it =>
   rw [hkind] at hk
   obtain ⟨hit, hka⟩ : it ∈ items ∧ it.ka = i := by
    unfold nkind at hkind
    cases h1 : items.find? (fun it => it.ka == i) with
    | some x =>
     rw [h1] at hkind
     obtain rfl : x = it := by simpa using hkind
     exact ⟨List.mem_of_find?_eq_some h1, by have := List.find?_some h1; simpa using this⟩
    | none =>
     rw [h1] at hkind
     cases h2 : items.find? (fun it => it.ks == i) with
     | some x => rw [h2] at hkind; cases hkind
     | none => rw [h2] at hkind; cases hkind
   have hks : L it.ks = false := by
    refine hLd it.ks ?_
    rw [hda]
    have h3 := (List.all_eq_true.1 hok it hit)
    simp only [Bool.and_eq_true] at h3
    rw [← hka]
    exact List.contains_iff_mem.1 h3.2
   refine (hk.2 _ w).mono fun v w' h => ⟨hGB _ _ h.1 hg, hnext v w' (fun j _ hx => hFB j _ w w' hx) (hk.1 _ _), ?_⟩
   rw [h.2.1]
   subst hka
   exact he.alloc hone hok hit hks h.1 (hGb w hg) h.2.2
  | store it =>
   rw [hkind] at hk
   obtain ⟨hit, hks⟩ : it ∈ items ∧ it.ks = i := by
    unfold nkind at hkind
    cases h1 : items.find? (fun it => it.ka == i) with
    | some x => rw [h1] at hkind; cases hkind
    | none =>
     rw [h1] at hkind
     cases h2 : items.find? (fun it => it.ks == i) with
     | some x =>
      rw [h2] at hkind
      obtain rfl : x = it := by simpa using hkind
      exact ⟨List.mem_of_find?_eq_some h2, by have := List.find?_some h2; simpa using this⟩
     | none => rw [h2] at hkind; cases hkind
   subst hks
   have h3 := (List.all_eq_true.1 hok it hit)
   simp only [Bool.and_eq_true] at h3
   have hka : L it.ka = true := hdeps it.ka (List.contains_iff_mem.1 h3.2)
   obtain ⟨loc, h1, h2⟩ := he
   have h4 := h1 it hit hka
   rw [hLi] at h4
   refine (hk.2 f w (loc it.ka) hg hH h4.1 h4.2.2).mono fun v w' h => ⟨by rw [h.1]; exact hGS _ _ _ h4.2.1 hg, hnext v w' (fun j _ hx => hFB j _ w w' hx) (hk.1 _ _), NewE.store hone hok hit hka h4.1 h.1 h.2 ⟨loc, h1, h2⟩⟩
 ·
  obtain ⟨hg, hf, he⟩ := hI
  rw [putL_eq hds, ← hlen]
  refine hend f w hg (HypL.of _ fun j hj => hf j (by rw [hL j, ← hlen]; simpa using hj)) ?_
  obtain ⟨loc, h1, h2⟩ := he
  have hall : ∀ j, j < dl.length → L j = true := fun j hj => by rw [hL j, ← hlen]; simpa using hj
  refine ⟨loc, fun it hi _ => ?_, fun it hi it' hi' _ _ hne => h2 it hi it' hi' (hall _ (hin it hi).1) (hall _ (hin it' hi').1) hne⟩
  have h5 := h1 it hi (hall _ (hin it hi).1)
  rw [hall _ (hin it hi).2] at h5
  exact h5
/-- What the law yields, for two variables. -/
theorem NewE.two {i1 i2 : NItem} {f : Nat → Value} {w : World} (h : NewE base [i1, i2] (fun _ => true) f w) (hne : i1.ka ≠ i2.ka) :
    ∃ B C, f i1.ka = .pointer (some ⟨B, 0, none⟩) ∧ f i2.ka = .pointer (some ⟨C, 0, none⟩) ∧ base ≤ B ∧ base ≤ C ∧ B ≠ C ∧ Arr i1.K w B i1.v ∧ Arr i2.K w C i2.v := by
  obtain ⟨loc, h1, h2⟩ := h
  have a1 := h1 i1 (by simp) rfl
  have a2 := h1 i2 (by simp) rfl
  exact ⟨loc i1.ka, loc i2.ka, a1.1, a2.1, a1.2.1, a2.2.1, h2 i1 (by simp) i2 (by simp) rfl rfl hne, a1.2.2, a2.2.2⟩
theorem StepN.plain {k : Nat} {o : Oper} {l : List Oper} (hk : nkind items k = .plain) (h : ∀ f w, G w → HypL F dl f w ((dl[k]?).getD []) → Does P ops o (putL ds f ((dl[k]?).getD []) a) w fun v w' => Below w.heap.size w w' ∧ F k (restr (upd f k v) (k :: (dl[k]?).getD [])) w')
    (hl : StepN P ops ds dl a G F items (k + 1) l) : StepN P ops ds dl a G F items k (o :: l) := ⟨by rw [hk]; exact h, hl⟩
theorem StepN.alloc {k : Nat} {o : Oper} {l : List Oper} {it : NItem} (hk : nkind items k = .alloc it) (hT : ∀ g w, F k g w) (h : ∀ A w, Does P ops o A w fun v w' => Below w.heap.size w w' ∧ v = .pointer (some ⟨w.heap.size, 0, none⟩) ∧ Arr it.K w' w.heap.size (List.replicate it.n 0))
    (hl : StepN P ops ds dl a G F items (k + 1) l) : StepN P ops ds dl a G F items k (o :: l) := ⟨by rw [hk]; exact ⟨hT, h⟩, hl⟩
theorem StepN.store {k : Nat} {o : Oper} {l : List Oper} {it : NItem} (hk : nkind items k = .store it) (hT : ∀ g w, F k g w) (h : ∀ f w B, G w → HypL F dl f w ((dl[k]?).getD []) → f it.ka = .pointer (some ⟨B, 0, none⟩) → Arr it.K w B (List.replicate it.n 0) →
          Does P ops o (putL ds f ((dl[k]?).getD []) a) w fun v w' => w' = w.setRow B (it.v.map (Value.int it.K)).toArray ∧ Arr it.K w' B it.v)
    (hl : StepN P ops ds dl a G F items (k + 1) l) : StepN P ops ds dl a G F items k (o :: l) := ⟨by rw [hk]; exact ⟨hT, h⟩, hl⟩
end
end Go.Proofs.YtelppapkffjmpaaDoor
end
section
--@optional
namespace Go.Proofs.YtelppapkffjmpaaDoor
open Go.RowKit
set_option linter.unusedVariables false
set_option maxRecDepth 8000

theorem info_a32 : (Tryd.prog.info? 22).map (·.size) = some 32 := by kernel_rfl
theorem zero_a32 : (Tryd.prog.info? 22).bind (·.zero) = some (.agg (Array.replicate 32 (Value.int .u8 0))) := by kernel_rfl
theorem und_a32 : Tryd.prog.underlying 22 = some (.array 32 5) := by kernel_rfl
theorem byte_of {p : Int → Prop} (h : ∀ n, n < 256 → p (n : Nat)) {x : Int} (hx : 0 ≤ x ∧ x ≤ 255) : p x := by
  obtain ⟨n, rfl⟩ := Int.eq_ofNat_of_zero_le hx.1
  exact h n (by omega)
theorem Below.setRow {B : Nat} {a w : World} (h : Below B a w) {g : Nat} (hg : B ≤ g) (cs : Array Value) : Below B a (w.setRow g cs) := by
  refine ⟨h.os, h.tape, h.output, ?_, fun k hk => ?_⟩
  · have := h.size
    simpa [World.setRow] using this
  · rw [setRow_other w g k cs (by omega)]
    exact h.block k hk

end Go.Proofs.YtelppapkffjmpaaDoor
end
section
namespace Go.Proofs.YtelppapkffjmpaaDoor
open Go.RowKit
set_option linter.unusedVariables false
set_option maxRecDepth 8000

section
variable {P : Program} {ops : Array Oper} {o : Oper} {a : Act} {w : World} {R : Value → World → Prop}

theorem run_partI (e : TypeId) (d : TypeDesc) (he : P.underlying e = some d) (hd : (match d with | .struct _ | .array _ _ => true | _ => false) = false) (K : IntKind) (zs : List Int) (i : Nat) (hi : i < zs.length) :
    (part e (zs.map (Value.int K)).toArray i).run P w = .ok (.int K (at0 zs i)) w := by
  have hagg : (isAgg e).run P w = .ok false w := by
    unfold isAgg
    rw [Sem.run_bind, run_underlying he w]
    cases d <;> simp_all
  simp [part, Sem.run_bind, hagg, hi, at0]
theorem run_eqItemsI (d : Nat) (e : TypeId) (K K' : IntKind) (xs ys : List Int) (he : P.underlying e = some (.int K')) : ∀ is : List Nat, (∀ i ∈ is, i < xs.length ∧ i < ys.length) →
    (Op.eqItems (d + 1) e 1 (xs.map (Value.int K)).toArray (ys.map (Value.int K)).toArray is).run P w = .ok (decide (∀ i ∈ is, at0 xs i = at0 ys i)) w
  | [], _ => by simp [Op.eqItems]
  | i :: is, h => by
    have h1 := run_partI (w := w) e _ he rfl K xs i (h i (by simp)).1
    have h2 := run_partI (w := w) e _ he rfl K ys i (h i (by simp)).2
    have h3 := run_eqItemsI d e K K' xs ys he is (fun j hj => h j (by simp [hj]))
    have h4 := run_equalIn_int (P := P) w d e K K' (at0 xs i) (at0 ys i) he
    simp only [Op.eqItems, Sem.run_bind, Nat.mul_one, h1, h2, h4, Result.andThen_ok]
    by_cases hb : at0 xs i = at0 ys i
    · simp [hb, h3]
    · simp [hb]
theorem run_eqI (t e : TypeId) (n : Nat) (hu : P.underlying t = some (.array n e)) (K K' : IntKind) (he : P.underlying e = some (.int K')) (hc : (P.info? e).map (·.size) = some 1) (hg : P.eqGuardType P.depth t = false) (x y : Operand) (xs ys : List Int) (hx : xs.length = n) (hy : ys.length = n) :
    (do eqGuard .eql t x y (aggI K xs) (aggI K ys); binOp .eql t (aggI K xs) (aggI K ys) : Sem Value).run P w = .ok (.bool (decide (xs = ys))) w := by
  cases hi : P.info? e with
  | none => rw [hi] at hc; cases hc
  | some i =>
    have hcells : P.cellsOf e = 1 := by simp [Program.cellsOf, hc]
    have hq : (eqGuard .eql t x y (aggI K xs) (aggI K ys)).run P w = .ok () w := by
      simp [eqGuard, aggI, Sem.run_bind, hg]
    have hall : (∀ i ∈ List.range n, at0 xs i = at0 ys i) ↔ xs = ys := by
      constructor
      · intro h
        exact eq_of_all (by omega) fun j hj => h j (List.mem_range.2 (by omega))
      · rintro rfl _ _; rfl
    simp only [Sem.run_bind, hq, Result.andThen_ok]
    unfold aggI
    rw [run_eql_struct, show (10000 : Nat) = 9999 + 1 from rfl, run_equalIn_array w 9999 _ _ hu hi, hcells, show (9999 : Nat) = 9998 + 1 from rfl, run_eqItemsI 9998 e K K' xs ys he (List.range n) (fun i hi => by have := List.mem_range.1 hi; omega)]
    simp only [Result.andThen_ok]
    congr 2
    exact decide_eq_decide.2 hall
theorem Does.eqlI (hw : Region.wanted o (yielded ops a.tmps) = true) (t t' e : TypeId) (x y : Operand) (ho : o.op = .binOp .eql t x y t') (n : Nat) (hu : P.underlying t = some (.array n e)) (K K' : IntKind) (he : P.underlying e = some (.int K')) (hc : (P.info? e).map (·.size) = some 1) (hg : P.eqGuardType P.depth t = false)
    (xs ys : List Int) (hx : a.eval x = aggI K xs) (hy : a.eval y = aggI K ys) (hxl : xs.length = n) (hyl : ys.length = n) (b : Bool) (hb : decide (xs = ys) = b) (hR : R (.bool b) w) : Does P ops o a w R := by
  refine Does.pure hw (.bool b) ?_ hR
  unfold execOp
  have h := run_eqI (w := w) t e n hu K K' he hc hg x y xs ys hxl hyl
  simp only [ho, hx, hy, Sem.run_bind] at h ⊢
  rw [h, hb]
  rfl
/-- An array that is written out. -/
theorem Does.buildI (hw : Region.wanted o (yielded ops a.tmps) = true) (t : TypeId) (parts : Array (Nat × Operand)) (ho : o.op = .build t parts) (K : IntKind) (zs : List Int)
    (ps : List (Nat × Value)) (hf : P.built t ps = some (zs.map (Value.int K)).toArray) (hps : parts.toList.map (fun (i, x) => (i, a.eval x)) = ps) (hR : R (aggI K zs) w) : Does P ops o a w R := by
  have hf : P.built t (parts.map fun (i, x) => (i, a.eval x)).toList = some (zs.map (Value.int K)).toArray := by rw [Array.toList_map, hps]; exact hf
  clear hps
  refine Does.pure hw _ ?_ hR
  unfold execOp
  simp only [ho, Sem.run_bind, run_build w t _ _ hf, Result.andThen_ok]
  rfl
theorem wpList_buildI {rest : List Oper} {Q : Exit → Act → World → Prop} (hgd : o.guard = none) (t : TypeId) (parts : Array (Nat × Operand)) (ho : o.op = .build t parts) (K : IntKind) (zs : List Int)
    (ps : List (Nat × Value)) (hf : P.built t ps = some (zs.map (Value.int K)).toArray) (hps : parts.toList.map (fun (i, x) => (i, a.eval x)) = ps) (h : wpList P ops Q rest (a.put o.dst (aggI K zs)) w) : wpList P ops Q (o :: rest) a w := by
  have hf : P.built t (parts.map fun (i, x) => (i, a.eval x)).toList = some (zs.map (Value.int K)).toArray := by rw [Array.toList_map, hps]; exact hf
  clear hps
  refine wpList_plain hgd fun KK hK => ?_
  unfold Oper.wp execOp
  simp only [ho, Sem.run_bind, run_build w t _ _ hf, Result.andThen_ok]
  exact hK _ _ h
/-- A new variable, and what it holds, in one step. -/
theorem wpList_newI {o1 o2 : Oper} {rest : List Oper} {Q : Exit → Act → World → Prop} (hg1 : o1.guard = none) (hg2 : o2.guard = none) (t : TypeId) (d : Tmp) (y : Operand) (ho1 : o1.op = .alloc t) (ho2 : o2.op = .store t (.tmp d) y) (hd1 : o1.dst = some d) (hd2 : o2.dst = none)
    (K : IntKind) (n : Nat) (hz : (P.info? t).bind (·.zero) = some (.agg (Array.replicate n (Value.int K 0)))) (hi : (P.info? t).map (·.size) = some n) (hd : d < a.tmps.size)
    (ys : List Int) (hyd : y ≠ .tmp d) (hy : a.eval y = aggI K ys) (hl : ys.length = n)
    (h : ∀ w' B, w.heap.size ≤ B → B < w'.heap.size → Arr K w' B ys → Below w.heap.size w w' → wpList P ops Q rest (a.put (some d) (.pointer (some ⟨B, 0, none⟩))) w') : wpList P ops Q (o1 :: o2 :: rest) a w := by
  refine wpList_allocI hg1 t ho1 K n hz fun w1 A1 s1 b1 => ?_
  rw [hd1]
  have he : (a.put (some d) (.pointer (some ⟨w.heap.size, 0, none⟩))).eval (.tmp d) = .pointer (some ⟨w.heap.size, 0, none⟩) := by
    simp only [Act.eval, Array.getD_eq_getD_getElem?, put_get]
    simp [hd]
  refine wpList_storeI hg2 t (.tmp d) y ho2 n hi w.heap.size he K (List.replicate n 0) ys (by rw [Act.eval_put (fun e he => by cases he; exact hyd)]; exact hy) A1 (by simp) hl fun A2 => ?_
  rw [hd2]
  have hb := Below.setRow b1 (Nat.le_refl _) (ys.map (Value.int K)).toArray
  have hsz : w.heap.size < (w1.setRow w.heap.size (ys.map (Value.int K)).toArray).heap.size := by simpa [World.setRow] using s1
  exact h _ w.heap.size (Nat.le_refl _) hsz A2 hb
end
end Go.Proofs.YtelppapkffjmpaaDoor
end
section
namespace Go.Proofs.YtelppapkffjmpaaDoor
open Go.RowKit
set_option linter.unusedVariables false

section
variable {P : Program} {ops : Array Oper} {o : Oper} {a : Act} {w : World} {R : Value → World → Prop}

end
end Go.Proofs.YtelppapkffjmpaaDoor
end
section
namespace Go.Proofs.YtelppapkffjmpaaDoor
open Go.RowKit
set_option linter.unusedVariables false

/-- So many numbers from a place on. -/
def sl (zs : List Int) (o n : Nat) : List Int := (zs.drop o).take n
/-- Numbers with others in the stead of those from a place on. -/
def pt (zs : List Int) (o : Nat) (ys : List Int) : List Int := zs.take o ++ ys ++ zs.drop (o + ys.length)
theorem sl_length {zs : List Int} {o n : Nat} (h : o + n ≤ zs.length) : (sl zs o n).length = n := by simp [sl]; omega
theorem pt_length {zs ys : List Int} {o : Nat} (h : o + ys.length ≤ zs.length) : (pt zs o ys).length = zs.length := by simp [pt]; omega
theorem sl_all {zs : List Int} {n : Nat} (h : zs.length = n) : sl zs 0 n = zs := by simp [sl, ← h]
theorem sl_sl (zs : List Int) (o n a b : Nat) (h : a + b ≤ n) : sl (sl zs o n) a b = sl zs (o + a) b := by
  unfold sl
  rw [List.drop_take, List.drop_drop, List.take_take, Nat.min_eq_left (by omega)]
theorem sl_at (zs : List Int) (o n k : Nat) (h : k < n) : at0 (sl zs o n) k = at0 zs (o + k) := by
  simp [at0, sl, List.getElem?_drop, h]
theorem sl_pt_same {zs ys : List Int} {o n : Nat} (h : o + n ≤ zs.length) (hy : ys.length = n) : sl (pt zs o ys) o n = ys := by
  unfold sl pt
  subst hy
  rw [List.append_assoc, List.drop_append_of_le_length (by simp; omega), show (List.take o zs).drop o = [] by simp, List.nil_append, List.take_append_of_le_length (Nat.le_refl _), List.take_length]
theorem sl_pt_before {zs ys : List Int} {o a b : Nat} (h : o + ys.length ≤ zs.length) (hab : a + b ≤ o) : sl (pt zs o ys) a b = sl zs a b := by
  apply eq_of_all
  · rw [sl_length (by rw [pt_length h]; omega), sl_length (by omega)]
  · intro j hj
    rw [sl_length (by rw [pt_length h]; omega)] at hj
    rw [sl_at _ _ _ _ hj, sl_at _ _ _ _ hj]
    simp only [at0, pt, List.append_assoc]
    rw [List.getElem?_append_left (by simp; omega), List.getElem?_take, if_pos (by omega)]
/-- A struct's field lies so many cells behind its beginning. -/
def fieldB (P : Program) (s : TypeId) (f off : Nat) : Bool := match P.underlying s with
  | some (.struct fs) => match fs[f]? with
    | some fd => fd.offset == off && (match P.info? fd.type with | some i => i.size != 0 | none => false)
    | none => false
  | _ => false
section
variable {P : Program} {ops : Array Oper} {o : Oper} {a : Act} {w : World} {R : Value → World → Prop}
theorem addr_mid (b o j : Nat) : (⟨b, o, none⟩ : Addr).add j = ⟨b, o + j, none⟩ := Go.Addr.add_mid b o j
theorem run_fieldB {s : TypeId} {f off : Nat} (hf : fieldB P s f off = true) (B o0 : Nat) : (Instr.fieldAt s (.pointer (some ⟨B, o0, none⟩)) f).run P w = .ok (.pointer (some ⟨B, o0 + off, none⟩)) w := by
  unfold fieldB at hf
  cases hu : P.underlying s with
  | none => rw [hu] at hf; cases hf
  | some d =>
    rw [hu] at hf
    cases d <;> simp only [Bool.false_eq_true] at hf
    rename_i fs
    cases hfs : fs[f]? with
    | none => rw [hfs] at hf; cases hf
    | some fd =>
      rw [hfs] at hf
      simp only [Bool.and_eq_true, beq_iff_eq] at hf
      obtain ⟨h1, h2⟩ := hf
      subst h1
      cases hi : P.info? fd.type with
      | none => rw [hi] at h2; cases h2
      | some i =>
        rw [hi] at h2
        have hne : i.size ≠ 0 := by simpa using h2
        simp [Instr.fieldAt, fieldPlace, Instr.sureAddr, Sem.run_bind, run_underlying hu w, hfs, sizeOf, typeInfo, hi, hne, addr_mid]
theorem Does.fieldA (hw : Region.wanted o (yielded ops a.tmps) = true) (s : TypeId) (x : Operand) (f : Nat) (ho : o.op = .fieldAddr s x f) {off : Nat} (hf : fieldB P s f off = true) (B o0 : Nat) (hx : a.eval x = .pointer (some ⟨B, o0, none⟩)) {o1 : Nat} (h1 : o0 + off = o1)
    (hR : R (.pointer (some ⟨B, o1, none⟩)) w) : Does P ops o a w R :=
  Does.pure hw _ (by unfold execOp; simp only [ho, hx, Sem.run_bind, run_fieldB hf, Result.andThen_ok, h1]; rfl) hR
theorem run_indexB {t e : TypeId} {n s : Nat} (hu : P.underlying t = some (.array n e)) (hs : (P.info? e).map (·.size) = some s) (B o0 : Nat) (k : IntKind) (i : Int) (h0 : 0 ≤ i) (h1 : i < n) :
    (Instr.indexAt t (.pointer (some ⟨B, o0, none⟩)) (.int k i)).run P w = .ok (.pointer (some ⟨B, o0 + i.toNat * s, none⟩)) w := by
  cases hi : P.info? e with
  | none => rw [hi] at hs; cases hs
  | some q =>
    have hq : q.size = s := by simpa [hi] using hs
    simp [Instr.indexAt, asIntOf, Instr.sureAddr, Sem.run_bind, run_underlying hu w, h0, h1, sizeOf, typeInfo, hi, hq, addr_mid]
theorem Does.indexA (hw : Region.wanted o (yielded ops a.tmps) = true) (t : TypeId) (x y : Operand) (ho : o.op = .indexAddr t x y) {e : TypeId} {n s : Nat} (hu : P.underlying t = some (.array n e)) (hs : (P.info? e).map (·.size) = some s) (B o0 : Nat) (hx : a.eval x = .pointer (some ⟨B, o0, none⟩))
    (k : IntKind) (i : Int) (hy : a.eval y = .int k i) (h0 : 0 ≤ i) (h1 : i < n) {o1 : Nat} (h2 : o0 + i.toNat * s = o1) (hR : R (.pointer (some ⟨B, o1, none⟩)) w) : Does P ops o a w R :=
  Does.pure hw _ (by unfold execOp; simp only [ho, hx, hy, Sem.run_bind, run_indexB hu hs B o0 k i h0 h1, Result.andThen_ok, h2]; rfl) hR
/-- A row that may be read. -/
def Rd (K : IntKind) (w : World) (B : Nat) (zs : List Int) : Prop := ∀ k, k < zs.length → w.cell? ⟨B, k, none⟩ = some (.int K (at0 zs k))
theorem Rd.below {K : IntKind} {w w' : World} {B : Nat} {zs : List Int} (h : Rd K w B zs) (hb : Below w.heap.size w w') : Rd K w' B zs := fun k hk => Go.Lib.Below.cellOf hb (h k hk) (Nat.le_refl _)
theorem Rd.range {K : IntKind} {B : Nat} {zs : List Int} (h : Rd K w B zs) {o0 n : Nat} (hl : o0 + n ≤ zs.length) : w.rangeAt B o0 ((sl zs o0 n).map (Value.int K)) := by
  intro j v hj
  rw [List.getElem?_map] at hj
  cases hq : (sl zs o0 n)[j]? with
  | none => rw [hq] at hj; cases hj
  | some x =>
    rw [hq] at hj
    have hjl : j < n := by
      have := (List.getElem?_eq_some_iff.1 hq).1
      rw [sl_length hl] at this
      exact this
    rw [h (o0 + j) (by omega), ← hj]
    have h2 := sl_at zs o0 n j hjl
    simp only [at0, hq, Option.getD_some] at h2
    rw [h2]
    simp [at0]
theorem Does.loadG (hw : Region.wanted o (yielded ops a.tmps) = true) (ty : TypeId) (x : Operand) (ho : o.op = .load ty x) (n : Nat) (d : TypeDesc) (hu : P.underlying ty = some d) (hd : (match d with | .struct _ | .array _ _ => true | _ => false) = true) (hi : (P.info? ty).map (·.size) = some n)
    (B o0 : Nat) (hx : a.eval x = .pointer (some ⟨B, o0, none⟩)) (K : IntKind) (zs : List Int) (hz : Rd K w B zs) (hl : o0 + n ≤ zs.length) {v : List Int} (hv : sl zs o0 n = v) (hR : R (aggI K v) w) : Does P ops o a w R :=
  Does.of_wp hw fun KK hK => by
    subst hv
    refine wp_load_mid ty x ho B o0 hx _ d (hz.range hl) hu (by cases d <;> simp_all) (by rw [hi]; simp [sl_length hl]) ?_
    exact hK _ _ hR
theorem Arr.range {K : IntKind} {B : Nat} {zs : List Int} (h : Arr K w B zs) {o0 n : Nat} (hl : o0 + n ≤ zs.length) : w.rangeAt B o0 ((sl zs o0 n).map (Value.int K)) := by
  intro j v hj
  rw [List.getElem?_map] at hj
  cases hq : (sl zs o0 n)[j]? with
  | none => rw [hq] at hj; cases hj
  | some x =>
    rw [hq] at hj
    have hjl : j < n := by
      have := (List.getElem?_eq_some_iff.1 hq).1
      rw [sl_length hl] at this
      exact this
    have hc := h.cell (k := o0 + j) (by omega)
    rw [hc, ← hj]
    have h2 := sl_at zs o0 n j hjl
    simp only [at0, hq, Option.getD_some] at h2
    rw [h2]
    simp [at0]
theorem Does.loadM (hw : Region.wanted o (yielded ops a.tmps) = true) (ty : TypeId) (x : Operand) (ho : o.op = .load ty x) (n : Nat) (d : TypeDesc) (hu : P.underlying ty = some d) (hd : (match d with | .struct _ | .array _ _ => true | _ => false) = true) (hi : (P.info? ty).map (·.size) = some n)
    (B o0 : Nat) (hx : a.eval x = .pointer (some ⟨B, o0, none⟩)) (K : IntKind) (zs : List Int) (hz : Arr K w B zs) (hl : o0 + n ≤ zs.length) {v : List Int} (hv : sl zs o0 n = v) (hR : R (aggI K v) w) : Does P ops o a w R :=
  Does.of_wp hw fun KK hK => by
    subst hv
    refine wp_load_mid ty x ho B o0 hx _ d (hz.range hl) hu (by cases d <;> simp_all) (by rw [hi]; simp [sl_length hl]) ?_
    exact hK _ _ hR
theorem Does.loadC (hw : Region.wanted o (yielded ops a.tmps) = true) (ty : TypeId) (x : Operand) (ho : o.op = .load ty x) (d : TypeDesc) (hu : P.underlying ty = some d) (hd : (match d with | .struct _ | .array _ _ => true | _ => false) = false)
    (B o0 : Nat) (hx : a.eval x = .pointer (some ⟨B, o0, none⟩)) (K : IntKind) (zs : List Int) (hz : Arr K w B zs) (hl : o0 < zs.length) {v : Int} (hv : at0 zs o0 = v) (hR : R (.int K v) w) : Does P ops o a w R := by
  refine Does.pure hw _ ?_ hR
  subst hv
  have hc := hz.cell (k := o0) hl
  have hagg : (isAgg ty).run P w = .ok false w := by
    unfold isAgg
    rw [Sem.run_bind, run_underlying hu w]
    cases d <;> simp_all
  unfold execOp
  simp [ho, hx, Sem.run_bind, Instr.loadAt, Instr.sureAddr, loadVar, hagg, hc]
theorem Does.storeM (hw : Region.wanted o (yielded ops a.tmps) = true) (ty : TypeId) (x y : Operand) (ho : o.op = .store ty x y) (n : Nat) (hi : (P.info? ty).map (·.size) = some n)
    (B o0 : Nat) (hx : a.eval x = .pointer (some ⟨B, o0, none⟩)) (K : IntKind) (zs ys : List Int) (hy : a.eval y = aggI K ys) (hz : Arr K w B zs) (hm : ys.length = n) (hl : o0 + n ≤ zs.length)
    (hR : Arr K (w.setRow B ((pt zs o0 ys).map (Value.int K)).toArray) B (pt zs o0 ys) → R undef (w.setRow B ((pt zs o0 ys).map (Value.int K)).toArray)) : Does P ops o a w R :=
  Does.of_wp hw fun KK hK => by
    have h' := hR (hz.setRow _)
    obtain ⟨t, hz⟩ := hz
    have hst := run_storeCells_at P B o0 t (ys.map (Value.int K)) 0 _ w hz (by simp; omega) (fun v hv => by obtain ⟨z, -, rfl⟩ := List.mem_map.1 hv; rfl)
    cases hq : P.info? ty with
    | none => rw [hq] at hi; cases hi
    | some q =>
      have hs : q.size = n := by simpa [hq] using hi
      have e : (List.take (o0 + 0) (zs.map (Value.int K)) ++ ys.map (Value.int K) ++ List.drop (o0 + 0 + (ys.map (Value.int K)).length) (zs.map (Value.int K))) = (pt zs o0 ys).map (Value.int K) := by
        simp [pt, List.map_take, List.map_drop]
      rw [e] at hst
      unfold Oper.wp execOp
      simp [ho, hx, hy, aggI, Sem.run_bind, Instr.storeAt, Instr.sureAddr, storeVar, sizeOf, typeInfo, hq, hs, hm, Value.cells, hst]
      exact hK _ _ h'
theorem wp_world {c : Code} {Q : Exit → Act → World → Prop} (h : ∀ W, W = w → Code.wp P c Q a W) : Code.wp P c Q a w := h w rfl
theorem results_cellM {fn : Func} {p : Tmp} {ty : TypeId} (h : fn.results = #[.cell p ty]) (tmps : Array Value) (n : Nat) (d : TypeDesc) (hu : P.underlying ty = some d) (hd : (match d with | .struct _ | .array _ _ => true | _ => false) = true) (hi : (P.info? ty).map (·.size) = some n)
    (B : Nat) (hp : tmps.getD p undef = .pointer (some ⟨B, 0, none⟩)) (K : IntKind) (zs : List Int) (hz : Arr K w B zs) (hn : zs.length = n) : (results fn tmps).run P w = .ok (aggI K zs) w := by
  obtain ⟨t, hz⟩ := hz
  exact results_cell_row h tmps w B t _ _ _ hp hz hu hd (by rw [hi]; simp [hn])
theorem results_cell_tmpM {fn : Func} {p t1 : Tmp} {ty : TypeId} (h : fn.results = #[.cell p ty, .tmp t1]) (tmps : Array Value) (n : Nat) (d : TypeDesc) (hu : P.underlying ty = some d) (hd : (match d with | .struct _ | .array _ _ => true | _ => false) = true) (hi : (P.info? ty).map (·.size) = some n)
    (B : Nat) (hp : tmps.getD p undef = .pointer (some ⟨B, 0, none⟩)) (K : IntKind) (zs : List Int) (hz : Arr K w B zs) (hn : zs.length = n) : (results fn tmps).run P w = .ok (.tuple #[aggI K zs, tmps.getD t1 undef]) w := by
  obtain ⟨t, hz⟩ := hz
  have hp' : tmps[p]?.getD undef = .pointer (some ⟨B, 0, none⟩) := by simpa using hp
  have hl := run_loadVar_row (P := P) w B t ty _ _ _ hz hu hd (by rw [hi]; simp [hn])
  simp [results, h, hp', asAddr, hl, aggI]
theorem wpList_val' {rest : List Oper} {Q : Exit → Act → World → Prop} {v : Value} (hd : ∀ R : Value → World → Prop, R v w → Does P ops o a w R) (h : wpList P ops Q rest (a.put o.dst v) w) : wpList P ops Q (o :: rest) a w :=
  wpList_does (hd (fun v' w' => v' = v ∧ w' = w) ⟨rfl, rfl⟩) fun v' w' h' => by rw [h'.1, h'.2]; exact h
end
end Go.Proofs.YtelppapkffjmpaaDoor
end
section
namespace Go.Proofs.YtelppapkffjmpaaDoor
open Go.RowKit
set_option linter.unusedVariables false
set_option maxRecDepth 8000

section
variable {P : Program} {ops : Array Oper} {o : Oper} {rest : List Oper} {a : Act} {w : World} {Q : Exit → Act → World → Prop}
theorem wpList_storeC (hgd : o.guard = none) (ty : TypeId) (x y : Operand) (ho : o.op = .store ty x y) (hi : (P.info? ty).map (·.size) = some 1)
    (B k : Nat) (hx : a.eval x = .pointer (some ⟨B, k, none⟩)) (K : IntKind) (v : Int) (hy : a.eval y = .int K v) (zs zs' : List Int) (hz : Arr K w B zs) (hk : k < zs.length) (hs : zs.set k v = zs')
    (h : ∀ w', Arr K w' B zs' → (∀ B' K2 zs2, B' ≠ B → Arr K2 w B' zs2 → Arr K2 w' B' zs2) → (∀ B0 w0, Below B0 w0 w → B0 ≤ B → Below B0 w0 w') → wpList P ops Q rest (a.put o.dst undef) w') : wpList P ops Q (o :: rest) a w := by
  subst hs
  have h' := h _ (hz.set k v) (fun B' K2 zs2 hne hA => hA.setOther hne k (.int K v)) (fun B0 w0 hB hle => hB.setCell hle _)
  have hc := hz.cell (k := k) hk
  have hf := hz.free (k := k) hk
  refine wpList_plain hgd fun Kq hK => ?_
  cases hq : P.info? ty with
  | none => rw [hq] at hi; cases hi
  | some q =>
    have hs : q.size = 1 := by simpa [hq] using hi
    unfold Oper.wp execOp
    have e : Addr.add ⟨B, k, none⟩ 0 = ⟨B, k, none⟩ := rfl
    simp [ho, hx, hy, Sem.run_bind, Instr.storeAt, Instr.sureAddr, storeVar, sizeOf, typeInfo, hq, hs, Value.cells, storeCells, e]
    rw [run_store P w ⟨B, k, none⟩ (.int K v) _ (by rfl)]
    simp only [hc, hf]
    exact hK _ _ h'
end
end Go.Proofs.YtelppapkffjmpaaDoor
end
section
namespace Go.Proofs.YtelppapkffjmpaaDoor
open Go.RowKit
set_option linter.unusedVariables false
section
variable {P : Program} {ops : Array Oper} {o : Oper} {a : Act} {w : World} {R : Value → World → Prop}
theorem run_indexS {t e : TypeId} {n c s : Nat} (hu : P.underlying t = some (.slice e)) (hs : (P.info? e).map (·.size) = some s) (B o0 : Nat) (k : IntKind) (i : Int) (h0 : 0 ≤ i) (h1 : i < n) :
    (Instr.indexAt t (.slice (some ⟨B, o0, none⟩) n c) (.int k i)).run P w = .ok (.pointer (some ⟨B, o0 + i.toNat * s, none⟩)) w := by
  cases hi : P.info? e with
  | none => rw [hi] at hs; cases hs
  | some q =>
    have hq : q.size = s := by simpa [hi] using hs
    simp [Instr.indexAt, asIntOf, Sem.run_bind, run_underlying hu w, h0, h1, sizeOf, typeInfo, hi, hq, addr_mid]
theorem Does.indexS (hw : Region.wanted o (yielded ops a.tmps) = true) (t : TypeId) (x y : Operand) (ho : o.op = .indexAddr t x y) {e : TypeId} {n c s : Nat} (hu : P.underlying t = some (.slice e)) (hs : (P.info? e).map (·.size) = some s) (B o0 : Nat) (hx : a.eval x = .slice (some ⟨B, o0, none⟩) n c)
    (k : IntKind) (i : Int) (hy : a.eval y = .int k i) (h0 : 0 ≤ i) (h1 : i < n) {o1 : Nat} (h2 : o0 + i.toNat * s = o1) (hR : R (.pointer (some ⟨B, o1, none⟩)) w) : Does P ops o a w R :=
  Does.pure hw _ (by unfold execOp; simp only [ho, hx, hy, Sem.run_bind, run_indexS hu hs B o0 k i h0 h1, Result.andThen_ok, h2]; rfl) hR
theorem madeCells_zero (K : IntKind) (n m : Nat) : madeCells (Array.replicate n (Value.int K 0)) m = if n = 0 then madeCells #[] m else Array.replicate m (Value.int K 0) := by
  by_cases hn : n = 0
  · subst hn; simp
  · rw [if_neg hn]
    apply Array.ext
    · simp [madeCells]
    · intro i h1 h2
      simp [madeCells]
      have : i % n < n := Nat.mod_lt _ (by omega)
      simp [this]
theorem wpList_makeI {rest : List Oper} {Q : Exit → Act → World → Prop} (hgd : o.guard = none) (t e : TypeId) (x y : Operand) (ho : o.op = .makeSlice t x y) (hu : P.underlying t = some (.slice e)) (K : IntKind) (s bytes : Nat) (hz : (P.info? e).bind (·.zero) = some (.agg (Array.replicate s (Value.int K 0)))) (hs : (P.info? e).map (·.size) = some s) (hb : (P.info? e).map (·.bytes) = some bytes)
    (hs0 : s ≠ 0) (n : Nat) (hx : a.eval x = .int .i64 n) (hy : a.eval y = .int .i64 n) (hn : (bytes : Int) * n ≤ 281474976710656) (hn2 : (n : Int) ≤ 9223372036854775807)
    (h : ∀ w1, Arr K w1 w.heap.size (List.replicate (n * s) 0) → w.heap.size < w1.heap.size → Below w.heap.size w w1 → wpList P ops Q rest (a.put o.dst (.slice (some ⟨w.heap.size, 0, none⟩) n n)) w1) : wpList P ops Q (o :: rest) a w := by
  cases hi : P.info? e with
  | none => rw [hi] at hz; cases hz
  | some i =>
    rw [hi] at hz hs hb
    have hz' : i.zero = some (.agg (Array.replicate s (Value.int K 0))) := hz
    have hs' : i.size = s := by simpa using hs
    have hb' : i.bytes = bytes := by simpa using hb
    refine wpList_plain hgd fun KK hK => ?_
    have hr := run_make w t e i _ hu hi hz' .i64 .i64 (n : Int) (n : Int) (by omega) (Int.le_refl _) (by rw [hb']; exact hn) hn2
    unfold Oper.wp execOp
    simp only [ho, hx, hy, Sem.run_bind, hr, Int.toNat_natCast]
    refine hK _ _ (h _ ⟨e, ?_⟩ (Array.getElem?_eq_some_iff.1 (heap_alloc_new w _)).1 ((Below.refl _ _).alloc (Nat.le_refl _) _))
    rw [heap_alloc_new]
    simp only [Value.cells]
    rw [madeCells_zero, if_neg hs0, hs']
    simp
end
end Go.Proofs.YtelppapkffjmpaaDoor
end
section
--@optional
namespace Go.Proofs.YtelppapkffjmpaaDoor
open Go.ChangeShapes Go.WideShapes Go.ChangeAt Go.RowKit
set_option linter.unusedVariables false

theorem own : ownKnob Tryd.prog.godebug = none := by kernel_rfl
theorem laidOut : laidOutB Tryd.prog = true := by kernel_rfl

theorem u8_bytes {zs : List Int} (h : ∀ n ∈ zs, (Lit.int .u8 n).wf = true) : Bytes zs := fun x hx => by
  have := h x hx
  simpa [Lit.wf, IntKind.min, IntKind.max, IntKind.signed, IntKind.bits] using this
end Go.Proofs.YtelppapkffjmpaaDoor
end
section
namespace Go.Proofs.YtelppapkffjmpaaDoor
open Go.ChangeShapes Go.WideShapes Go.ChangeAt Go.RowKit
set_option linter.unusedVariables false

theorem cells_of_one : ∀ (n : Nat) (K : IntKind) (cs : List Value), cs.length = n → (∀ i, i < n → ∃ x, (cs.drop i).take 1 = [.int K x] ∧ (Lit.int K x).wf = true) → ∃ zs : List Int, cs = zs.map (Value.int K) ∧ zs.length = n ∧ ∀ x ∈ zs, (Lit.int K x).wf = true
  | 0, K, cs, hl, _ => ⟨[], by simpa using List.eq_nil_of_length_eq_zero hl, rfl, fun x hx => by cases hx⟩
  | n + 1, K, [], hl, _ => by simp at hl
  | n + 1, K, c :: cs, hl, h => by
    obtain ⟨x, hx, hw⟩ := h 0 (by omega)
    obtain ⟨zs, h1, h2, h3⟩ := cells_of_one n K cs (by simpa using hl) fun i hi => by simpa using h (i + 1) (by omega)
    simp at hx
    refine ⟨x :: zs, by simp [hx, h1], by simp [h2], fun y hy => ?_⟩
    rcases List.mem_cons.1 hy with rfl | hy
    · exact hw
    · exact h3 y hy
/-- An array of numbers that came in. -/
theorem open_arrI {P : Program} {H : Type} {enc : TypeId × Value → H} {W : World} {t e : TypeId} {K : IntKind} {n : Nat} {v : Value} {d : DataW H} {p : List MemPlace}
    (ht : P.underlying t = some (.array n e)) (he : P.underlying e = some (.int K)) (hc : P.cellsOf e = 1) (hct : P.cellsOf t = n) (hn : n ≠ 1) (h0 : DataW.Trod enc P W 0 (fun _ => true) true t v d p) :
    ∃ zs, v = aggI K zs ∧ zs.length = n ∧ p = [] ∧ ∀ x ∈ zs, (Lit.int K x).wf = true := by
  obtain ⟨fuel, hf⟩ := h0
  obtain ⟨xs, m, rfl, hx, hl, hxl, hi⟩ := DataW.trod_array ht hf
  rw [hct] at hl
  rw [hc] at hi
  have hone : ∀ i, i < n → ∃ x, ((v.cells.toList).drop i).take 1 = [.int K x] ∧ (Lit.int K x).wf = true := fun i hin => by
    have h := hi i hin
    rw [Nat.mul_one] at h
    have hsome : xs[i]? = some xs[i] := List.getElem?_eq_getElem (by omega)
    rw [hsome] at h
    obtain ⟨x, h1, h2, h3⟩ := DataW.trod_int he h
    exact ⟨x, h1, h3⟩
  have hp : ∀ y ∈ xs, y.2 = [] := fun y hy => by
    obtain ⟨i, hil, hiy⟩ := List.getElem_of_mem hy
    have h := hi i (by omega)
    have hsome : xs[i]? = some xs[i] := List.getElem?_eq_getElem hil
    rw [hsome] at h
    obtain ⟨x, h1, h2, h3⟩ := DataW.trod_int he h
    rw [← hiy, h2]
  obtain ⟨zs, h1, h2, h3⟩ := cells_of_one n K v.cells.toList hl hone
  refine ⟨zs, ?_, h2, ?_, h3⟩
  · cases v with
    | agg cs =>
      simp only [Value.cells] at h1
      rw [aggI, ← h1]
    | _ => simp [Value.cells] at hl; omega
  · simp only [Prod.mk.injEq] at hx
    rw [hx.2]
    exact List.flatMap_eq_nil_iff.2 hp
end Go.Proofs.YtelppapkffjmpaaDoor
end
