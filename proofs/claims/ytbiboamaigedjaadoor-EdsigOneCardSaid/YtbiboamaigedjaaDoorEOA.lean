/- Plain words of ours on slices that are read, on worlds that have grown, and on bytes. No program stands here. Laws of ours over the walk: an append to -/
import Derived.Test.YtbiboamaigedjaaDoorRows
import Derived.WalkKit
import Derived.ProofKit
import Derived.OpenShut
import Derived.Handy
import Derived.Lib.Hide
import Derived.Outline
import Derived.Deep.QuietTactic
import Derived.BigQuiet
import Derived.Carry
import Derived.Laws.AppendOwnNone
import Derived.Laws.BytesArg
import Derived.Laws.IdiomStrings
import Derived.Laws.Rows
import Derived.KernelRfl
import Derived.Laws.BitsAllLaws
import Derived.Lib.Mul64
import Derived.RegionTactic
import Derived.Laws.Tables
import Derived.Laws.CopyRow
import Derived.Deep.LoopGhost
import Derived.Deep.MidRow
import Derived.Laws.MakeOwn
import Derived.ChangeKeysEq
import Derived.Laws.StructEq
import Derived.ChangeSlices
import Derived.ChangeSame
import Derived.Deep.Strs
import Derived.Lib.SmallJoins
import Derived.Lib.Overlaps
import Derived.Sort.OwnSorted
import Derived.Lib.SlicesCompact
import Derived.Lib.RowBridge
import Derived.Lib.AppendZeros
namespace Go.Proofs.YtbiboamaigedjaaDoor
open Go.RowKit
set_option linter.unusedVariables false
set_option linter.unusedSimpArgs false
set_option maxRecDepth 8000
set_option maxHeartbeats 2000000

/-- The number at a place, as a word that no rewriting opens. -/
def Qa (l : List Int) (k : Nat) : Int := l[k]?.getD 0
theorem JI {l : List Int} {k : Nat} (h : k < l.length) : Qa l k = l[k] := by simp [Qa, h]
theorem UT {l : List Int} {k : Nat} (h : k < l.length) : Qa l k ∈ l := by rw [JI h]; exact List.getElem_mem _
theorem Q7 (x : Int) (l : List Int) : Qa (x :: l) 0 = x := rfl
theorem Q8 (x : Int) (l : List Int) (k : Nat) : Qa (x :: l) (k + 1) = Qa l k := by simp [Qa]
theorem QcF (l : List Int) (i k : Nat) : Qa (l.drop i) k = Qa l (i + k) := by simp [Qa]
/-- QK are bytes. -/
def Qb (l : List Int) : Prop := ∀ x ∈ l, 0 <= x /\ x <= 255
theorem Qb.at {l : List Int} (h : Qb l) (k : Nat) : 0 <= Qa l k /\ Qa l k <= 255 := by
  by_cases hk : k < l.length
  . exact h _ (UT hk)
  . simp [Qa, hk]
theorem Qb.drop {l : List Int} (h : Qb l) (k : Nat) : Qb (l.drop k) := fun x hx => h x (List.mem_of_mem_drop hx)
theorem Xj {la lb : List Int} (hl : la.length = lb.length) (h : ∀ j, j < la.length -> Qa la j = Qa lb j) : la = lb := by
  apply List.ext_getElem hl
  intro i h1 h2
  have := h i h1
  rwa [JI h1, JI h2] at this

/-- A slice value that holds these integers, of one kind. -/
def VY (K : IntKind) (w : World) (v : Value) (zs : List Int) : Prop :=
  ∃ a cap, v = .slice a zs.length cap /\ zs.length <= cap /\ cap <= maxLen /\ (∀ k, k < zs.length -> ∃ x o, a = some ⟨x, o, none⟩ /\ w.cell? ⟨x, o + k, none⟩ = some (.int K (Qa zs k))) /\ (a = none -> cap = 0)

theorem Zq {B : Nat} {a w : World} (h : Below B a w) (n : Nat) : Below B a (w.drewN n) := ⟨h.os, h.tape, h.output, h.size, h.block⟩

theorem VY.nil {K : IntKind} {w : World} : VY K w (.slice none 0 0) [] := ⟨none, 0, rfl, Nat.le_refl _, by unfold maxLen; omega, fun k hk => by simp at hk, fun _ => rfl⟩

theorem Qbu {w : World} {base e : Nat} {v : Value} {n : Nat} {xs : List Value} (h : w.ownsRow base e 1 v n xs) :
    ∃ a cap, v = .slice a n cap /\ n <= cap /\ cap <= maxLen /\ xs.length = n /\ (∀ k, k < n -> ∃ x, a = some ⟨x, 0, none⟩ /\ base <= x /\ w.cell? ⟨x, k, none⟩ = xs[k]?) /\ (a = none -> cap = 0) := by
  obtain ⟨hl, h2⟩ := h
  rw [Nat.mul_one] at hl
  rcases h2 with ⟨rfl, rfl⟩ | ⟨g, cap, cur, rfl, hb, hh, hn, hm, hs, ht⟩
  . exact ⟨none, 0, rfl, Nat.le_refl _, by unfold maxLen; omega, hl, fun k hk => by omega, fun _ => rfl⟩
  . refine ⟨_, cap, rfl, hn, hm, hl, fun k hk => ⟨g, rfl, hb, ?_⟩, fun h => by cases h⟩
    rw [Nat.mul_one] at ht
    rw [<- ht, List.getElem?_take, if_pos hk]
    simp [World.cell?, hh]

theorem VY.of_own {K : IntKind} {w : World} {base e : Nat} {v : Value} {n : Nat} {zs : List Int} (h : w.ownsRow base e 1 v n (zs.map (Value.int K))) : VY K w v zs := by
  obtain ⟨a, cap, rfl, h1, h2, h3, h4, h5⟩ := Qbu h
  have hn : n = zs.length := by simpa using h3.symm
  subst hn
  refine ⟨a, cap, rfl, h1, h2, fun k hk => ?_, h5⟩
  obtain ⟨x, rfl, _, hc⟩ := h4 k hk
  exact ⟨x, 0, rfl, by rw [Nat.zero_add, hc]; simp [hk, Qa]⟩

/-- What is below the heap's size of a later world is below an earlier one's. -/
theorem Zk {a b c : World} (h : Below a.heap.size a b) (k : Below b.heap.size b c) : Below a.heap.size a c := h.trans (k.mono h.size)

theorem Fb {a b : World} (h : Below a.heap.size a b) (n : Nat) : Below a.heap.size a (b.drewN n) := Zq h n

/-- Block B holds these numbers from its head on, and each may be written. -/
def QcM (K : IntKind) (w : World) (B : Nat) (zs : List Int) : Prop :=
  ∃ cur e fz, w.heap[B]? = some (.cells cur e fz) /\ zs.length <= cur.size /\ ∀ j, j < zs.length -> cur[j]? = some (.int K (Qa zs j)) /\ ¬ (fz.1 <= j /\ j < fz.2)

theorem QcM.cell {K : IntKind} {w : World} {B : Nat} {zs : List Int} (h : QcM K w B zs) {k : Nat} (hk : k < zs.length) : w.cell? ⟨B, k, none⟩ = some (.int K (Qa zs k)) := by
  obtain ⟨cur, e, fz, h1, h2, h3⟩ := h
  simp [World.cell?, h1, (h3 k hk).1]
theorem QcM.free {K : IntKind} {w : World} {B : Nat} {zs : List Int} (h : QcM K w B zs) {k : Nat} (hk : k < zs.length) : w.frozen? ⟨B, k, none⟩ = false := by
  obtain ⟨cur, e, ⟨lo, hi⟩, h1, h2, h3⟩ := h
  have := (h3 k hk).2
  simp only [World.frozen?, h1]
  simp at this ⊢
  exact this
theorem VQ (zs : List Int) (k j : Nat) (x : Int) (hk : k < zs.length) : Qa (zs.set k x) j = if j = k then x else Qa zs j := by
  unfold Qa
  by_cases h : j = k
  . subst h; simp [hk]
  . rw [if_neg h, List.getElem?_set_ne (by omega)]
theorem Fw {a b : ByteArray} (h : a = b) : (a.toList == b.toList) = true := by subst h; simp
theorem DI {a b : ByteArray} (h : ¬ a = b) : (a.toList == b.toList) = false := by
  rw [beq_eq_false_iff_ne]
  intro e
  apply h
  rw [ByteArray.toList_eq, ByteArray.toList_eq] at e
  cases a; cases b
  congr 1
  exact Array.toList_inj.1 e
section
variable {P : Program} {w : World} {ops : Array Oper} {rest : List Oper} {o : Oper} {a : Act} {Q : Exit -> Act -> World -> Prop}
end
end Go.Proofs.YtbiboamaigedjaaDoor
--@optional
namespace Go.Proofs.YtbiboamaigedjaaDoor
open Go.ChangeShapes Go.WideShapes Go.ChangeAt Go.RowKit
set_option linter.unusedVariables false

theorem QgR : ownKnob Tryd.prog.godebug = none := by kernel_rfl
theorem Ga : laidOutB Tryd.prog = true := by kernel_rfl

/-- A slice of integers that came in. -/
theorem Qds {P : Program} {H : Type} {enc : TypeId × Value -> H} {W : World} {base : Nat} {t e : TypeId} {K : IntKind} {v : Value} {d : DataW H} {p : List MemPlace}
    (ht : P.underlying t = some (.slice e)) (he : P.underlying e = some (.int K)) (hc : P.cellsOf e = 1)
    (hval : Value.okWide P W .any base t v) (h0 : DataW.Trod enc P W 0 (fun _ => true) true t v d p) :
    ∃ zs, VY K W v zs /\ ∀ n ∈ zs, (Lit.int K n).wf = true := by
  obtain ⟨a0, len, cap, rfl⟩ := okWide_slice ht hval
  obtain ⟨fuel, hf⟩ := h0
  rcases open_ints ht he hc hf with ⟨hcs, hx⟩ | ⟨a, len', cap', zs, hcs, _, hl, hm, hz, hx, hcell, hwz⟩
  . simp [Value.cells] at hcs
    obtain ⟨rfl, rfl, rfl⟩ := hcs
    exact ⟨[], VY.nil, fun n hn => by cases hn⟩
  . simp [Value.cells] at hcs
    obtain ⟨rfl, rfl, rfl⟩ := hcs
    simp only [if_true] at hz
    have hlen : (zs.take len).length = len := by rw [List.length_take]; omega
    refine ⟨zs.take len, ⟨some a, cap, by rw [hlen], by rw [hlen]; exact hl, hm, fun k hk => ?_, fun h => by cases h⟩, fun n hn => hwz n (List.mem_of_mem_take hn)⟩
    rw [hlen] at hk
    have hck := hcell k (by omega)
    obtain ⟨b, off, spot⟩ := a
    have hspot : spot = none := by
      have h0 := hcell 0 (by omega)
      simpa [Addr.add] using World.cell?_spot h0
    subst hspot
    refine ⟨b, off, rfl, ?_⟩
    rw [<- add_plain, hck]
    simp [Qa, List.getD, hk]

theorem U1 {zs : List Int} (h : ∀ n ∈ zs, (Lit.int .u8 n).wf = true) : Qb zs := fun x hx => by
  have := h x hx
  simpa [Lit.wf, IntKind.min, IntKind.max, IntKind.signed, IntKind.bits] using this
end Go.Proofs.YtbiboamaigedjaaDoor
namespace Go.Proofs.YtbiboamaigedjaaDoor
open Go.RowKit
set_option linter.unusedVariables false
set_option linter.unusedSimpArgs false
set_option maxRecDepth 8000
set_option maxHeartbeats 2000000

/-- An array of numbers of one kind. -/
def Q2 (K : IntKind) (zs : List Int) : Value := .agg (zs.map (Value.int K)).toArray
/-- Block B is an array that holds these numbers and nothing else, all of it free. -/
def ZA (K : IntKind) (w : World) (B : Nat) (zs : List Int) : Prop := ∃ t, w.heap[B]? = some (.cells (zs.map (Value.int K)).toArray t (0, 0))

theorem ZA.row {K : IntKind} {w : World} {B : Nat} {zs : List Int} (h : ZA K w B zs) : QcM K w B zs := by
  obtain ⟨t, h⟩ := h
  refine ⟨_, t, _, h, by simp, fun j hj => ⟨by simp [hj, Qa], by simp⟩⟩
theorem ZA.below {K : IntKind} {w w' : World} {B : Nat} {zs : List Int} (h : ZA K w B zs) (hb : Below w.heap.size w w') : ZA K w' B zs := by
  obtain ⟨t, h⟩ := h
  exact ⟨t, by rw [hb.block B (Array.getElem?_eq_some_iff.1 h).1]; exact h⟩
theorem ZA.lt {K : IntKind} {w : World} {B : Nat} {zs : List Int} (h : ZA K w B zs) : B < w.heap.size := by
  obtain ⟨t, h⟩ := h
  exact (Array.getElem?_eq_some_iff.1 h).1
theorem ZA.cell {K : IntKind} {w : World} {B : Nat} {zs : List Int} (h : ZA K w B zs) {k : Nat} (hk : k < zs.length) : w.cell? ⟨B, k, none⟩ = some (.int K (Qa zs k)) := h.row.cell hk
theorem ZA.free {K : IntKind} {w : World} {B : Nat} {zs : List Int} (h : ZA K w B zs) {k : Nat} (hk : k < zs.length) : w.frozen? ⟨B, k, none⟩ = false := h.row.free hk
theorem ZA.set {K : IntKind} {w : World} {B : Nat} {zs : List Int} (h : ZA K w B zs) (k : Nat) (x : Int) : ZA K (w.setCell ⟨B, k, none⟩ (.int K x)) B (zs.set k x) := by
  obtain ⟨t, h⟩ := h
  refine ⟨t, ?_⟩
  simp [World.setCell, Array.getElem?_modify, h, List.map_set]
theorem ZA.setOther {K : IntKind} {w : World} {B : Nat} {zs : List Int} (h : ZA K w B zs) {B' : Nat} (hne : B ≠ B') (k : Nat) (v : Value) : ZA K (w.setCell ⟨B', k, none⟩ v) B zs := by
  obtain ⟨t, h⟩ := h
  exact ⟨t, by rw [heap_setCell_other w ⟨B', k, none⟩ B v hne]; exact h⟩
theorem ZA.setRow {K : IntKind} {w : World} {B : Nat} {zs : List Int} (h : ZA K w B zs) (ys : List Int) : ZA K (w.setRow B (ys.map (Value.int K)).toArray) B ys := by
  obtain ⟨t, h⟩ := h
  exact ⟨t, setRow_heap w B _ _ t _ h⟩
section
variable {P : Program} {w : World} {ops : Array Oper} {rest : List Oper} {o : Oper} {a : Act} {Q : Exit -> Act -> World -> Prop}

/-- Goes on only where the next operation is of this form. -/
theorem Uz (n : Tmp) {b c d e f} (h : wpList P ops Q (⟨some n, b, c, d, e, f⟩ :: rest) a w) : wpList P ops Q (⟨some n, b, c, d, e, f⟩ :: rest) a w := h
theorem Dm (h : wpList P ops Q (o :: rest) a w) : wpList P ops Q (o :: rest) a w := h
theorem Xn (hgd : o.guard = none) (t : TypeId) (ho : o.op = .alloc t) (K : IntKind) (n : Nat) (hz : (P.info? t).bind (·.zero) = some (.agg (Array.replicate n (Value.int K 0))))
    (h : ∀ w1, ZA K w1 w.heap.size (List.replicate n 0) -> w.heap.size < w1.heap.size -> Below w.heap.size w w1 -> wpList P ops Q rest (a.put o.dst (.pointer (some ⟨w.heap.size, 0, none⟩))) w1) : wpList P ops Q (o :: rest) a w := by
  refine wpList_plain hgd fun Kq hK => ?_
  cases hi : P.info? t with
  | none => rw [hi] at hz; cases hz
  | some i =>
    rw [hi] at hz
    have hz' : i.zero = some (.agg (Array.replicate n (Value.int K 0))) := hz
    have hti : (typeInfo t).run P w = .ok i w := by simp [typeInfo, hi]
    unfold Oper.wp execOp
    simp only [ho, Sem.run_bind, Instr.alloc, zeroValue, hti, hz', newVar, newRow, run_newObj_alloc, Sem.run_pure, Result.andThen_ok, Value.cells]
    refine hK _ _ (h _ ⟨t, ?_⟩ (Array.getElem?_eq_some_iff.1 (heap_alloc_new w _)).1 ((Below.refl _ _).alloc (Nat.le_refl _) _))
    rw [heap_alloc_new]
    simp

theorem Vm (hgd : o.guard = none) (ty : TypeId) (x : Operand) (ho : o.op = .load ty x) (n : Nat) (e : TypeId) (hu : P.underlying ty = some (.array n e)) (hi : (P.info? ty).map (·.size) = some n)
    (B : Nat) (hx : a.eval x = .pointer (some ⟨B, 0, none⟩)) (K : IntKind) (zs : List Int) (hz : ZA K w B zs) (hn : zs.length = n)
    (h : wpList P ops Q rest (a.put o.dst (Q2 K zs)) w) : wpList P ops Q (o :: rest) a w := by
  obtain ⟨t, hz⟩ := hz
  exact wpList_load_row hgd ty x ho B hx t _ _ _ hz hu rfl (by rw [hi]; simp [hn]) h

theorem Zs (hgd : o.guard = none) (ty : TypeId) (x y : Operand) (ho : o.op = .store ty x y) (n : Nat) (hi : (P.info? ty).map (·.size) = some n)
    (B : Nat) (hx : a.eval x = .pointer (some ⟨B, 0, none⟩)) (K : IntKind) (zs ys : List Int) (hy : a.eval y = Q2 K ys) (hz : ZA K w B zs) (hn : zs.length = n) (hm : ys.length = n)
    (h : ZA K (w.setRow B (ys.map (Value.int K)).toArray) B ys -> wpList P ops Q rest (a.put o.dst undef) (w.setRow B (ys.map (Value.int K)).toArray)) : wpList P ops Q (o :: rest) a w := by
  have h' := h (hz.setRow ys)
  obtain ⟨t, hz⟩ := hz
  refine wpList_store_row hgd ty x y ho B _ hx hy t _ hz (by rw [hi]; simp [hm]) (by simp [hn, hm]) ?_ h'
  simp [Value.oneCell']

theorem FE (ty : TypeId) (n : Nat) (e : TypeId) (hu : P.underlying ty = some (.array n e)) (d : TypeDesc) (he : P.underlying e = some d) (hd : (match d with | .struct _ | .array _ _ => true | _ => false) = false)
    (hi : (P.info? e).map (·.size) = some 1) (K : IntKind) (zs : List Int) (hn : zs.length = n) (i : Int) (h0 : 0 <= i) (h1 : i < n) :
    (Instr.index ty (Q2 K zs) (.int .i64 i)).run P w = .ok (.int K (Qa zs i.toNat)) w := by
  cases hq : P.info? e with
  | none => rw [hq] at hi; cases hi
  | some q =>
    have hs : q.size = 1 := by simpa [hq] using hi
    have hlt : i.toNat < zs.length := by omega
    have hagg : (isAgg e).run P w = .ok false w := by
      unfold isAgg
      rw [Sem.run_bind, run_underlying he w]
      cases d <;> simp_all
    simp [Instr.index, Q2, asIntOf, Sem.run_bind, run_underlying hu w, h0, h1, sizeOf, typeInfo, hq, hs, part, hagg, hlt, Qa]

theorem Y4 {fn : Func} {p : Tmp} {ty : TypeId} (h : fn.results = #[.cell p ty]) (tmps : Array Value) (n : Nat) (e : TypeId) (hu : P.underlying ty = some (.array n e)) (hi : (P.info? ty).map (·.size) = some n)
    (B : Nat) (hp : tmps.getD p undef = .pointer (some ⟨B, 0, none⟩)) (K : IntKind) (zs : List Int) (hz : ZA K w B zs) (hn : zs.length = n) : (results fn tmps).run P w = .ok (Q2 K zs) w := by
  obtain ⟨t, hz⟩ := hz
  exact results_cell_row h tmps w B t _ _ _ hp hz hu rfl (by rw [hi]; simp [hn])
end
end Go.Proofs.YtbiboamaigedjaaDoor
namespace Go.Proofs.YtbiboamaigedjaaDoor
open Go.ChangeShapes Go.WideShapes Go.ChangeAt Go.RowKit
set_option linter.unusedVariables false

theorem VL : ∀ (n : Nat) (K : IntKind) (cs : List Value), cs.length = n -> (∀ i, i < n -> ∃ x, (cs.drop i).take 1 = [.int K x] /\ (Lit.int K x).wf = true) -> ∃ zs : List Int, cs = zs.map (Value.int K) /\ zs.length = n /\ ∀ x ∈ zs, (Lit.int K x).wf = true
  | 0, K, cs, hl, _ => ⟨[], by simpa using List.eq_nil_of_length_eq_zero hl, rfl, fun x hx => by cases hx⟩
  | n + 1, K, [], hl, _ => by simp at hl
  | n + 1, K, c :: cs, hl, h => by
    obtain ⟨x, hx, hw⟩ := h 0 (by omega)
    obtain ⟨zs, h1, h2, h3⟩ := VL n K cs (by simpa using hl) fun i hi => by simpa using h (i + 1) (by omega)
    simp at hx
    refine ⟨x :: zs, by simp [hx, h1], by simp [h2], fun y hy => ?_⟩
    rcases List.mem_cons.1 hy with rfl | hy
    . exact hw
    . exact h3 y hy
/-- An array of numbers that came in. -/
theorem Kg {P : Program} {H : Type} {enc : TypeId × Value -> H} {W : World} {t e : TypeId} {K : IntKind} {n : Nat} {v : Value} {d : DataW H} {p : List MemPlace}
    (ht : P.underlying t = some (.array n e)) (he : P.underlying e = some (.int K)) (hc : P.cellsOf e = 1) (hct : P.cellsOf t = n) (hn : n ≠ 1) (h0 : DataW.Trod enc P W 0 (fun _ => true) true t v d p) :
    ∃ zs, v = Q2 K zs /\ zs.length = n /\ p = [] /\ ∀ x ∈ zs, (Lit.int K x).wf = true := by
  obtain ⟨fuel, hf⟩ := h0
  obtain ⟨xs, m, rfl, hx, hl, hxl, hi⟩ := DataW.trod_array ht hf
  rw [hct] at hl
  rw [hc] at hi
  have hone : ∀ i, i < n -> ∃ x, ((v.cells.toList).drop i).take 1 = [.int K x] /\ (Lit.int K x).wf = true := fun i hin => by
    have h := hi i hin
    rw [Nat.mul_one] at h
    have hsome : xs[i]? = some xs[i] := List.getElem?_eq_getElem (by omega)
    rw [hsome] at h
    obtain ⟨x, h1, h2, h3⟩ := DataW.trod_int he h
    exact ⟨x, h1, h3⟩
  have hp : ∀ y ∈ xs, y.2 = [] := fun y hy => by
    obtain ⟨i, hil, hiy⟩ := List.getElem_of_mem hy
    have h := hi i (by omega)
    have hsome : xs[i]? = some xs[i] := List.getElem?_eq_getElem hil
    rw [hsome] at h
    obtain ⟨x, h1, h2, h3⟩ := DataW.trod_int he h
    rw [<- hiy, h2]
  obtain ⟨zs, h1, h2, h3⟩ := VL n K v.cells.toList hl hone
  refine ⟨zs, ?_, h2, ?_, h3⟩
  . cases v with
    | agg cs =>
      simp only [Value.cells] at h1
      rw [Q2, <- h1]
    | _ => simp [Value.cells] at hl; omega
  . simp only [Prod.mk.injEq] at hx
    rw [hx.2]
    exact List.flatMap_eq_nil_iff.2 hp
end Go.Proofs.YtbiboamaigedjaaDoor
namespace Go.Proofs.YtbiboamaigedjaaDoor
open Go.RowKit
set_option linter.unusedVariables false
set_option linter.unusedSimpArgs false
set_option maxRecDepth 8000
set_option maxHeartbeats 2000000

theorem Jf (x y n : Nat) (hx : x % 2 ^ n = 0) (hy : y < 2 ^ n) : x ||| y = x + y := by
  have hx' : x = (x / 2 ^ n) <<< n := by
    rw [Nat.shiftLeft_eq]
    have := Nat.div_add_mod x (2 ^ n)
    rw [hx, Nat.add_zero, Nat.mul_comm] at this
    exact this.symm
  rw [hx', <- Nat.shiftLeft_add_eq_or_of_lt hy]
theorem ZQ (x y : Int) (n : Nat) (hx0 : 0 <= x) (hx1 : x < 18446744073709551616) (hx : x % 2 ^ n = 0) (hy0 : 0 <= y) (hy1 : y < 2 ^ n) (hy2 : y < 18446744073709551616) : bits .or .u64 x y = x + y := by
  obtain ⟨a, rfl⟩ := Int.eq_ofNat_of_zero_le hx0
  obtain ⟨b, rfl⟩ := Int.eq_ofNat_of_zero_le hy0
  rw [u64_or_nat a b (by omega) (by omega), Jf a b n (by exact_mod_cast hx) (by exact_mod_cast hy1)]
  rfl
theorem ZR (x : Int) (n m : Nat) (hm : m = 2 ^ n - 1) (hn : m < 18446744073709551616) (hx0 : 0 <= x) (hx1 : x < 18446744073709551616) : bits .and .u64 x (m : Int) = x % 2 ^ n := by
  obtain ⟨a, rfl⟩ := Int.eq_ofNat_of_zero_le hx0
  rw [u64_and_nat a m (by omega) hn, hm, Nat.and_two_pow_sub_one_eq_mod]
  clear hx0 hx1 hn hm
  rw [Int.natCast_emod, Int.natCast_pow]
  rfl
theorem Yj (x : Int) : IntKind.u64.wrap x = x % 18446744073709551616 := IntKind.wrap_u64 x
theorem Y1 {p : Int -> Prop} (h : ∀ n, n < 256 -> p (n : Nat)) {x : Int} (hx : 0 <= x /\ x <= 255) : p x := by
  obtain ⟨n, rfl⟩ := Int.eq_ofNat_of_zero_le hx.1
  exact h n (by omega)
/-- QK are words of 64 bits. -/
def Qp (l : List Int) : Prop := ∀ x ∈ l, 0 <= x /\ x < 18446744073709551616
theorem Qp.at {l : List Int} (h : Qp l) (k : Nat) : 0 <= Qa l k /\ Qa l k < 18446744073709551616 := by
  by_cases hk : k < l.length
  . exact h _ (UT hk)
  . simp [Qa, hk]
/-- The i-th byte of words, the lowest first. -/
def UZ (zs : List Int) (i : Nat) : Int := Qa zs (i / 8) / 2 ^ (8 * (i % 8)) % 256
def Zj (zs : List Int) (n : Nat) : List Int := (List.range n).map (UZ zs)
/-- The first m bytes of the j-th word, the lowest first. -/
def Qv (za : List Int) (j : Nat) : Nat -> Int
  | 0 => 0
  | m + 1 => Qv za j m + Qa za (8 * j + m) * 2 ^ (8 * m)
def Zx (za : List Int) (n : Nat) : List Int := (List.range n).map fun j => Qv za j 8
theorem Vv (za : List Int) (hb : Qb za) (j m : Nat) (hm : m <= 8) : 0 <= Qv za j m /\ Qv za j m < 2 ^ (8 * m) := by
  induction m with
  | zero => exact ⟨by simp [Qv], by simp [Qv]⟩
  | succ m ih =>
    have := ih (by omega)
    have hx := hb.at (8 * j + m)
    simp only [Qv]
    rw [show 8 * (m + 1) = 8 * m + 8 by omega, Int.pow_add]
    generalize hp : (2 : Int) ^ (8 * m) = p at *
    generalize Qa za (8 * j + m) = x at *
    have hp0 : 0 < p := by rw [<- hp]; exact Int.pow_pos (by omega)
    have h1 : 0 <= x * p := Int.mul_nonneg hx.1 (by omega)
    have h2 : x * p <= 255 * p := Int.mul_le_mul_of_nonneg_right hx.2 (by omega)
    constructor
    . omega
    . have : p * 2 ^ 8 = 255 * p + p := by omega
      omega
theorem EL (p c : Int) (m : Nat) (hm : m < 8) (hp : 0 <= p /\ p < 2 ^ (8 * m)) (hc : 0 <= c /\ c <= 255) :
    bits BinOp.or IntKind.u64 p (IntKind.u64.wrap (c * 2 ^ (8 * m))) = p + c * 2 ^ (8 * m) := by
  have e : IntKind.u64.wrap (c * 2 ^ (8 * m)) = c * 2 ^ (8 * m) /\ 0 <= c * 2 ^ (8 * m) /\ c * 2 ^ (8 * m) < 18446744073709551616 /\ (2 : Int) ^ (8 * m) <= 18446744073709551616 := by
    rw [Yj]
    obtain rfl | rfl | rfl | rfl | rfl | rfl | rfl | rfl : m = 0 \/ m = 1 \/ m = 2 \/ m = 3 \/ m = 4 \/ m = 5 \/ m = 6 \/ m = 7 := by omega
    all_goals
      simp only [Nat.reduceMul, Int.reducePow]
      omega
  obtain ⟨e1, e2, e3, e4⟩ := e
  rw [e1]
  have := ZQ (c * 2 ^ (8 * m)) p (8 * m) e2 e3 (Int.mul_emod_left _ _) hp.1 hp.2 (by omega)
  rw [show bits BinOp.or IntKind.u64 p (c * 2 ^ (8 * m)) = bits BinOp.or IntKind.u64 (c * 2 ^ (8 * m)) p from by simp only [bits, BitVec.or_comm], this]
  omega
/-- What is borrowed. -/
def bor (x y b : Int) : Int := if x < y + b then 1 else 0
theorem Qd2 (x y b : Int) : bor x y b = 0 \/ bor x y b = 1 := by unfold bor; split <;> omega
/-- The borrow behind m words. -/
def UR (xs ys : List Int) : Nat -> Int
  | 0 => 0
  | m + 1 => bor (Qa xs m) (Qa ys m) (UR xs ys m)
theorem Gz (xs ys : List Int) (m : Nat) : 0 <= UR xs ys m /\ UR xs ys m <= 1 := by
  cases m with
  | zero => simp [UR]
  | succ m => have := Qd2 (Qa xs m) (Qa ys m) (UR xs ys m); simp only [UR]; omega
def Fu (xs ys : List Int) (m : Nat) : Int := (Qa xs m - Qa ys m - UR xs ys m) % 18446744073709551616
def ZD (xs ys : List Int) (n : Nat) : List Int := (List.range n).map (Fu xs ys)
/-- The order's words. -/
def ZG : List Int := [6346243789798364141, 1503914060200516822, 0, 1152921504606846976]
theorem XL : Qp ZG := by unfold Qp; decide
/-- A number of words, the lowest first. -/
def Qj (xs : List Int) : Nat -> Int
  | 0 => 0
  | m + 1 => Qj xs m + Qa xs m * 2 ^ (64 * m)
theorem X3 (xs : List Int) (hx : Qp xs) (m : Nat) : 0 <= Qj xs m /\ Qj xs m < 2 ^ (64 * m) := by
  induction m with
  | zero => exact ⟨by simp [Qj], by simp [Qj]⟩
  | succ m ih =>
    have hy := hx.at m
    simp only [Qj]
    rw [show 64 * (m + 1) = 64 * m + 64 by omega, Int.pow_add]
    generalize hp : (2 : Int) ^ (64 * m) = p at *
    generalize Qa xs m = x at *
    have hp0 : 0 < p := by rw [<- hp]; exact Int.pow_pos (by omega)
    have h1 : 0 <= x * p := Int.mul_nonneg hy.1 (by omega)
    have h2 : x * p <= 18446744073709551615 * p := Int.mul_le_mul_of_nonneg_right (by omega) (by omega)
    constructor
    . omega
    . have : p * 2 ^ 64 = 18446744073709551615 * p + p := by omega
      omega
/-- A difference word by word is a difference. -/
theorem GN (xs ys : List Int) (hx : Qp xs) (hy : Qp ys) (n m : Nat) (hm : m <= n) : Qj (ZD xs ys n) m = Qj xs m - Qj ys m + UR xs ys m * 2 ^ (64 * m) := by
  induction m with
  | zero => simp [Qj, UR]
  | succ m ih =>
    have h0 := ih (by omega)
    have hxm := hx.at m
    have hym := hy.at m
    have hb := Gz xs ys m
    have e : Qa (ZD xs ys n) m = Fu xs ys m := by simp [ZD, Qa, show m < n by omega]
    simp only [Qj, UR, e, h0]
    rw [show 64 * (m + 1) = 64 * m + 64 by omega, Int.pow_add]
    generalize (2 : Int) ^ (64 * m) = p
    have hd : Fu xs ys m = Qa xs m - Qa ys m - UR xs ys m + bor (Qa xs m) (Qa ys m) (UR xs ys m) * 18446744073709551616 := by
      unfold Fu bor
      split <;> omega
    rw [hd]
    grind
theorem Gy (xs ys : List Int) (hx : Qp xs) (hy : Qp ys) (n : Nat) : UR xs ys n = if Qj xs n < Qj ys n then 1 else 0 := by
  have h := GN xs ys hx hy n n (Nat.le_refl _)
  have hw : Qp (ZD xs ys n) := by
    intro x hx
    simp only [ZD, List.mem_map] at hx
    obtain ⟨k, _, rfl⟩ := hx
    unfold Fu
    omega
  have h1 := X3 (ZD xs ys n) hw n
  have h2 := X3 xs hx n
  have h3 := X3 ys hy n
  have hb := Gz xs ys n
  generalize (2 : Int) ^ (64 * n) = p at *
  have : UR xs ys n = 0 \/ UR xs ys n = 1 := by omega
  rcases this with e | e
  . rw [e] at h ⊢; rw [if_neg (by omega)]
  . rw [e] at h ⊢; rw [if_pos (by omega)]
theorem Ht (za : List Int) (hb : Qb za) (n : Nat) : Qp (Zx za n) := by
  intro x hx
  simp only [Zx, List.mem_map] at hx
  obtain ⟨k, _, rfl⟩ := hx
  have := Vv za hb k 8 (Nat.le_refl _)
  simp only [Nat.reduceMul, Int.reducePow] at this
  exact this
/-- The n lowest words of a number. -/
def Q9 (n : Nat) (v : Int) : List Int := (List.range n).map fun j => v / 2 ^ (64 * j) % 18446744073709551616
theorem Xd (n : Nat) (v : Int) : Qp (Q9 n v) := by
  intro x hx
  simp only [Q9, List.mem_map] at hx
  obtain ⟨j, _, rfl⟩ := hx
  omega
theorem QH (n : Nat) (v : Int) : (Q9 n v).length = n := by simp [Q9]
theorem JH (n : Nat) (v : Int) (j : Nat) (h : j < n) : Qa (Q9 n v) j = v / 2 ^ (64 * j) % 18446744073709551616 := by simp [Q9, Qa, h]
theorem YR (m : Nat) : (2 : Int) ^ (64 * (m + 1)) = 2 ^ (64 * m) * 18446744073709551616 := by rw [show 64 * (m + 1) = 64 * m + 64 by omega, Int.pow_add]; rfl
theorem QP (m : Nat) : (0 : Int) < 2 ^ m := Int.pow_pos (by omega)
theorem GP (xs : List Int) (hx : Qp xs) (n m : Nat) (h : m < n) : Qj xs n / 2 ^ (64 * m) % 18446744073709551616 = Qa xs m := by
  induction n with
  | zero => omega
  | succ n ih =>
    have hp := QP (64 * m)
    by_cases e : m = n
    . subst e
      have h1 := X3 xs hx m
      have h2 := hx.at m
      simp only [Qj]
      rw [Int.add_mul_ediv_right _ _ (by omega), Int.ediv_eq_zero_of_lt h1.1 h1.2, Int.zero_add, Int.emod_eq_of_lt h2.1 h2.2]
    . have hmn : m < n := by omega
      rw [<- ih hmn]
      simp only [Qj]
      obtain ⟨d, rfl⟩ : ∃ d, n = m + 1 + d := ⟨n - m - 1, by omega⟩
      have e2 : (2 : Int) ^ (64 * (m + 1 + d)) = 2 ^ (64 * m) * (18446744073709551616 * 2 ^ (64 * d)) := by
        rw [show 64 * (m + 1 + d) = 64 * (m + 1) + 64 * d by omega, Int.pow_add, YR, Int.mul_assoc]
      rw [e2, show Qa xs (m + 1 + d) * (2 ^ (64 * m) * (18446744073709551616 * 2 ^ (64 * d))) = (Qa xs (m + 1 + d) * 2 ^ (64 * d) * 18446744073709551616) * 2 ^ (64 * m) by
        rw [<- Int.mul_assoc, <- Int.mul_assoc, Int.mul_right_comm _ 18446744073709551616 _, Int.mul_right_comm _ (2 ^ (64 * m)) _, Int.mul_right_comm _ (2 ^ (64 * m)) _]]
      rw [Int.add_mul_ediv_right _ _ (by omega), Int.add_mul_emod_self_right]
theorem Gf (xs : List Int) (hx : Qp xs) (n : Nat) (hl : xs.length = n) : xs = Q9 n (Qj xs n) := by
  apply Xj (by rw [QH, hl])
  intro j hj
  rw [JH n _ j (by omega), GP xs hx n j (by omega)]
theorem V1 (n : Nat) (v : Int) (h0 : 0 <= v) : Qj (Q9 n v) n = v % 2 ^ (64 * n) := by
  have : ∀ m, m <= n -> Qj (Q9 n v) m = v % 2 ^ (64 * m) := by
    intro m
    induction m with
    | zero => intro _; simp [Qj]
    | succ m ih =>
      intro hm
      have hp := QP (64 * m)
      simp only [Qj]
      rw [ih (by omega), JH n v m (by omega), YR]
      have h1 := Int.emod_add_mul_ediv v (2 ^ (64 * m))
      have h2 := Int.emod_add_mul_ediv v (2 ^ (64 * m) * 18446744073709551616)
      have h3 := Int.emod_add_mul_ediv (v / 2 ^ (64 * m)) 18446744073709551616
      have h4 : v / 2 ^ (64 * m) / 18446744073709551616 = v / (2 ^ (64 * m) * 18446744073709551616) := Int.ediv_ediv_of_nonneg (by omega)
      generalize (2 : Int) ^ (64 * m) = p at *
      rw [h4] at h3
      generalize v / (p * 18446744073709551616) = q at *
      generalize v / p % 18446744073709551616 = r at *
      generalize v % (p * 18446744073709551616) = s at *
      grind
  exact this n (Nat.le_refl _)
/-- A number's bit. -/
def JF (xs : List Int) (j : Nat) : Int := Qa xs (j / 64) / 2 ^ (j % 64) % 2
theorem JE (xs : List Int) (j : Nat) : 0 <= JF xs j /\ JF xs j <= 1 := by unfold JF; omega
/-- The bit of a number is the bit of its words. -/
theorem Qcy (xs : List Int) (hx : Qp xs) (n j : Nat) (h : j < 64 * n) : JF xs j = Qj xs n / 2 ^ j % 2 := by
  unfold JF
  have hm : j / 64 < n := by omega
  rw [<- GP xs hx n (j / 64) hm]
  have e : (2 : Int) ^ j = 2 ^ (64 * (j / 64)) * 2 ^ (j % 64) := by rw [<- Int.pow_add]; congr 1; omega
  rw [e, <- Int.ediv_ediv_of_nonneg (Int.le_of_lt (QP _))]
  generalize Qj xs n / 2 ^ (64 * (j / 64)) = y
  have hj : j % 64 < 64 := by omega
  generalize j % 64 = t at *
  have e2 : (18446744073709551616 : Int) = 2 ^ t * (2 * 2 ^ (63 - t)) := by
    rw [<- Int.mul_assoc, Int.mul_comm (2 ^ t) 2, show (2 : Int) * 2 ^ t = 2 ^ (t + 1) by rw [Int.pow_succ, Int.mul_comm], <- Int.pow_add, show t + 1 + (63 - t) = 64 by omega]
    rfl
  have hp := QP t
  have h1 := Int.emod_add_mul_ediv y 18446744073709551616
  conv => rhs; rw [<- h1]
  rw [e2]
  generalize y / (2 ^ t * (2 * 2 ^ (63 - t))) = q
  generalize y % (2 ^ t * (2 * 2 ^ (63 - t))) = r
  rw [show r + 2 ^ t * (2 * 2 ^ (63 - t)) * q = r + (2 * (2 ^ (63 - t) * q)) * 2 ^ t by grind, Int.add_mul_ediv_right _ _ (by omega), Int.add_mul_emod_self_left]
theorem HE (v : Int) (j : Nat) : v / 2 ^ j = 2 * (v / 2 ^ (j + 1)) + v / 2 ^ j % 2 := by
  have e : v / 2 ^ (j + 1) = v / 2 ^ j / 2 := by rw [Int.pow_succ, <- Int.ediv_ediv_of_nonneg (Int.le_of_lt (QP j))]
  rw [e]
  omega
theorem Fv (xs ys : List Int) (n : Nat) : Qp (ZD xs ys n) := by
  intro x hx
  simp only [ZD, List.mem_map] at hx
  obtain ⟨m, _, rfl⟩ := hx
  unfold Fu
  omega
theorem YD {v : Int} (h0 : 0 <= v) (h1 : v < 2 ^ 256) : Qj (Q9 4 v) 4 = v := by
  rw [V1 4 v h0]
  simp only [Nat.reduceMul, Int.reducePow] at *
  omega
theorem EO {xs : List Int} {v : Int} (hx : Qp xs) (hl : xs.length = 4) (h : Qj xs 4 = v) : xs = Q9 4 v := by
  subst h
  exact Gf xs hx 4 hl
/-- A number's value, by its bytes. -/
def Qh (zs : List Int) : Nat -> Int
  | 0 => 0
  | m + 1 => Qh zs m + Qa zs m * 2 ^ (8 * m)
theorem UC (zs : List Int) (hz : Qb zs) (m : Nat) : 0 <= Qh zs m /\ Qh zs m < 2 ^ (8 * m) := by
  induction m with
  | zero => exact ⟨by simp [Qh], by simp [Qh]⟩
  | succ m ih =>
    have hy := hz.at m
    simp only [Qh]
    rw [show 8 * (m + 1) = 8 * m + 8 by omega, Int.pow_add]
    generalize hp : (2 : Int) ^ (8 * m) = p at *
    generalize Qa zs m = x at *
    have hp0 : 0 < p := by rw [<- hp]; exact Int.pow_pos (by omega)
    have h1 : 0 <= x * p := Int.mul_nonneg hy.1 (by omega)
    have h2 : x * p <= 255 * p := Int.mul_le_mul_of_nonneg_right (by omega) (by omega)
    constructor
    . omega
    . have : p * 2 ^ 8 = 255 * p + p := by omega
      omega
theorem ZC (za : List Int) (j m : Nat) : Qh za (8 * j + m) = Qh za (8 * j) + Qv za j m * 2 ^ (64 * j) := by
  induction m with
  | zero => simp [Qv]
  | succ m ih =>
    rw [show 8 * j + (m + 1) = 8 * j + m + 1 by omega]
    simp only [Qh, ih, Qv]
    rw [show 8 * (8 * j + m) = 8 * m + 64 * j by omega, Int.pow_add]
    generalize (2 : Int) ^ (8 * m) = p
    generalize (2 : Int) ^ (64 * j) = q
    grind
theorem DA (za : List Int) (n j : Nat) (h : j <= n) : Qj (Zx za n) j = Qh za (8 * j) := by
  induction j with
  | zero => rfl
  | succ j ih =>
    have e : Qa (Zx za n) j = Qv za j 8 := by simp [Zx, Qa, show j < n by omega]
    rw [show 8 * (j + 1) = 8 * j + 8 by omega, ZC]
    simp only [Qj, ih (by omega), e]
theorem EU (za : List Int) (hz : Qb za) (n : Nat) : Zx za n = Q9 n (Qh za (8 * n)) := by
  have h := Gf (Zx za n) (Ht za hz n) n (by simp [Zx])
  rw [DA za n n (Nat.le_refl _)] at h
  exact h
theorem XV (za : List Int) (hz : Qb za) : 0 <= Qh za 32 /\ Qh za 32 < 2 ^ 256 := UC za hz 32
/-- The bytes of a number. -/
def QD (v : Int) : List Int := Zj (Q9 4 v) 32
theorem Qu (v : Int) : (QD v).length = 32 := by simp [QD, Zj]
theorem Z0 (v : Int) : Qb (QD v) := by
  intro x hx
  simp only [QD, Zj, List.mem_map] at hx
  obtain ⟨k, _, rfl⟩ := hx
  unfold UZ
  omega
theorem VT (v : Int) (j : Nat) (h : j < 32) : Qa (QD v) j = v / 2 ^ (8 * j) % 256 := by
  have e : Qa (QD v) j = UZ (Q9 4 v) j := by simp [QD, Zj, Qa, h]
  rw [e, UZ, JH 4 v _ (by omega)]
  have e2 : (2 : Int) ^ (8 * j) = 2 ^ (64 * (j / 8)) * 2 ^ (8 * (j % 8)) := by rw [<- Int.pow_add]; congr 1; omega
  rw [e2, <- Int.ediv_ediv_of_nonneg (Int.le_of_lt (QP _))]
  generalize v / 2 ^ (64 * (j / 8)) = y
  have hj : j % 8 < 8 := by omega
  generalize j % 8 = t at *
  obtain rfl | rfl | rfl | rfl | rfl | rfl | rfl | rfl : t = 0 \/ t = 1 \/ t = 2 \/ t = 3 \/ t = 4 \/ t = 5 \/ t = 6 \/ t = 7 := by omega
  all_goals (simp only [Nat.reduceMul, Int.reducePow]; omega)
theorem YN (v : Int) (h0 : 0 <= v) (h1 : v < 2 ^ 256) : Qh (QD v) 32 = v := by
  have : ∀ m, m <= 32 -> Qh (QD v) m = v % 2 ^ (8 * m) := by
    intro m
    induction m with
    | zero => intro _; simp [Qh]
    | succ m ih =>
      intro hm
      have hp := QP (8 * m)
      simp only [Qh]
      rw [ih (by omega), VT v m (by omega), show 8 * (m + 1) = 8 * m + 8 by omega, Int.pow_add, show (2 : Int) ^ 8 = 256 from rfl]
      have h1 := Int.emod_add_mul_ediv v (2 ^ (8 * m))
      have h2 := Int.emod_add_mul_ediv v (2 ^ (8 * m) * 256)
      have h3 := Int.emod_add_mul_ediv (v / 2 ^ (8 * m)) 256
      have h4 : v / 2 ^ (8 * m) / 256 = v / (2 ^ (8 * m) * 256) := Int.ediv_ediv_of_nonneg (by omega)
      generalize (2 : Int) ^ (8 * m) = p at *
      rw [h4] at h3
      generalize v / (p * 256) = q at *
      generalize v / p % 256 = r at *
      generalize v % (p * 256) = s at *
      grind
  rw [this 32 (Nat.le_refl _)]
  simp only [Nat.reduceMul, Int.reducePow] at *
  omega
theorem Hm {u v : Int} (hu : 0 <= u /\ u < 2 ^ 256) (hv : 0 <= v /\ v < 2 ^ 256) (h : QD u = QD v) : u = v := by
  rw [<- YN u hu.1 hu.2, h, YN v hv.1 hv.2]
/-- A bit of a number of bytes. -/
def Ui (zs : List Int) (j : Nat) : Int := Qa zs (j / 8) / 2 ^ (j % 8) % 2
theorem Qcz (zs : List Int) (j : Nat) : Ui zs j = 0 \/ Ui zs j = 1 := by unfold Ui; omega
theorem H3 (zs : List Int) (hz : Qb zs) (n j : Nat) (h : j < 8 * n) : Ui zs j = Qh zs n / 2 ^ j % 2 := by
  have key : ∀ n, j / 8 < n -> Qh zs n / 2 ^ (8 * (j / 8)) % 256 = Qa zs (j / 8) := by
    intro n
    induction n with
    | zero => omega
    | succ n ih =>
      intro hn
      have hp := QP (8 * (j / 8))
      by_cases e : j / 8 = n
      . have h1 := UC zs hz n
        have h2 := hz.at n
        subst e
        simp only [Qh]
        rw [Int.add_mul_ediv_right _ _ (by omega), Int.ediv_eq_zero_of_lt h1.1 h1.2, Int.zero_add, Int.emod_eq_of_lt h2.1 (by omega)]
      . rw [<- ih (by omega)]
        simp only [Qh]
        obtain ⟨d, hd⟩ : ∃ d, n = j / 8 + 1 + d := ⟨n - j / 8 - 1, by omega⟩
        have e2 : (2 : Int) ^ (8 * n) = 2 ^ (8 * (j / 8)) * (256 * 2 ^ (8 * d)) := by
          rw [show (256 : Int) = 2 ^ 8 from rfl, <- Int.pow_add, <- Int.pow_add]; congr 1; omega
        rw [e2]
        generalize Qa zs n = x
        generalize (2 : Int) ^ (8 * d) = q
        generalize (2 : Int) ^ (8 * (j / 8)) = p at *
        rw [show x * (p * (256 * q)) = (x * q * 256) * p by grind, Int.add_mul_ediv_right _ _ (by omega), Int.add_mul_emod_self_right]
  unfold Ui
  rw [<- key n (by omega)]
  have e : (2 : Int) ^ j = 2 ^ (8 * (j / 8)) * 2 ^ (j % 8) := by rw [<- Int.pow_add]; congr 1; omega
  rw [e, <- Int.ediv_ediv_of_nonneg (Int.le_of_lt (QP _))]
  generalize Qh zs n / 2 ^ (8 * (j / 8)) = y
  have hj : j % 8 < 8 := by omega
  generalize j % 8 = t at *
  obtain rfl | rfl | rfl | rfl | rfl | rfl | rfl | rfl : t = 0 \/ t = 1 \/ t = 2 \/ t = 3 \/ t = 4 \/ t = 5 \/ t = 6 \/ t = 7 := by omega
  all_goals (simp only [Int.reducePow]; omega)
theorem U2 {x : Int} (h : 0 <= x /\ x <= 255) : bits BinOp.and IntKind.u8 x 1 = x % 2 := Y1 (p := fun y => bits BinOp.and IntKind.u8 y 1 = y % 2) (by decide +kernel) h
theorem JD {x : Int} (h : 0 <= x /\ x <= 255) (t : Nat) : 0 <= x / 2 ^ t /\ x / 2 ^ t <= 255 := by
  have h1 : 0 <= x / 2 ^ t := Int.ediv_nonneg h.1 (Int.le_of_lt (QP _))
  have h2 : x / 2 ^ t <= x := Int.ediv_le_self _ h.1
  omega
/-- The modulus. -/
def pV : Int := 57896044618658097711785492504343953926634992332820282019728792003956564819949
/-- What limbs stand for. -/
def XY (xs : List Int) : Int := Qa xs 0 + Qa xs 1 * 2 ^ 51 + Qa xs 2 * 2 ^ 102 + Qa xs 3 * 2 ^ 153 + Qa xs 4 * 2 ^ 204
/-- Limbs a little above 51 bits at most. -/
def QS (xs : List Int) : Prop := ∀ k, 0 <= Qa xs k /\ Qa xs k < 2251799814209536
theorem YM {a b c d e : Int} (ha : 0 <= a /\ a < 18446744073709551616) (hb : 0 <= b /\ b < 18446744073709551616) (hc : 0 <= c /\ c < 18446744073709551616) (hd : 0 <= d /\ d < 18446744073709551616) (he : 0 <= e /\ e < 18446744073709551616) : Qp [a, b, c, d, e] := by
  intro x hx
  simp only [List.mem_cons, List.not_mem_nil, or_false] at hx
  rcases hx with rfl | rfl | rfl | rfl | rfl <;> assumption
theorem XI {a b c d e : Int} (ha : 0 <= a /\ a < 2251799814209536) (hb : 0 <= b /\ b < 2251799814209536) (hc : 0 <= c /\ c < 2251799814209536) (hd : 0 <= d /\ d < 2251799814209536) (he : 0 <= e /\ e < 2251799814209536) : QS [a, b, c, d, e] := by
  intro k
  match k with
  | 0 => exact ha
  | 1 => exact hb
  | 2 => exact hc
  | 3 => exact hd
  | 4 => exact he
  | k + 5 => exact ⟨by simp [Qa], by simp [Qa]⟩
theorem QS.words {xs : List Int} (h : QS xs) : Qp xs := fun x hx => by
  obtain ⟨i, hi, rfl⟩ := List.getElem_of_mem hx
  have := h i
  rw [JI hi] at this
  omega
/-- A number modulo p, as five limbs. -/
structure QA (xs : List Int) (v : Int) : Prop where
  len : xs.length = 5
  small : QS xs
  val : XY xs % pV = v
theorem QA.words {xs : List Int} {v : Int} (h : QA xs v) : Qp xs := h.small.words
theorem ZY (v : Int) : 0 <= v % pV /\ v % pV < pV := by unfold pV; omega
theorem Uk (v k : Int) : (v - k * pV) % pV = v % pV := by
  rw [show v - k * pV = v + (-k) * pV by rw [Int.neg_mul]; rfl, Int.add_mul_emod_self_right]
def Qi (x : List Int) : List Int :=
  [Qa x 0 % 2251799813685248 + Qa x 4 / 2251799813685248 * 19, Qa x 1 % 2251799813685248 + Qa x 0 / 2251799813685248, Qa x 2 % 2251799813685248 + Qa x 1 / 2251799813685248,
   Qa x 3 % 2251799813685248 + Qa x 2 / 2251799813685248, Qa x 4 % 2251799813685248 + Qa x 3 / 2251799813685248]
theorem Xy (x : List Int) (hx : Qp x) : QA (Qi x) (XY x % pV) := by
  have h0 := hx.at 0; have h1 := hx.at 1; have h2 := hx.at 2; have h3 := hx.at 3; have h4 := hx.at 4
  refine ⟨rfl, XI (by omega) (by omega) (by omega) (by omega) (by omega), ?_⟩
  have e : XY (Qi x) = XY x - Qa x 4 / 2251799813685248 * pV := by
    unfold pV
    simp only [XY, Qi, Q7, Q8, Int.reducePow]
    omega
  rw [e, Uk]
def Kd (x y : List Int) : List Int := [Qa x 0 + Qa y 0, Qa x 1 + Qa y 1, Qa x 2 + Qa y 2, Qa x 3 + Qa y 3, Qa x 4 + Qa y 4]
theorem Ul {x y : List Int} (hx : QS x) (hy : QS y) : Qp (Kd x y) := by
  have h0 := hx 0; have h1 := hx 1; have h2 := hx 2; have h3 := hx 3; have h4 := hx 4
  have g0 := hy 0; have g1 := hy 1; have g2 := hy 2; have g3 := hy 3; have g4 := hy 4
  exact YM (by omega) (by omega) (by omega) (by omega) (by omega)
theorem He {x y : List Int} {u v : Int} (hx : QA x u) (hy : QA y v) : QA (Qi (Kd x y)) ((u + v) % pV) := by
  have h := Xy _ (Ul hx.small hy.small)
  have e : XY (Kd x y) = XY x + XY y := by
    simp only [XY, Kd, Q7, Q8, Int.reducePow]
    omega
  rw [e, Int.add_emod, hx.val, hy.val] at h
  exact h
def XN (x y : List Int) : List Int := [Qa x 0 + (4503599627370458 - Qa y 0), Qa x 1 + (4503599627370494 - Qa y 1), Qa x 2 + (4503599627370494 - Qa y 2), Qa x 3 + (4503599627370494 - Qa y 3), Qa x 4 + (4503599627370494 - Qa y 4)]
theorem VB {x y : List Int} (hx : QS x) (hy : QS y) : Qp (XN x y) := by
  have h0 := hx 0; have h1 := hx 1; have h2 := hx 2; have h3 := hx 3; have h4 := hx 4
  have g0 := hy 0; have g1 := hy 1; have g2 := hy 2; have g3 := hy 3; have g4 := hy 4
  exact YM (by omega) (by omega) (by omega) (by omega) (by omega)
theorem ZI {x y : List Int} {u v : Int} (hx : QA x u) (hy : QA y v) : QA (Qi (XN x y)) ((u - v) % pV) := by
  have h := Xy _ (VB hx.small hy.small)
  have e : XY (XN x y) = XY x - XY y + 2 * pV := by
    unfold pV
    simp only [XY, XN, Q7, Q8, Int.reducePow]
    omega
  rw [e, Int.add_mul_emod_self_right, Int.sub_emod, hx.val, hy.val] at h
  exact h
/-- The five sums of products. -/
def Qx (x y : List Int) : Nat -> Int
  | 0 => Qa x 0 * Qa y 0 + Qa x 1 * 19 * Qa y 4 + Qa x 2 * 19 * Qa y 3 + Qa x 3 * 19 * Qa y 2 + Qa x 4 * 19 * Qa y 1
  | 1 => Qa x 0 * Qa y 1 + Qa x 1 * Qa y 0 + Qa x 2 * 19 * Qa y 4 + Qa x 3 * 19 * Qa y 3 + Qa x 4 * 19 * Qa y 2
  | 2 => Qa x 0 * Qa y 2 + Qa x 1 * Qa y 1 + Qa x 2 * Qa y 0 + Qa x 3 * 19 * Qa y 4 + Qa x 4 * 19 * Qa y 3
  | 3 => Qa x 0 * Qa y 3 + Qa x 1 * Qa y 2 + Qa x 2 * Qa y 1 + Qa x 3 * Qa y 0 + Qa x 4 * 19 * Qa y 4
  | _ => Qa x 0 * Qa y 4 + Qa x 1 * Qa y 3 + Qa x 2 * Qa y 2 + Qa x 3 * Qa y 1 + Qa x 4 * Qa y 0
theorem Qdn (x0 x1 x2 x3 x4 y0 y1 y2 y3 y4 b : Int) :
    (x0 + x1 * b + x2 * (b * b) + x3 * (b * b * b) + x4 * (b * b * b * b)) * (y0 + y1 * b + y2 * (b * b) + y3 * (b * b * b) + y4 * (b * b * b * b)) =
    (x0 * y0 + x1 * 19 * y4 + x2 * 19 * y3 + x3 * 19 * y2 + x4 * 19 * y1) + (x0 * y1 + x1 * y0 + x2 * 19 * y4 + x3 * 19 * y3 + x4 * 19 * y2) * b + (x0 * y2 + x1 * y1 + x2 * y0 + x3 * 19 * y4 + x4 * 19 * y3) * (b * b) +
    (x0 * y3 + x1 * y2 + x2 * y1 + x3 * y0 + x4 * 19 * y4) * (b * b * b) + (x0 * y4 + x1 * y3 + x2 * y2 + x3 * y1 + x4 * y0) * (b * b * b * b) +
    (b * b * b * b * b - 19) * (x1 * y4 + x2 * y3 + x3 * y2 + x4 * y1 + (x2 * y4 + x3 * y3 + x4 * y2) * b + (x3 * y4 + x4 * y3) * (b * b) + x4 * y4 * (b * b * b)) := by grind
def EE (x y : List Int) : Int := Qx x y 0 + Qx x y 1 * 2 ^ 51 + Qx x y 2 * 2 ^ 102 + Qx x y 3 * 2 ^ 153 + Qx x y 4 * 2 ^ 204
theorem DS (x y : List Int) : EE x y % pV = (XY x * XY y) % pV := by
  have h := Qdn (Qa x 0) (Qa x 1) (Qa x 2) (Qa x 3) (Qa x 4) (Qa y 0) (Qa y 1) (Qa y 2) (Qa y 3) (Qa y 4) 2251799813685248
  have e1 : (2251799813685248 : Int) * 2251799813685248 = 2 ^ 102 := by decide +kernel
  have e2 : (2251799813685248 : Int) * 2251799813685248 * 2251799813685248 = 2 ^ 153 := by decide +kernel
  have e3 : (2251799813685248 : Int) * 2251799813685248 * 2251799813685248 * 2251799813685248 = 2 ^ 204 := by decide +kernel
  have e4 : (2251799813685248 : Int) * 2251799813685248 * 2251799813685248 * 2251799813685248 * 2251799813685248 - 19 = pV := by decide +kernel
  rw [e4, e3, e2, e1] at h
  have e : XY x * XY y = EE x y + pV * (Qa x 1 * Qa y 4 + Qa x 2 * Qa y 3 + Qa x 3 * Qa y 2 + Qa x 4 * Qa y 1 + (Qa x 2 * Qa y 4 + Qa x 3 * Qa y 3 + Qa x 4 * Qa y 2) * 2251799813685248 + (Qa x 3 * Qa y 4 + Qa x 4 * Qa y 3) * 2 ^ 102 + Qa x 4 * Qa y 4 * 2 ^ 153) := h
  rw [e, Int.add_mul_emod_self_left]
theorem D7 {a b A B : Int} (ha : 0 <= a /\ a < A) (hb : 0 <= b /\ b < B) : 0 <= a * b /\ a * b <= A * B := ⟨Int.mul_nonneg ha.1 hb.1, Int.mul_le_mul (by omega) (by omega) hb.1 (by omega)⟩
theorem V4 {x y : List Int} (hx : QS x) (hy : QS y) (i j : Nat) : 0 <= Qa x i * Qa y j /\ Qa x i * Qa y j <= 5070602403274100847696513335296 := by
  have h := D7 (hx i) (hy j)
  refine ⟨h.1, Int.le_trans h.2 (by decide)⟩
/-- The limbs ahead of the carry. -/
def QO (x y : List Int) : List Int :=
  [Qx x y 0 % 2251799813685248 + Qx x y 4 / 2251799813685248 * 19, Qx x y 1 % 2251799813685248 + Qx x y 0 / 2251799813685248, Qx x y 2 % 2251799813685248 + Qx x y 1 / 2251799813685248,
   Qx x y 3 % 2251799813685248 + Qx x y 2 / 2251799813685248, Qx x y 4 % 2251799813685248 + Qx x y 3 / 2251799813685248]
theorem QN {x y : List Int} (hx : QS x) (hy : QS y) (k : Nat) : 0 <= Qx x y k /\ Qx x y k <= 77 * 5070602403274100847696513335296 := by
  have m := V4 hx hy
  have c : ∀ i j, Qa x i * 19 * Qa y j = Qa x i * Qa y j * 19 := fun i j => by rw [Int.mul_right_comm]
  match k with
  | 0 => have := m 0 0; have := m 1 4; have := m 2 3; have := m 3 2; have := m 4 1; simp only [Qx, c]; omega
  | 1 => have := m 0 1; have := m 1 0; have := m 2 4; have := m 3 3; have := m 4 2; simp only [Qx, c]; omega
  | 2 => have := m 0 2; have := m 1 1; have := m 2 0; have := m 3 4; have := m 4 3; simp only [Qx, c]; omega
  | 3 => have := m 0 3; have := m 1 2; have := m 2 1; have := m 3 0; have := m 4 4; simp only [Qx, c]; omega
  | k + 4 => have := m 0 4; have := m 1 3; have := m 2 2; have := m 3 1; have := m 4 0; simp only [Qx]; omega
theorem Vt {x y : List Int} (hx : QS x) (hy : QS y) : Qx x y 4 <= 5 * 5070602403274100847696513335296 := by
  have m := V4 hx hy
  have := m 0 4; have := m 1 3; have := m 2 2; have := m 3 1; have := m 4 0; simp only [Qx]; omega
theorem Vn {x y : List Int} (hx : QS x) (hy : QS y) : Qp (QO x y) := by
  have h0 := QN hx hy 0; have h1 := QN hx hy 1; have h2 := QN hx hy 2; have h3 := QN hx hy 3; have h4 := QN hx hy 4
  have h5 := Vt hx hy
  exact YM (by omega) (by omega) (by omega) (by omega) (by omega)
theorem QU {x y : List Int} {u v : Int} (hx : QA x u) (hy : QA y v) : QA (Qi (QO x y)) ((u * v) % pV) := by
  have h := Xy _ (Vn hx.small hy.small)
  have e : XY (QO x y) = EE x y - Qx x y 4 / 2251799813685248 * pV := by
    unfold pV EE
    simp only [XY, QO, Q7, Q8, Int.reducePow]
    generalize Qx x y 0 = r0
    generalize Qx x y 1 = r1
    generalize Qx x y 2 = r2
    generalize Qx x y 3 = r3
    generalize Qx x y 4 = r4
    omega
  rw [e, Uk, DS, Int.mul_emod, hx.val, hy.val] at h
  exact h
def YG (za : List Int) : List Int :=
  [Qv za 0 8 % 2251799813685248, (Qv za 0 8 / 2251799813685248 + Qv za 1 8 * 8192) % 2251799813685248, (Qv za 1 8 / 274877906944 + Qv za 2 8 * 67108864) % 2251799813685248,
   (Qv za 2 8 / 33554432 + Qv za 3 8 * 549755813888) % 2251799813685248, Qv za 3 8 / 4096]
theorem QV (za : List Int) (hb : Qb za) (j : Nat) : 0 <= Qv za j 8 /\ Qv za j 8 < 18446744073709551616 := by
  have := Vv za hb j 8 (Nat.le_refl _)
  simp only [Nat.reduceMul, Int.reducePow] at this
  exact this
theorem Un (za : List Int) (hb : Qb za) : Qp (YG za) := by
  have h0 := QV za hb 0; have h1 := QV za hb 1; have h2 := QV za hb 2; have h3 := QV za hb 3
  exact YM (by omega) (by omega) (by omega) (by omega) (by omega)
theorem Km (za : List Int) (hb : Qb za) : QA (Qi (YG za)) (Qh za 32 % pV) := by
  have h := Xy _ (Un za hb)
  have h0 := QV za hb 0; have h1 := QV za hb 1; have h2 := QV za hb 2; have h3 := QV za hb 3
  have e : XY (YG za) = Qh za 32 := by
    have p3 := ZC za 3 8; have p2 := ZC za 2 8; have p1 := ZC za 1 8; have p0 := ZC za 0 8
    simp only [Nat.reduceMul, Nat.reduceAdd, Int.reducePow] at p0 p1 p2 p3
    have p00 : Qh za 0 = 0 := rfl
    rw [p3, p2, p1, p0, p00]
    simp only [XY, YG, Q7, Q8, Int.reducePow]
    generalize Qv za 0 8 = a at *
    generalize Qv za 1 8 = b at *
    generalize Qv za 2 8 = c at *
    generalize Qv za 3 8 = d at *
    omega
  rw [e] at h
  exact h
theorem Ve (a b : Int) (n : Nat) (hn : n <= 64) (ha : 0 <= a /\ a < 2 ^ n) (hb : 0 <= b) : bits BinOp.or IntKind.u64 a (IntKind.u64.wrap (b * 2 ^ n)) = a + b * 2 ^ n % 18446744073709551616 := by
  rw [Yj]
  have hp : (0 : Int) < 2 ^ n := Int.pow_pos (by omega)
  have e64 : (18446744073709551616 : Int) = 2 ^ n * 2 ^ (64 - n) := by rw [<- Int.pow_add, show n + (64 - n) = 64 by omega]; rfl
  have hm : b * 2 ^ n % 18446744073709551616 % 2 ^ n = 0 := by
    rw [e64, Int.emod_emod_of_dvd _ (Int.dvd_mul_right _ _), Int.mul_emod_left]
  have hle : (2 : Int) ^ n <= 18446744073709551616 := by
    have h1 : (0 : Int) < 2 ^ (64 - n) := Int.pow_pos (by omega)
    have h2 : (2 : Int) ^ n * 1 <= 2 ^ n * 2 ^ (64 - n) := Int.mul_le_mul_of_nonneg_left (by omega) (by omega)
    omega
  have h := ZQ (b * 2 ^ n % 18446744073709551616) a n (by omega) (by omega) hm ha.1 ha.2 (by omega)
  rw [show bits BinOp.or IntKind.u64 a (b * 2 ^ n % 18446744073709551616) = bits BinOp.or IntKind.u64 (b * 2 ^ n % 18446744073709551616) a from by simp only [bits, BitVec.or_comm], h]
  omega
/-- A sum of 128 bits. -/
def wv (v : Int) : Value := Q2 .u64 [v / 18446744073709551616, v % 18446744073709551616]
/-- What runs over, with 19 more. -/
def JP (cs : List Int) : Nat -> Int
  | 0 => (Qa cs 0 + 19) / 2251799813685248
  | k + 1 => (Qa cs (k + 1) + JP cs k) / 2251799813685248
/-- The limbs, with what is carried into them. -/
def yS (cs : List Int) : Nat -> Int
  | 0 => Qa cs 0 + 19 * JP cs 4
  | k + 1 => Qa cs (k + 1) + yS cs k / 2251799813685248
def dS (cs : List Int) (k : Nat) : Int := yS cs k % 2251799813685248
def JN (cs : List Int) : List Int := [dS cs 0 + dS cs 1 * 2251799813685248 % 18446744073709551616, dS cs 1 / 8192 + dS cs 2 * 274877906944 % 18446744073709551616, dS cs 2 / 67108864 + dS cs 3 * 33554432 % 18446744073709551616, dS cs 3 / 549755813888 + dS cs 4 * 4096 % 18446744073709551616]
theorem Hi {cs : List Int} (hc : QS cs) (k : Nat) : 0 <= JP cs k /\ JP cs k <= 1 := by
  induction k with
  | zero => have := hc 0; simp only [JP]; omega
  | succ k ih => have := hc (k + 1); simp only [JP]; omega
theorem Xg {cs : List Int} (hc : QS cs) (k : Nat) : 0 <= yS cs k /\ yS cs k < 4503599627370496 := by
  have ho := Hi hc 4
  induction k with
  | zero => have := hc 0; simp only [yS]; omega
  | succ k ih => have := hc (k + 1); simp only [yS]; omega
theorem Xk (cs : List Int) (k : Nat) : 0 <= dS cs k /\ dS cs k < 2251799813685248 := by unfold dS; omega
theorem QcV {cs : List Int} (hc : QS cs) : JN cs = Q9 4 (XY cs % pV) := by
  have h0 := hc 0; have h1 := hc 1; have h2 := hc 2; have h3 := hc 3; have h4 := hc 4
  have d0 := Xk cs 0; have d1 := Xk cs 1; have d2 := Xk cs 2; have d3 := Xk cs 3; have d4 := Xk cs 4
  have hD : dS cs 0 + dS cs 1 * 2251799813685248 + dS cs 2 * 5070602400912917605986812821504 + dS cs 3 * 11417981541647679048466287755595961091061972992 + dS cs 4 * 25711008708143844408671393477458601640355247900524685364822016 = XY cs % pV := by
    have ho := Hi hc 4
    have e0 : JP cs 0 = (Qa cs 0 + 19) / 2251799813685248 := rfl
    have e1 : JP cs 1 = (Qa cs 1 + JP cs 0) / 2251799813685248 := rfl
    have e2 : JP cs 2 = (Qa cs 2 + JP cs 1) / 2251799813685248 := rfl
    have e3 : JP cs 3 = (Qa cs 3 + JP cs 2) / 2251799813685248 := rfl
    have e4 : JP cs 4 = (Qa cs 4 + JP cs 3) / 2251799813685248 := rfl
    have g0 : yS cs 0 = Qa cs 0 + 19 * JP cs 4 := rfl
    have g1 : yS cs 1 = Qa cs 1 + yS cs 0 / 2251799813685248 := rfl
    have g2 : yS cs 2 = Qa cs 2 + yS cs 1 / 2251799813685248 := rfl
    have g3 : yS cs 3 = Qa cs 3 + yS cs 2 / 2251799813685248 := rfl
    have g4 : yS cs 4 = Qa cs 4 + yS cs 3 / 2251799813685248 := rfl
    unfold dS pV
    simp only [XY, Int.reducePow]
    generalize JP cs 0 = o0 at *
    generalize JP cs 1 = o1 at *
    generalize JP cs 2 = o2 at *
    generalize JP cs 3 = o3 at *
    generalize JP cs 4 = o4 at *
    generalize yS cs 0 = y0 at *
    generalize yS cs 1 = y1 at *
    generalize yS cs 2 = y2 at *
    generalize yS cs 3 = y3 at *
    generalize yS cs 4 = y4 at *
    generalize Qa cs 0 = x0 at *
    generalize Qa cs 1 = x1 at *
    generalize Qa cs 2 = x2 at *
    generalize Qa cs 3 = x3 at *
    generalize Qa cs 4 = x4 at *
    have r1 : 57896044618658097711785492504343953926634992332820282019728792003956564819968 * o4 <= x0 + x1 * 2251799813685248 + x2 * 5070602400912917605986812821504 + x3 * 11417981541647679048466287755595961091061972992 + x4 * 25711008708143844408671393477458601640355247900524685364822016 + 19 /\
        x0 + x1 * 2251799813685248 + x2 * 5070602400912917605986812821504 + x3 * 11417981541647679048466287755595961091061972992 + x4 * 25711008708143844408671393477458601640355247900524685364822016 + 19 < 57896044618658097711785492504343953926634992332820282019728792003956564819968 * (o4 + 1) := by
      clear g0 g1 g2 g3 g4
      omega
    have r2 : y0 % 2251799813685248 + y1 % 2251799813685248 * 2251799813685248 + y2 % 2251799813685248 * 5070602400912917605986812821504 + y3 % 2251799813685248 * 11417981541647679048466287755595961091061972992 + y4 % 2251799813685248 * 25711008708143844408671393477458601640355247900524685364822016 + 57896044618658097711785492504343953926634992332820282019728792003956564819968 * (y4 / 2251799813685248) =
        x0 + x1 * 2251799813685248 + x2 * 5070602400912917605986812821504 + x3 * 11417981541647679048466287755595961091061972992 + x4 * 25711008708143844408671393477458601640355247900524685364822016 + 19 * o4 := by
      clear r1 e0 e1 e2 e3 e4
      omega
    have r3 : 0 <= y0 % 2251799813685248 + y1 % 2251799813685248 * 2251799813685248 + y2 % 2251799813685248 * 5070602400912917605986812821504 + y3 % 2251799813685248 * 11417981541647679048466287755595961091061972992 + y4 % 2251799813685248 * 25711008708143844408671393477458601640355247900524685364822016 /\
        y0 % 2251799813685248 + y1 % 2251799813685248 * 2251799813685248 + y2 % 2251799813685248 * 5070602400912917605986812821504 + y3 % 2251799813685248 * 11417981541647679048466287755595961091061972992 + y4 % 2251799813685248 * 25711008708143844408671393477458601640355247900524685364822016 < 57896044618658097711785492504343953926634992332820282019728792003956564819968 := by
      clear r1 r2 e0 e1 e2 e3 e4 g0 g1 g2 g3 g4
      omega
    have r4 : 0 <= x0 + x1 * 2251799813685248 + x2 * 5070602400912917605986812821504 + x3 * 11417981541647679048466287755595961091061972992 + x4 * 25711008708143844408671393477458601640355247900524685364822016 /\
        x0 + x1 * 2251799813685248 + x2 * 5070602400912917605986812821504 + x3 * 11417981541647679048466287755595961091061972992 + x4 * 25711008708143844408671393477458601640355247900524685364822016 < 57896044618658097711785492504343953926634992332820282019728792003956564819968 + 1725436586697640946858688965569256363112777243042596638790631055949824 := by
      clear r1 r2 r3 e0 e1 e2 e3 e4 g0 g1 g2 g3 g4
      omega
    clear e0 e1 e2 e3 e4 g0 g1 g2 g3 g4 h0 h1 h2 h3 h4
    generalize y0 % 2251799813685248 + y1 % 2251799813685248 * 2251799813685248 + y2 % 2251799813685248 * 5070602400912917605986812821504 + y3 % 2251799813685248 * 11417981541647679048466287755595961091061972992 + y4 % 2251799813685248 * 25711008708143844408671393477458601640355247900524685364822016 = D at *
    generalize x0 + x1 * 2251799813685248 + x2 * 5070602400912917605986812821504 + x3 * 11417981541647679048466287755595961091061972992 + x4 * 25711008708143844408671393477458601640355247900524685364822016 = V at *
    generalize y4 / 2251799813685248 = q at *
    have ho2 : o4 = 0 \/ o4 = 1 := by omega
    rcases ho2 with rfl | rfl <;> omega
  have hw : Qp (JN cs) := by
    intro x hx
    simp only [JN, List.mem_cons, List.not_mem_nil, or_false] at hx
    rcases hx with rfl | rfl | rfl | rfl <;> omega
  refine EO hw rfl ?_
  rw [<- hD]
  simp only [Qj, JN, Q7, Q8, Nat.reduceMul, Int.reducePow]
  generalize dS cs 0 = a at *
  generalize dS cs 1 = b at *
  generalize dS cs 2 = c at *
  generalize dS cs 3 = d at *
  generalize dS cs 4 = e at *
  omega
theorem Vx : QA [1, 0, 0, 0, 0] 1 := ⟨rfl, XI (by omega) (by omega) (by omega) (by omega) (by omega), by decide +kernel⟩
/-- A number of 1 bits, but for two bytes. -/
def Vc (lo hi : Int) : List Int := ((List.replicate 32 (255 : Int)).set 0 lo).set 31 hi
/-- A power, behind so many of the exponent's bits. -/
def X4 (xs nb : List Int) : Nat -> List Int
  | 0 => [1, 0, 0, 0, 0]
  | k + 1 => if Ui nb (255 - k) = 1 then Qi (QO (Qi (QO (X4 xs nb k) (X4 xs nb k))) xs) else Qi (QO (X4 xs nb k) (X4 xs nb k))
theorem Qbl (u : Int) (e : Nat) : ((u ^ e % pV) * (u ^ e % pV)) % pV = u ^ (2 * e) % pV := by
  rw [<- Int.mul_emod, <- Int.pow_add, show e + e = 2 * e by omega]
theorem DT (u v : Int) (e : Nat) (hv : v % pV = u % pV) : ((u ^ (2 * e) % pV) * v) % pV = u ^ (2 * e + 1) % pV := by
  rw [Int.mul_emod, Int.emod_emod_of_dvd _ (Int.dvd_refl _), hv, <- Int.mul_emod, Int.pow_succ]
theorem U8 (xs nb : List Int) (u : Int) (hx : QA xs u) (hn : Qb nb) : ∀ k, k <= 256 -> QA (X4 xs nb k) (u ^ (Qh nb 32 / 2 ^ (256 - k)).toNat % pV)
  | 0, _ => by
    have h := XV nb hn
    rw [Nat.sub_zero, Int.ediv_eq_zero_of_lt h.1 h.2, show u ^ Int.toNat 0 % pV = 1 by rw [show Int.toNat 0 = 0 from rfl, Int.pow_zero]; decide +kernel]
    exact Vx
  | k + 1, hk => by
    have ih := U8 xs nb u hx hn k (by omega)
    have h2 := QU ih ih
    rw [Qbl] at h2
    have hb := H3 nb hn 32 (255 - k) (by omega)
    have hh := HE (Qh nb 32) (255 - k)
    rw [show 255 - k + 1 = 256 - k by omega, <- hb] at hh
    have h0 := (XV nb hn).1
    have hy : 0 <= Qh nb 32 / 2 ^ (256 - k) := Int.ediv_nonneg h0 (Int.le_of_lt (QP _))
    rw [show 256 - (k + 1) = 255 - k by omega]
    have hbit := Qcz nb (255 - k)
    unfold X4
    split
    . next h1 =>
      rw [h1] at hh
      have e : (Qh nb 32 / 2 ^ (255 - k)).toNat = 2 * (Qh nb 32 / 2 ^ (256 - k)).toNat + 1 := by omega
      rw [e]
      have h3 := QU h2 hx
      have hu : u % pV = u % pV := rfl
      rw [DT u u _ rfl] at h3
      exact h3
    . next h1 =>
      have h10 : Ui nb (255 - k) = 0 := by omega
      rw [h10] at hh
      have e : (Qh nb 32 / 2 ^ (255 - k)).toNat = 2 * (Qh nb 32 / 2 ^ (256 - k)).toNat := by omega
      rw [e]
      exact h2
theorem E5 {xs : List Int} {u : Int} (h : QA xs u) : 0 <= u /\ u < pV := by rw [<- h.val]; exact ZY _
theorem Qbs : (0 : Int) <= pV /\ pV < 2 ^ 256 := by decide +kernel
theorem D3 {u v : Int} (hu : 0 <= u /\ u < pV) (hv : 0 <= v /\ v < pV) : decide (QD u = QD v) = decide (u = v) := by
  have := Qbs
  exact decide_eq_decide.2 ⟨fun h => Hm ⟨hu.1, by omega⟩ ⟨hv.1, by omega⟩ h, fun h => by rw [h]⟩
theorem ZB : QA [0, 0, 0, 0, 0] 0 := ⟨rfl, XI (by omega) (by omega) (by omega) (by omega) (by omega), by decide +kernel⟩
theorem YT {xb : List Int} (hb : Qb xb) (hl : xb.length = 32) : QD (Qh xb 32) = xb := by
  apply Xj (by rw [Qu, hl])
  intro j hj
  rw [Qu] at hj
  rw [VT _ j hj]
  have key : ∀ n, j < n -> Qh xb n / 2 ^ (8 * j) % 256 = Qa xb j := by
    intro n
    induction n with
    | zero => omega
    | succ n ih =>
      intro hn
      have hp := QP (8 * j)
      by_cases e : j = n
      . have h1 := UC xb hb n
        have h2 := hb.at n
        subst e
        simp only [Qh]
        rw [Int.add_mul_ediv_right _ _ (by omega), Int.ediv_eq_zero_of_lt h1.1 h1.2, Int.zero_add, Int.emod_eq_of_lt h2.1 (by omega)]
      . rw [<- ih (by omega)]
        simp only [Qh]
        obtain ⟨d, hd⟩ : ∃ d, n = j + 1 + d := ⟨n - j - 1, by omega⟩
        have e2 : (2 : Int) ^ (8 * n) = 2 ^ (8 * j) * (256 * 2 ^ (8 * d)) := by
          rw [show (256 : Int) = 2 ^ 8 from rfl, <- Int.pow_add, <- Int.pow_add]; congr 1; omega
        rw [e2]
        generalize Qa xb n = x
        generalize (2 : Int) ^ (8 * d) = q
        generalize (2 : Int) ^ (8 * j) = p at *
        rw [show x * (p * (256 * q)) = (x * q * 256) * p by grind, Int.add_mul_ediv_right _ _ (by omega), Int.add_mul_emod_self_right]
  exact key 32 hj
theorem KT {xb : List Int} (hb : Qb xb) (hl : xb.length = 32) : decide (QD (Qh xb 32 % pV) = xb) = decide (Qh xb 32 < pV) := by
  have hv := XV xb hb
  have hm := ZY (Qh xb 32)
  have hp := Qbs
  refine decide_eq_decide.2 ⟨fun h => ?_, fun h => ?_⟩
  . have h2 : Qh xb 32 % pV = Qh xb 32 := Hm ⟨hm.1, by omega⟩ hv (by rw [h, YT hb hl])
    omega
  . rw [Int.emod_eq_of_lt hv.1 h, YT hb hl]
theorem Kb {xs nb : List Int} {u : Int} (hx : QA xs u) (hn : Qb nb) : QA (X4 xs nb 256) (u ^ (Qh nb 32).toNat % pV) := by
  have h := U8 xs nb u hx hn 256 (Nat.le_refl _)
  rw [Nat.sub_self, Int.pow_zero, Int.ediv_one] at h
  exact h
theorem Hc : Qb (Vc 235 127) := by intro x hx; revert x; decide
theorem Kc : Qb (Vc 254 15) := by intro x hx; revert x; decide
def EB : List Int := [1718705420411056, 234908883556509, 2233514472574048, 2117202627021982, 765476049583133]
/-- The root of -1. -/
def iV : Int := XY EB % pV
theorem J6 : QA EB iV := ⟨rfl, XI (by omega) (by omega) (by omega) (by omega) (by omega), rfl⟩
def U5 (u : Int) : Int := u ^ (Qh (Vc 254 15) 32).toNat % pV
def G2 (u : Int) : Int := U5 u * iV % pV
def DM (u : Int) : Bool := decide (U5 u * U5 u % pV = u)
def sq1 (u : Int) : Bool := decide (G2 u * G2 u % pV = u)
/-- Is there a root? -/
def okV (u : Int) : Bool := DM u || sq1 u
/-- The even one of a number and its negative. -/
def ZK (c : Int) : Int := if c % 2 = 1 then (0 - c) % pV else c
def rV (u : Int) : Int := if DM u then ZK (U5 u) else if sq1 u then ZK (G2 u) else 0
def pN : Nat := 57896044618658097711785492504343953926634992332820282019728792003956564819949
theorem Zu : pV = (pN : Int) := by decide +kernel
theorem QaW : (Qh (Vc 254 15) 32).toNat = 7237005577332262213973186563042994240829374041602535252466099000494570602494 := by decide +kernel
/-- A prime. -/
def Xt (p : Nat) : Prop := 2 <= p /\ ∀ d, d ∣ p -> d = 1 \/ d = p
theorem Xt.cop {p a : Nat} (h : Xt p) (ha : ¬ p ∣ a) : Nat.gcd p a = 1 := by
  rcases h.2 (Nat.gcd p a) (Nat.gcd_dvd_left p a) with e | e
  . exact e
  . exact absurd (e ▸ Nat.gcd_dvd_right p a) ha
theorem Xt.euclid {p a b : Nat} (h : Xt p) (hab : p ∣ a * b) : p ∣ a \/ p ∣ b := by
  by_cases ha : p ∣ a
  . exact .inl ha
  . exact .inr (Nat.Coprime.dvd_of_dvd_mul_left (h.cop ha) hab)
/-- Binomials. -/
def bin : Nat -> Nat -> Nat
  | _, 0 => 1
  | 0, _ + 1 => 0
  | n + 1, k + 1 => bin n k + bin n (k + 1)
theorem YL (n : Nat) : bin n 0 = 1 := by cases n <;> rfl
theorem ZN (n k : Nat) : bin (n + 1) (k + 1) = bin n k + bin n (k + 1) := rfl
theorem US : ∀ n k, (k + 1) * bin (n + 1) (k + 1) = (n + 1) * bin n k
  | 0, 0 => rfl
  | 0, k + 1 => by simp [bin]
  | n + 1, 0 => by
    have h := US n 0
    rw [ZN (n + 1) 0, YL]
    rw [YL] at h
    omega
  | n + 1, j + 1 => by
    have h1 := US n (j + 1)
    have h2 := US n j
    have h3 := ZN n j
    rw [ZN (n + 1) (j + 1)]
    have e1 : (j + 1 + 1) * (bin (n + 1) (j + 1) + bin (n + 1) (j + 1 + 1)) = (j + 1) * bin (n + 1) (j + 1) + bin (n + 1) (j + 1) + (j + 1 + 1) * bin (n + 1) (j + 1 + 1) := by
      rw [Nat.mul_add, Nat.add_mul (j + 1) 1, Nat.one_mul]
    rw [e1, h1, h2, Nat.add_mul (n + 1) 1, Nat.one_mul]
    have e2 : (n + 1) * bin (n + 1) (j + 1) = (n + 1) * bin n j + (n + 1) * bin n (j + 1) := by rw [h3, Nat.mul_add]
    omega
theorem VN : ∀ n k, n < k -> bin n k = 0
  | 0, 0, h => by omega
  | 0, k + 1, _ => rfl
  | n + 1, 0, h => by omega
  | n + 1, k + 1, h => by rw [ZN, VN n k (by omega), VN n (k + 1) (by omega)]
theorem Fa : ∀ n, bin n n = 1
  | 0 => rfl
  | n + 1 => by rw [ZN, Fa n, VN n (n + 1) (by omega)]
/-- A sum of so many. -/
def XB (f : Nat -> Nat) : Nat -> Nat
  | 0 => 0
  | n + 1 => XB f n + f n
theorem ZT (f : Nat -> Nat) : ∀ n, XB f (n + 1) = f 0 + XB (fun k => f (k + 1)) n
  | 0 => by simp [XB]
  | n + 1 => by
    rw [XB, ZT f n]
    show _ = f 0 + (XB (fun k => f (k + 1)) n + f (n + 1))
    omega
theorem GZ (f g : Nat -> Nat) : ∀ n, XB (fun k => f k + g k) n = XB f n + XB g n
  | 0 => rfl
  | n + 1 => by simp only [XB, GZ f g n]; omega
theorem GX (c : Nat) (f : Nat -> Nat) : ∀ n, XB (fun k => c * f k) n = c * XB f n
  | 0 => rfl
  | n + 1 => by simp only [XB, GX c f n, Nat.mul_add]
theorem U3 {f g : Nat -> Nat} : ∀ n, (∀ k, k < n -> f k = g k) -> XB f n = XB g n
  | 0, _ => rfl
  | n + 1, h => by rw [XB, XB, U3 n (fun k hk => h k (by omega)), h n (by omega)]
theorem GY {p : Nat} {f : Nat -> Nat} : ∀ n, (∀ k, k < n -> p ∣ f k) -> p ∣ XB f n
  | 0, _ => Nat.dvd_zero p
  | n + 1, h => Nat.dvd_add (GY n (fun k hk => h k (by omega))) (h n (by omega))
theorem Qex (a : Nat) : ∀ n, (a + 1) ^ n = XB (fun k => bin n k * a ^ k) (n + 1)
  | 0 => rfl
  | n + 1 => by
    have ih := Qex a n
    rw [ZT, YL]
    have e1 : XB (fun k => bin (n + 1) (k + 1) * a ^ (k + 1)) (n + 1) = XB (fun k => a * (bin n k * a ^ k) + bin n (k + 1) * a ^ (k + 1)) (n + 1) := by
      refine U3 _ fun k _ => ?_
      rw [ZN, Nat.add_mul, Nat.pow_succ]
      congr 1
      rw [<- Nat.mul_assoc, Nat.mul_comm a]
    have e2 : XB (fun k => bin n k * a ^ k) (n + 1 + 1) = 1 * a ^ 0 + XB (fun k => bin n (k + 1) * a ^ (k + 1)) (n + 1) := by
      rw [ZT, YL]
    have e3 : XB (fun k => bin n k * a ^ k) (n + 1 + 1) = XB (fun k => bin n k * a ^ k) (n + 1) := by
      rw [XB, VN n (n + 1) (by omega)]; omega
    rw [e1, GZ, GX, Nat.pow_succ, ih, Nat.mul_add, Nat.mul_one, Nat.mul_comm _ a]
    omega
theorem Xt.bin {p k : Nat} (h : Xt p) (hk : k + 1 < p) : p ∣ Go.Proofs.YtbiboamaigedjaaDoor.bin p (k + 1) := by
  obtain ⟨n, rfl⟩ : ∃ n, p = n + 1 := ⟨p - 1, by have := h.1; omega⟩
  have e := US n k
  rcases h.euclid (a := k + 1) (b := Go.Proofs.YtbiboamaigedjaaDoor.bin (n + 1) (k + 1)) ⟨_, e⟩ with d | d
  . exact absurd (Nat.le_of_dvd (by omega) d) (by omega)
  . exact d
theorem Xt.fresh {p : Nat} (h : Xt p) (a : Nat) : (a + 1) ^ p % p = (a ^ p + 1) % p := by
  have hp := h.1
  rw [Qex, ZT, YL]
  obtain ⟨n, hn⟩ : ∃ n, p = n + 1 := ⟨p - 1, by omega⟩
  have e : XB (fun k => Go.Proofs.YtbiboamaigedjaaDoor.bin p (k + 1) * a ^ (k + 1)) p = XB (fun k => Go.Proofs.YtbiboamaigedjaaDoor.bin p (k + 1) * a ^ (k + 1)) n + a ^ p := by
    conv => lhs; rw [hn]
    rw [XB, <- hn, Fa, Nat.one_mul]
  rw [e]
  obtain ⟨c, hc⟩ := GY (p := p) (f := fun k => Go.Proofs.YtbiboamaigedjaaDoor.bin p (k + 1) * a ^ (k + 1)) n (fun k hk => Nat.dvd_trans (h.bin (by omega)) (Nat.dvd_mul_right _ _))
  rw [hc]
  have : 1 * a ^ 0 + (p * c + a ^ p) = a ^ p + 1 + p * c := by simp; omega
  rw [this, Nat.add_mul_mod_self_left]
theorem Xt.fermat0 {p : Nat} (h : Xt p) : ∀ a, a ^ p % p = a % p
  | 0 => by
    have hp := h.1
    rw [Nat.zero_pow (by omega)]
  | a + 1 => by
    rw [h.fresh, Nat.add_mod, h.fermat0 a, <- Nat.add_mod]
theorem Vh {n a b : Nat} (hab : b <= a) : a % n = b % n ↔ n ∣ a - b := by
  constructor
  . intro h
    have ha := Nat.div_add_mod a n
    have hb := Nat.div_add_mod b n
    refine ⟨a / n - b / n, ?_⟩
    rw [Nat.mul_sub]; omega
  . rintro ⟨c, hc⟩
    have : a = b + n * c := by omega
    rw [this, Nat.add_mul_mod_self_left]
theorem Xt.fermat {p a : Nat} (h : Xt p) (ha : ¬ p ∣ a) : a ^ (p - 1) % p = 1 % p := by
  have hp := h.1
  have h0 := h.fermat0 a
  have ha0 : 0 < a := Nat.pos_of_ne_zero fun e => ha (e ▸ Nat.dvd_zero p)
  have e : a ^ p = a * a ^ (p - 1) := by
    conv => lhs; rw [show p = p - 1 + 1 by omega]
    rw [Nat.pow_succ, Nat.mul_comm]
  have h1 : 1 <= a ^ (p - 1) := Nat.pow_pos ha0
  have h2 : a <= a ^ p := by rw [e]; exact Nat.le_mul_of_pos_right _ h1
  have h3 := (Vh h2).1 h0
  rw [e, show a * a ^ (p - 1) - a = a * (a ^ (p - 1) - 1) by rw [Nat.mul_sub, Nat.mul_one]] at h3
  rcases h.euclid h3 with d | d
  . exact absurd d ha
  . exact (Vh h1).2 d
theorem Hb {r b m : Nat} (hm : b ^ m % r = 1 % r) (k : Nat) : b ^ (m * k) % r = 1 % r := by
  rw [Nat.pow_mul, Nat.pow_mod, hm, <- Nat.pow_mod, Nat.one_pow]
theorem Qdp {r b : Nat} (m n : Nat) (hm : b ^ m % r = 1 % r) (hn : b ^ n % r = 1 % r) : b ^ (Nat.gcd m n) % r = 1 % r := by
  revert hm hn
  refine Nat.gcd.induction (P := fun m n => b ^ m % r = 1 % r -> b ^ n % r = 1 % r -> b ^ (Nat.gcd m n) % r = 1 % r) m n ?_ ?_
  . intro n h1 h2; rw [Nat.gcd_zero_left]; exact h2
  . intro m n hm ih h1 h2
    rw [Nat.gcd_rec]
    refine ih ?_ h1
    have e := Nat.div_add_mod n m
    rw [<- e, Nat.pow_add, Nat.mul_mod, Hb h1, <- Nat.mul_mod, Nat.one_mul] at h2
    exact h2
theorem Qbk : ∀ n, 2 <= n -> ∃ r, Xt r /\ r ∣ n := by
  intro n
  refine Nat.strongRecOn (motive := fun n => 2 <= n -> ∃ r, Xt r /\ r ∣ n) n ?_
  intro n ih hn
  by_cases hp : Xt n
  . exact ⟨n, hp, Nat.dvd_refl n⟩
  . have : ∃ d, d ∣ n /\ d ≠ 1 /\ d ≠ n := by
      refine Classical.byContradiction fun hno => hp ⟨hn, fun d hd => ?_⟩
      refine Classical.byContradiction fun hd2 => hno ⟨d, hd, ?_, ?_⟩
      . exact fun e => hd2 (.inl e)
      . exact fun e => hd2 (.inr e)
    obtain ⟨d, hd, h1, h2⟩ := this
    have hle := Nat.le_of_dvd (by omega) hd
    have h0 : d ≠ 0 := by rintro rfl; obtain ⟨c, hc⟩ := hd; omega
    obtain ⟨r, hr, hrd⟩ := ih d (by omega) (by omega)
    exact ⟨r, hr, Nat.dvd_trans hrd hd⟩
theorem JO {N F : Nat} (hN : 2 <= N) (h : N < (F + 1) * (F + 1)) (hF : ∀ r, Xt r -> r ∣ N -> F ∣ r - 1) : Xt N := by
  refine Classical.byContradiction fun hp => ?_
  have : ∃ d, d ∣ N /\ d ≠ 1 /\ d ≠ N := by
    refine Classical.byContradiction fun hno => hp ⟨hN, fun d hd => ?_⟩
    refine Classical.byContradiction fun hd2 => hno ⟨d, hd, fun e => hd2 (.inl e), fun e => hd2 (.inr e)⟩
  obtain ⟨d, ⟨e, he⟩, h1, h2⟩ := this
  have hd0 : d ≠ 0 := by rintro rfl; simp at he; omega
  have he0 : e ≠ 0 := by rintro rfl; simp at he; omega
  have he1 : e ≠ 1 := by rintro rfl; simp at he; omega
  have big : ∀ x, 2 <= x -> x ∣ N -> F + 1 <= x := by
    intro x hx hxN
    obtain ⟨r, hr, hrx⟩ := Qbk x hx
    have hle := Nat.le_of_dvd (by omega) hrx
    have h3 := hF r hr (Nat.dvd_trans hrx hxN)
    have h4 := Nat.le_of_dvd (by have := hr.1; omega) h3
    omega
  have b1 := big d (by omega) ⟨e, he⟩
  have b2 := big e (by omega) ⟨d, by rw [he, Nat.mul_comm]⟩
  have := Nat.mul_le_mul b1 b2
  omega
/-- A prime q that each prime in N lies above, by a number b of the order q. -/
theorem Qbv {N q b : Nat} (hq : Xt q) (hb : b ^ q % N = 1 % N) (hg : Nat.gcd (b - 1) N = 1) (hb1 : 1 <= b) : ∀ r, Xt r -> r ∣ N -> q ∣ r - 1 := by
  intro r hr hrN
  have h1 : b ^ q % r = 1 % r := by
    rw [<- Nat.mod_mod_of_dvd (b ^ q) hrN, hb, Nat.mod_mod_of_dvd _ hrN]
  have hrb : ¬ r ∣ b := by
    intro hd
    have h0 : b ^ q % r = 0 := Nat.mod_eq_zero_of_dvd (Nat.dvd_trans hd (by
      have := hq.1
      rw [show q = q - 1 + 1 by omega, Nat.pow_succ]; exact Nat.dvd_mul_left _ _))
    have := hr.1
    rw [h0, Nat.mod_eq_of_lt (by omega)] at h1
    omega
  have h2 := hr.fermat hrb
  have h3 := Qdp q (r - 1) h1 h2
  rcases hq.2 _ (Nat.gcd_dvd_left q (r - 1)) with e | e
  . rw [e, Nat.pow_one] at h3
    have h4 := (Vh hb1).1 h3
    have h5 := Nat.dvd_gcd h4 hrN
    rw [hg] at h5
    have := Nat.le_of_dvd (by omega) h5
    have := hr.1
    omega
  . exact e ▸ Nat.gcd_dvd_right q (r - 1)
theorem KG {q s m : Nat} (hq : Xt q) (hs : Xt s) (hne : q ≠ s) (h1 : q ∣ m) (h2 : s ∣ m) : q * s ∣ m := by
  obtain ⟨c, rfl⟩ := h1
  rcases hs.euclid h2 with d | d
  . rcases hq.2 s d with e | e
    . have := hs.1; omega
    . exact absurd e.symm hne
  . exact Nat.mul_dvd_mul_left q d
/-- No divisor from d on, as far as the square goes. -/
def chk (n : Nat) : Nat -> Nat -> Bool
  | 0, _ => false
  | f + 1, d => if n < d * d then true else if n % d = 0 then false else chk n f (d + 1)
theorem Ue (n : Nat) : ∀ f d, chk n f d = true -> ∀ e, d <= e -> e * e <= n -> ¬ e ∣ n
  | 0, _, h => by simp [chk] at h
  | f + 1, d, h => by
    intro e hde he hdv
    unfold chk at h
    split at h
    . rename_i hlt
      have := Nat.mul_le_mul hde hde
      omega
    . split at h
      . simp at h
      . rename_i h0
        by_cases hed : e = d
        . subst hed; exact h0 (Nat.mod_eq_zero_of_dvd hdv)
        . exact Ue n f (d + 1) h e (by omega) he hdv
theorem Xt.small {n f : Nat} (hn : 2 <= n) (h : chk n f 2 = true) : Xt n := by
  refine ⟨hn, fun d hd => ?_⟩
  obtain ⟨e, he⟩ := hd
  refine Classical.byContradiction fun hno => ?_
  have hd0 : d ≠ 0 := by rintro rfl; simp at he; omega
  have he0 : e ≠ 0 := by rintro rfl; simp at he; omega
  have he1 : e ≠ 1 := by rintro rfl; simp at he; omega
  have hd1 : d ≠ 1 := fun e => hno (.inl e)
  rcases Nat.le_total d e with hle | hle
  . exact Ue n f 2 h d (by omega) (by rw [he]; exact Nat.mul_le_mul_left d hle) ⟨e, he⟩
  . exact Ue n f 2 h e (by omega) (by rw [he]; exact Nat.mul_le_mul_right e hle) ⟨d, by rw [he, Nat.mul_comm]⟩
/-- A power modulo p by squaring. -/
def pmo (p u : Nat) : Nat -> Nat -> Nat
  | 0, _ => 1 % p
  | f + 1, e => (match e % 2 with | 0 => 1 | _ => u) * (pmo p u f (e / 2) * pmo p u f (e / 2) % p) % p
theorem FP (p u : Nat) : ∀ f e, e < 2 ^ f -> pmo p u f e = u ^ e % p
  | 0, e, h => by
    obtain rfl : e = 0 := by simpa using h
    rfl
  | f + 1, e, h => by
    have ih := FP p u f (e / 2) (by rw [Nat.pow_succ] at h; omega)
    have h2 : e = e / 2 + e / 2 + e % 2 := by omega
    unfold pmo
    rw [ih]
    generalize hk : e / 2 = k at *
    have hm : e % 2 = 0 \/ e % 2 = 1 := by omega
    have key : u ^ k % p * (u ^ k % p) % p = u ^ (k + k) % p := by rw [<- Nat.mul_mod, <- Nat.pow_add]
    rw [key]
    rcases hm with h0 | h1
    . rw [h0] at h2 ⊢
      subst h2
      simp only [Nat.add_zero]
      rw [Nat.one_mul, Nat.mod_mod]
    . rw [h1] at h2 ⊢
      subst h2
      show u * (u ^ (k + k) % p) % p = u ^ (k + k + 1) % p
      rw [Nat.mul_mod, Nat.mod_mod, <- Nat.mul_mod, Nat.pow_succ, Nat.mul_comm]
theorem Xt.certify {N q b f : Nat} (hq : Xt q) (hf : q < 2 ^ f) (h : (decide (pmo N b f q = 1 % N) && decide (Nat.gcd (b - 1) N = 1) && decide (1 <= b)) = true) : ∀ r, Xt r -> r ∣ N -> q ∣ r - 1 := by
  simp only [Bool.and_eq_true, decide_eq_true_eq] at h
  exact Qbv hq (by rw [<- FP N b f q hf]; exact h.1.1) h.1.2 h.2
theorem Qbf : Xt 8574133 := Xt.small (f := 2931) (by decide) (by decide +kernel)
theorem Qbe : Xt 127 := Xt.small (f := 14) (by decide) (by decide +kernel)
theorem Qbd : Xt 75707 := Xt.small (f := 278) (by decide) (by decide +kernel)
theorem Qbc : Xt 1923133 := Xt.small (f := 1389) (by decide) (by decide +kernel)
theorem Qbg : Xt 1919519569386763 := by
  refine JO (F := 8574133 * 127) (by decide) (by decide +kernel) fun r hr hd => ?_
  refine KG Qbf Qbe (by decide) ?_ ?_
  . exact Xt.certify (b := 1059928654987441) (f := 24) Qbf (by decide +kernel) (by decide +kernel) r hr hd
  . exact Xt.certify (b := 576774792492622) (f := 7) Qbe (by decide +kernel) (by decide +kernel) r hr hd
theorem Qbh : Xt 75445702479781427272750846543864801 := by
  refine JO (F := 1919519569386763 * 75707) (by decide) (by decide +kernel) fun r hr hd => ?_
  refine KG Qbg Qbd (by decide) ?_ ?_
  . exact Xt.certify (b := 56747016255153332959347766392083459) (f := 51) Qbg (by decide +kernel) (by decide +kernel) r hr hd
  . exact Xt.certify (b := 58781699294900834553279248901967638) (f := 17) Qbd (by decide +kernel) (by decide +kernel) r hr hd
theorem QeN : Xt 74058212732561358302231226437062788676166966415465897661863160754340907 := by
  refine JO (F := 75445702479781427272750846543864801 * 1923133) (by decide) (by decide +kernel) fun r hr hd => ?_
  refine KG Qbh Qbc (by decide) ?_ ?_
  . exact Xt.certify (b := 69490809710348678725736597923071784769591275419387514694139338586948360) (f := 116) Qbh (by decide +kernel) (by decide +kernel) r hr hd
  . exact Xt.certify (b := 52266576830164329332527201090776533817489900267135412990654516667243924) (f := 21) Qbc (by decide +kernel) (by decide +kernel) r hr hd
theorem QfZ : Xt 57896044618658097711785492504343953926634992332820282019728792003956564819949 := by
  refine JO (F := 74058212732561358302231226437062788676166966415465897661863160754340907) (by decide) (by decide +kernel) ?_
  exact Xt.certify (b := 427094198651976259540344842774561673889945192655078505504941250475370961481) (f := 236) QeN (by decide +kernel) (by decide +kernel)
theorem mm1 (x y p : Int) : (x % p * y) % p = x * y % p := by rw [Int.mul_emod, Int.emod_emod_of_dvd _ (Int.dvd_refl _), <- Int.mul_emod]
theorem mm2 (x y p : Int) : (x * (y % p)) % p = x * y % p := by rw [Int.mul_emod, Int.emod_emod_of_dvd _ (Int.dvd_refl _), <- Int.mul_emod]
theorem U7 (u p : Int) : ∀ n : Nat, (u % p) ^ n % p = u ^ n % p
  | 0 => by rw [Int.pow_zero, Int.pow_zero]
  | n + 1 => by rw [Int.pow_succ, Int.pow_succ, mm2, <- mm1, U7 u p n, mm1]
theorem YA : Xt pN := QfZ
/-- Fermat, for whole numbers. -/
theorem Qae (u : Int) (h : u % pV ≠ 0) : u ^ (pN - 1) % pV = 1 := by
  have hu := ZY u
  have e : u ^ (pN - 1) % pV = (u % pV) ^ (pN - 1) % pV := (U7 u pV _).symm
  rw [e]
  generalize u % pV = v at *
  obtain ⟨n, rfl⟩ := Int.eq_ofNat_of_zero_le hu.1
  rw [Zu] at hu ⊢
  have hn : ¬ pN ∣ n := fun hd => by
    have := Nat.le_of_dvd (by omega) hd
    omega
  have hf := YA.fermat hn
  rw [<- Int.natCast_pow, <- Int.natCast_emod, hf]
  decide +kernel
theorem QdE : (Qh (Vc 235 127) 32).toNat = pN - 2 := by decide +kernel
theorem YW {a b : Int} (h : a * b % pV = 0) : a % pV = 0 \/ b % pV = 0 := by
  have hd := Int.natAbs_dvd_natAbs.2 (Int.dvd_of_emod_eq_zero h)
  rw [Int.natAbs_mul, Zu, Int.natAbs_natCast] at hd
  rcases YA.euclid hd with d | d
  . left
    rw [Zu]
    exact Int.emod_eq_zero_of_dvd (Int.natAbs_dvd_natAbs.1 (by rw [Int.natAbs_natCast]; exact d))
  . right
    rw [Zu]
    exact Int.emod_eq_zero_of_dvd (Int.natAbs_dvd_natAbs.1 (by rw [Int.natAbs_natCast]; exact d))
theorem ZU (a b p : Int) : a % p = b % p ↔ (a - b) % p = 0 := Int.emod_eq_emod_iff_emod_sub_eq_zero
/-- (p - 1) / 4. -/
def kN : Nat := 14474011154664524427946373126085988481658748083205070504932198000989141204987
theorem Qga : (Qh (Vc 254 15) 32).toNat + (Qh (Vc 254 15) 32).toNat = kN + 1 := by rw [QaW]; decide +kernel
theorem QgU : kN + kN + (kN + kN) = pN - 1 := by decide +kernel
theorem Qgc : iV * iV % pV = (-1) % pV := by decide +kernel
theorem QaY (u : Int) : U5 u * U5 u % pV = u ^ kN * u % pV := by
  unfold U5
  rw [<- Int.mul_emod, <- Int.pow_add, Qga, Int.pow_succ]
theorem QeI (u : Int) : G2 u * G2 u % pV = -(u ^ kN * u) % pV := by
  have h : G2 u * G2 u % pV = (U5 u * U5 u % pV) * (iV * iV % pV) % pV := by
    unfold G2
    rw [<- Int.mul_emod, <- Int.mul_emod]
    congr 1
    grind
  rw [h, QaY, Qgc, <- Int.mul_emod]
  congr 1
  grind
theorem Qc4 {u : Int} (hu : 0 <= u /\ u < pV) (h0 : u ≠ 0) : DM u = true ↔ (u ^ kN - 1) % pV = 0 := by
  unfold DM
  rw [decide_eq_true_iff, QaY]
  conv => lhs; rhs; rw [<- Int.emod_eq_of_lt hu.1 hu.2]
  rw [ZU, show u ^ kN * u - u = (u ^ kN - 1) * u by grind]
  constructor
  . intro h
    rcases YW h with h | h
    . exact h
    . rw [Int.emod_eq_of_lt hu.1 hu.2] at h; exact absurd h h0
  . intro h
    rw [<- mm1, h, Int.zero_mul]; rfl
theorem Qc3 {u : Int} (hu : 0 <= u /\ u < pV) (h0 : u ≠ 0) : sq1 u = true ↔ (u ^ kN + 1) % pV = 0 := by
  unfold sq1
  rw [decide_eq_true_iff, QeI]
  conv => lhs; rhs; rw [<- Int.emod_eq_of_lt hu.1 hu.2]
  rw [eq_comm, ZU, show u - -(u ^ kN * u) = (u ^ kN + 1) * u by grind]
  constructor
  . intro h
    rcases YW h with h | h
    . exact h
    . rw [Int.emod_eq_of_lt hu.1 hu.2] at h; exact absurd h h0
  . intro h
    rw [<- mm1, h, Int.zero_mul]; rfl
theorem Qdt {u : Int} (hu : 0 <= u /\ u < pV) (h0 : u ≠ 0) : okV u = true ↔ u ^ (kN + kN) % pV = 1 := by
  have e1 : (1 : Int) = 1 % pV := by decide +kernel
  unfold okV
  rw [Bool.or_eq_true, Qc4 hu h0, Qc3 hu h0]
  conv => rhs; rhs; rw [e1]
  rw [ZU, Int.pow_add, show u ^ kN * u ^ kN - 1 = (u ^ kN - 1) * (u ^ kN + 1) by grind]
  constructor
  . rintro (h | h)
    . rw [<- mm1, h, Int.zero_mul]; rfl
    . rw [<- mm2, h, Int.mul_zero]; rfl
  . exact YW
theorem Qby : okV 0 = true := by
  unfold okV DM U5
  rw [QaW, Int.zero_pow (by decide +kernel)]
  decide +kernel
theorem E7 (c : Int) : ZK c = c \/ ZK c = (0 - c) % pV := by unfold ZK; split <;> simp
theorem E6 {c : Int} : ZK c * ZK c % pV = c * c % pV := by
  rcases E7 c with h | h
  . rw [h]
  . rw [h, mm1, mm2]; congr 1; grind
theorem QfW {u : Int} (hok : okV u = true) : rV u * rV u % pV = u := by
  unfold rV
  unfold okV at hok
  by_cases h : DM u = true
  . rw [if_pos h, E6]; simpa [DM] using h
  . rw [if_neg h]
    have h1 : sq1 u = true := by simpa [h] using hok
    rw [if_pos h1, E6]; simpa [sq1] using h1
theorem QaZ (u : Int) : 0 <= U5 u /\ U5 u < pV := ZY _
theorem QaX (u : Int) : 0 <= G2 u /\ G2 u < pV := ZY _
theorem E8 {c : Int} (h : 0 <= c /\ c < pV) : 0 <= ZK c /\ ZK c < pV := by
  rcases E7 c with e | e
  . rw [e]; exact h
  . rw [e]; exact ZY _
theorem Kt {c : Int} (h : 0 <= c /\ c < pV) : ZK c % 2 = 0 := by
  unfold ZK
  split
  . next h1 =>
    have hp : pV % 2 = 1 := by decide +kernel
    have e : (0 - c) % pV = 0 - c + pV := by rw [<- Int.add_emod_right (0 - c) pV, Int.emod_eq_of_lt (by omega) (by omega)]
    rw [e]; omega
  . omega
theorem QfX (u : Int) : 0 <= rV u /\ rV u < pV := by
  unfold rV
  split
  . exact E8 (QaZ u)
  . split
    . exact E8 (QaX u)
    . decide +kernel
theorem Qdl (u : Int) : rV u % 2 = 0 := by
  unfold rV
  split
  . exact Kt (QaZ u)
  . split
    . exact Kt (QaX u)
    . rfl
/-- A square has a root. -/
theorem D1 (u : Int) : okV (u * u % pV) = true := by
  by_cases h : u % pV = 0
  . have : u * u % pV = 0 := by rw [<- mm1, h, Int.zero_mul]; rfl
    rw [this]; exact Qby
  . have h2 : u * u % pV ≠ 0 := fun e => by
      rcases YW e with e | e <;> exact h e
    refine (Qdt (ZY _) h2).2 ?_
    rw [U7, Int.mul_pow, <- Int.pow_add, QgU]
    exact Qae u h
def Ux (xs : List Int) (b : Int) : List Int :=
  [Qa xs 0 * 2 % 18446744073709551616 + b, Qa xs 1 * 2 % 18446744073709551616 + Qa xs 0 / 9223372036854775808, Qa xs 2 * 2 % 18446744073709551616 + Qa xs 1 / 9223372036854775808, Qa xs 3 * 2 % 18446744073709551616 + Qa xs 2 / 9223372036854775808]
theorem Gq (x b : Int) (hb : 0 <= b /\ b <= 1) : bits BinOp.or IntKind.u64 (IntKind.u64.wrap (x * 2)) b = x * 2 % 18446744073709551616 + b := by
  rw [Yj]
  exact ZQ _ b 1 (by omega) (by omega) (by omega) hb.1 (by omega) (by omega)
theorem Vl (xs : List Int) (hx : Qp xs) (b : Int) (hb : 0 <= b /\ b <= 1) : Qp (Ux xs b) := by
  have x0 := hx.at 0; have x1 := hx.at 1; have x2 := hx.at 2; have x3 := hx.at 3
  intro x hx
  simp only [Ux, List.mem_cons, List.not_mem_nil, or_false] at hx
  omega
theorem Qax (xs : List Int) (hx : Qp xs) (b : Int) (hb : 0 <= b /\ b <= 1) (hs : Qj xs 4 < 2 ^ 255) : Qj (Ux xs b) 4 = 2 * Qj xs 4 + b := by
  have x0 := hx.at 0; have x1 := hx.at 1; have x2 := hx.at 2; have x3 := hx.at 3
  have e0 : Qa (Ux xs b) 0 = Qa xs 0 * 2 % 18446744073709551616 + b := rfl
  have e1 : Qa (Ux xs b) 1 = Qa xs 1 * 2 % 18446744073709551616 + Qa xs 0 / 9223372036854775808 := rfl
  have e2 : Qa (Ux xs b) 2 = Qa xs 2 * 2 % 18446744073709551616 + Qa xs 1 / 9223372036854775808 := rfl
  have e3 : Qa (Ux xs b) 3 = Qa xs 3 * 2 % 18446744073709551616 + Qa xs 2 / 9223372036854775808 := rfl
  simp only [Qj, Nat.reduceMul, Int.reducePow, e0, e1, e2, e3] at hs ⊢
  omega
/-- A number, or what is left of it without the order, if it isn't below it. -/
def JB (xs : List Int) : List Int := if Qj xs 4 < Qj ZG 4 then xs else ZD xs ZG 4
theorem Ea {xs : List Int} (hx : Qp xs) : Qp (JB xs) := by
  unfold JB
  split
  . exact hx
  . exact Fv _ _ _
theorem HU {xs : List Int} (hl : xs.length = 4) : (JB xs).length = 4 := by
  unfold JB
  split
  . exact hl
  . simp [ZD]
theorem Qco {xs : List Int} (hx : Qp xs) : Qj (JB xs) 4 = if Qj xs 4 < Qj ZG 4 then Qj xs 4 else Qj xs 4 - Qj ZG 4 := by
  unfold JB
  split
  . rfl
  . next h =>
    have hb := Gy xs ZG hx XL 4
    rw [if_neg h] at hb
    rw [GN xs ZG hx XL 4 4 (Nat.le_refl _), hb]
    omega
/-- The order. -/
def Q0 : Int := 7237005577332262213973186563042994240857116359379907606001950938285454250989
theorem JX : Qj ZG 4 = Q0 := by decide +kernel
theorem Qa3 (xs : List Int) (hx : Qp xs) (rs : List Int) (hrw : Qp rs) (n k : Nat) (hlt : k < 64 * n) (hrv : Qj rs 4 = Qj xs n / 2 ^ (64 * n - k) % Q0) :
    Qj (JB (Ux rs (JF xs (64 * n - 1 - k)))) 4 = Qj xs n / 2 ^ (64 * n - (k + 1)) % Q0 := by
  have hb := JE xs (64 * n - 1 - k)
  have hbv := Qcy xs hx n (64 * n - 1 - k) (by omega)
  have hh := HE (Qj xs n) (64 * n - 1 - k)
  rw [show 64 * n - 1 - k + 1 = 64 * n - k by omega, <- hbv] at hh
  rw [show 64 * n - (k + 1) = 64 * n - 1 - k by omega, hh]
  have hlo : 0 <= Qj rs 4 /\ Qj rs 4 < Q0 := by rw [hrv]; unfold Q0; omega
  have hd := Qax rs hrw _ hb (by have := hlo.2; unfold Q0 at this; omega)
  rw [Qco (Vl rs hrw _ hb), hd, JX, hrv]
  generalize Qj xs n / 2 ^ (64 * n - k) = y
  generalize JF xs (64 * n - 1 - k) = b at *
  unfold Q0
  split <;> omega
theorem GO (zs : List Int) (k : Nat) (x : Int) (hk : k < zs.length) (n : Nat) : Qj (zs.set k x) n = Qj zs n + (if k < n then (x - Qa zs k) * 2 ^ (64 * k) else 0) := by
  induction n with
  | zero => simp [Qj]
  | succ n ih =>
    simp only [Qj, ih, VQ zs k n x hk]
    by_cases e : n = k
    . subst e
      rw [if_neg (Nat.lt_irrefl _), if_pos rfl, if_pos (by omega)]
      generalize (2 : Int) ^ (64 * n) = p
      grind
    . rw [if_neg e]
      by_cases h : k < n
      . rw [if_pos h, if_pos (by omega)]; omega
      . rw [if_neg h, if_neg (by omega)]; omega
theorem Qp.set {zs : List Int} (h : Qp zs) (k : Nat) {x : Int} (hx : 0 <= x /\ x < 18446744073709551616) : Qp (zs.set k x) := fun y hy => by
  rcases List.mem_or_eq_of_mem_set hy with h1 | h1
  . exact h y h1
  . exact h1 ▸ hx
/-- A product of words, and two words more. -/
theorem D6 {x y p c : Int} (hx : 0 <= x /\ x < 18446744073709551616) (hy : 0 <= y /\ y < 18446744073709551616) : 0 <= x * y /\ x * y <= 340282366920938463426481119284349108225 := by
  refine ⟨Int.mul_nonneg hx.1 hy.1, ?_⟩
  have h1 : x * y <= 18446744073709551615 * y := Int.mul_le_mul_of_nonneg_right (by omega) hy.1
  omega
/-- One step of a row: its word, and what is carried. -/
theorem Qa1 (ps xs ys : List Int) (k j : Nat) (p0 c l c2 : Int) (hl : ps.length = 8) (hk : k < 4) (hj : j < 4)
    (h : Qj ps 8 + c * 2 ^ (64 * (k + j)) = p0 + Qa xs k * Qj ys j * 2 ^ (64 * k)) (he : l + c2 * 18446744073709551616 = Qa xs k * Qa ys j + Qa ps (k + j) + c) :
    Qj (ps.set (k + j) l) 8 + c2 * 2 ^ (64 * (k + (j + 1))) = p0 + Qa xs k * Qj ys (j + 1) * 2 ^ (64 * k) := by
  rw [GO ps (k + j) l (by omega), if_pos (by omega), show k + (j + 1) = k + j + 1 by omega, YR, Qj.eq_2 ys j]
  rw [show 64 * (k + j) = 64 * k + 64 * j by omega, Int.pow_add] at *
  generalize (2 : Int) ^ (64 * k) = p at *
  generalize (2 : Int) ^ (64 * j) = q at *
  generalize Qj ps 8 = v at *
  generalize Qj ys j = u at *
  generalize Qa ps (k + j) = a at *
  generalize Qa ys j = b at *
  generalize Qa xs k = x at *
  clear hl hk hj
  grind
theorem DH (ps : List Int) (k : Nat) (T c l c2 : Int) (hl : ps.length = 8) (hk : k < 8) (h : Qj ps 8 + c * 2 ^ (64 * k) = T) (he : l + c2 * 18446744073709551616 = Qa ps k + c) :
    Qj (ps.set k l) 8 + c2 * 2 ^ (64 * (k + 1)) = T := by
  rw [GO ps k l (by omega), if_pos (by omega), YR]
  generalize (2 : Int) ^ (64 * k) = p at *
  generalize Qj ps 8 = v at *
  generalize Qa ps k = a at *
  clear hl hk
  grind
theorem Qde (ps xs ys cs : List Int) (hx : Qp xs) (hy : Qp ys) (hc : Qp cs) (hp : Qp ps) (k : Nat) (hk : k < 4) (c : Int) (hc0 : 0 <= c)
    (h : Qj ps 8 + c * 2 ^ (64 * 8) = Qj cs 4 + Qj xs k * Qj ys 4 + Qa xs k * Qj ys 4 * 2 ^ (64 * k)) : Qj ps 8 = Qj cs 4 + Qj xs (k + 1) * Qj ys 4 := by
  have e : Qj cs 4 + Qj xs k * Qj ys 4 + Qa xs k * Qj ys 4 * 2 ^ (64 * k) = Qj cs 4 + Qj xs (k + 1) * Qj ys 4 := by
    simp only [Qj.eq_2 xs k]
    generalize (2 : Int) ^ (64 * k) = p
    grind
  rw [e] at h
  have h1 := X3 xs hx (k + 1)
  have h2 := X3 ys hy 4
  have h3 := X3 cs hc 4
  have h4 := X3 ps hp 8
  have h5 : (2 : Int) ^ (64 * (k + 1)) <= 2 ^ (64 * 4) := by
    obtain rfl | rfl | rfl | rfl : k = 0 \/ k = 1 \/ k = 2 \/ k = 3 := by omega
    all_goals decide +kernel
  have h6 : Qj xs (k + 1) * Qj ys 4 <= (2 ^ (64 * 4) - 1) * (2 ^ (64 * 4) - 1) := Int.mul_le_mul (by omega) (by omega) h2.1 (by decide +kernel)
  have h8 : (2 : Int) ^ (64 * 8) = 2 ^ (64 * 4) * 2 ^ (64 * 4) := by rw [<- Int.pow_add]
  rw [h8] at h h4
  clear h8
  simp only [Nat.reduceMul, Int.reducePow] at *
  have h7 : 0 <= Qj xs (k + 1) * Qj ys 4 := Int.mul_nonneg h1.1 h2.1
  generalize Qj xs (k + 1) * Qj ys 4 = m at *
  have : c = 0 := by omega
  subst this
  omega
theorem GQ (cs zs : List Int) (n : Nat) (h : n <= cs.length) : Qj (cs ++ zs) n = Qj cs n := by
  induction n with
  | zero => rfl
  | succ n ih =>
    have e : Qa (cs ++ zs) n = Qa cs n := by simp [Qa, List.getElem?_append_left (show n < cs.length by omega)]
    simp only [Qj, ih (by omega), e]
theorem Qay (cs : List Int) (h : cs.length = 4) : Qj (cs ++ [0, 0, 0, 0]) 8 = Qj cs 4 := by
  have e : ∀ j, 4 <= j -> j < 8 -> Qa (cs ++ [0, 0, 0, 0]) j = 0 := by
    intro j h1 h2
    simp only [Qa, List.getElem?_append_right (show cs.length <= j by omega), h]
    obtain rfl | rfl | rfl | rfl : j = 4 \/ j = 5 \/ j = 6 \/ j = 7 := by omega
    all_goals rfl
  rw [Qj, e 7 (by omega) (by omega), Qj, e 6 (by omega) (by omega), Qj, e 5 (by omega) (by omega), Qj, e 4 (by omega) (by omega), GQ cs _ 4 (by omega)]
  omega
theorem DX {cs : List Int} (h : Qp cs) : Qp (cs ++ [0, 0, 0, 0]) := fun x hx => by
  rcases List.mem_append.1 hx with h1 | h1
  . exact h x h1
  . simp at h1; omega
theorem QcX (za : List Int) (hz : Qb za) : 0 <= Qh za 64 /\ Qh za 64 < 2 ^ 256 * 2 ^ 256 := by
  have h := UC za hz 64
  rw [show (2 : Int) ^ (8 * 64) = 2 ^ 256 * 2 ^ 256 by rw [<- Int.pow_add]] at h
  exact h
/-- Which operations an operation waits for. -/
def Ql (md : Region.Mode) (o : Oper) : List Nat := (o.after.toList.filter (Region.binds md)).map (·.on)
def QT (md : Region.Mode) (ops : Array Oper) (i : Nat) : List Nat := ((ops[i]?).map (Ql md)).getD []
def QF (ops : Array Oper) (i : Nat) : Option Tmp := (ops[i]?).bind (·.dst)
/-- What was yielded by some operations alone. -/
def Zb (f : Nat -> Value) (l : List Nat) (k : Nat) : Value := if l.contains k then f k else undef
def X6 {α : Type} (f : Nat -> α) (i : Nat) (v : α) (k : Nat) : α := if k = i then v else f k
/-- The act, with what these operations have yielded. -/
def Q1 (ops : Array Oper) (f : Nat -> Value) : List Nat -> Act -> Act
  | [], a => a
  | j :: l, a => Q1 ops f l (a.put (QF ops j) (f j))
/-- No two operations write one slot; an operation looks at a slot that another one writes just if it waits for it, or the other way round. -/
def JQ (md : Region.Mode) (ops : Array Oper) : Bool :=
  (List.range ops.size).all fun i => match ops[i]? with
    | none => true
    | some o => (match o.op with | .select .. => false | _ => true) && (Ql md o).all (fun j => decide (j < i)) &&
      (List.range ops.size).all fun j => match QF ops j with
        | none => true
        | some t => (j == i || QF ops i != some t) && (!(o.looksAt ops).contains t || j == i || (Ql md o).contains j || (QT md ops j).contains i) && !((Ql md o).contains j && (QT md ops j).contains i)

/-- An act that is another one with what some operations have yielded. -/
structure Qz (ops : Array Oper) (L : Nat -> Prop) (f : Nat -> Value) (a a' : Act) : Prop where
  defers : a'.defers = a.defers
  size : a'.tmps.size = a.tmps.size
  put : ∀ j t, L j -> QF ops j = some t -> t < a.tmps.size -> a'.tmps[t]? = some (f j)
  same : ∀ t, (∀ j, L j -> QF ops j ≠ some t) -> a'.tmps[t]? = a.tmps[t]?

theorem Qz.start {ops : Array Oper} {f : Nat -> Value} {a : Act} {L : Nat -> Prop} (h : ∀ j, ¬ L j) : Qz ops L f a a :=
  ⟨rfl, rfl, fun j t hj => absurd hj (h j), fun t _ => rfl⟩
theorem G6 (a : Act) (d : Option Tmp) (v : Value) : (a.put d v).tmps.size = a.tmps.size := by cases d <;> simp [Act.put]
theorem Va (a : Act) (d : Option Tmp) (v : Value) : (a.put d v).defers = a.defers := by cases d <;> rfl
theorem Vr (a : Act) (d : Option Tmp) (v : Value) (t : Nat) : (a.put d v).tmps[t]? = if d = some t /\ t < a.tmps.size then some v else a.tmps[t]? := by
  cases d with
  | none => simp [Act.put]
  | some d =>
    simp only [Act.put, Option.some.injEq]
    by_cases h : d = t
    . subst h
      by_cases hs : d < a.tmps.size
      . simp [hs]
      . simp [hs]
    . simp [h, Array.getElem?_setIfInBounds_ne h]

/-- No two of these write one slot. -/
def Own (ops : Array Oper) : Prop := ∀ i j t, QF ops i = some t -> QF ops j = some t -> i = j
theorem Qz.step {ops : Array Oper} (ho : Own ops) {L L' : Nat -> Prop} {f f' : Nat -> Value} {a a' : Act} (h : Qz ops L f a a') (i : Nat) (v : Value)
    (hL : ∀ j, L' j ↔ (j = i \/ L j)) (hf : ∀ j, j ≠ i -> L j -> f' j = f j) (hi : f' i = v) : Qz ops L' f' a (a'.put (QF ops i) v) := by
  refine ⟨by rw [Va]; exact h.defers, by rw [G6]; exact h.size, fun j t hj hd ht => ?_, fun t hn => ?_⟩
  . rw [Vr]
    by_cases e : QF ops i = some t
    . have hij := ho i j t e hd
      subst hij
      rw [if_pos ⟨e, by rw [h.size]; exact ht⟩, hi]
    . rw [if_neg (fun x => e x.1)]
      have hji : j ≠ i := fun e2 => e (e2 ▸ hd)
      have hLj := ((hL j).1 hj).resolve_left hji
      rw [h.put j t hLj hd ht, hf j hji hLj]
  . rw [Vr, if_neg (fun x => hn i ((hL i).2 (.inl rfl)) x.1)]
    exact h.same t fun j hj => hn j ((hL j).2 (.inr hj))
theorem Qz.congr {ops : Array Oper} {L L' : Nat -> Prop} {f f' : Nat -> Value} {a a' : Act} (h : Qz ops L f a a') (hL : ∀ j, L j ↔ L' j) (hf : ∀ j, L j -> f j = f' j) : Qz ops L' f' a a' :=
  ⟨h.defers, h.size, fun j t hj hd ht => by rw [<- hf j ((hL j).2 hj)]; exact h.put j t ((hL j).2 hj) hd ht, fun t hn => h.same t fun j hj => hn j ((hL j).1 hj)⟩
theorem Qz.puts {ops : Array Oper} (ho : Own ops) {f : Nat -> Value} {a : Act} : ∀ (l : List Nat) {L : Nat -> Prop} {a' : Act}, Qz ops L f a a' -> Qz ops (fun j => j ∈ l \/ L j) f a (Q1 ops f l a')
  | [], L, a', h => h.congr (by simp) (fun _ _ => rfl)
  | i :: l, L, a', h => by
    have h1 := h.step ho (L' := fun j => j = i \/ L j) (f' := f) i (f i) (fun j => Iff.rfl) (fun _ _ _ => rfl) rfl
    have h2 := Qz.puts ho l h1
    exact h2.congr (fun j => by simp only [List.mem_cons]; exact ⟨fun h => h.elim (fun h => .inl (.inr h)) (fun h => h.elim (fun h => .inl (.inl h)) .inr), fun h => h.elim (fun h => h.elim (fun h => .inr (.inl h)) .inl) (fun h => .inr (.inr h))⟩) (fun _ _ => rfl)
theorem Qz.of {ops : Array Oper} (ho : Own ops) (f : Nat -> Value) (a : Act) (l : List Nat) : Qz ops (· ∈ l) f a (Q1 ops f l a) :=
  (Qz.puts ho l (Qz.start (L := fun _ => False) (fun _ h => h))).congr (by simp) (fun _ _ => rfl)
theorem Qz.unique {ops : Array Oper} {L : Nat -> Prop} {f : Nat -> Value} {a a' a'' : Act} (h : Qz ops L f a a') (k : Qz ops L f a a'') : a' = a'' := by
  have ht : a'.tmps = a''.tmps := by
    apply Array.ext_getElem?
    intro t
    by_cases ht : t < a.tmps.size
    . by_cases e : ∃ j, L j /\ QF ops j = some t
      . obtain ⟨j, hj, hd⟩ := e
        rw [h.put j t hj hd ht, k.put j t hj hd ht]
      . have hn : ∀ j, L j -> QF ops j ≠ some t := fun j hj hd => e ⟨j, hj, hd⟩
        rw [h.same t hn, k.same t hn]
    . rw [Array.getElem?_eq_none (by rw [h.size]; omega), Array.getElem?_eq_none (by rw [k.size]; omega)]
  have hd : a'.defers = a''.defers := by rw [h.defers, k.defers]
  cases a'; cases a''
  simp only at ht hd
  rw [ht, hd]

theorem F4 {a a' : Act} {x : Operand} (h : ∀ t, x = .tmp t -> a'.tmps[t]? = a.tmps[t]?) : a'.eval x = a.eval x := by
  cases x with
  | tmp t => have := h t rfl; simp [Act.eval, Array.getD_eq_getD_getElem?, this]
  | _ => rfl
theorem KE {ops : Array Oper} {o : Oper} {a a' : Act} (h : ∀ t, t ∈ o.looksAt ops -> a'.tmps[t]? = a.tmps[t]?) : Region.wanted o (yielded ops a'.tmps) = Region.wanted o (yielded ops a.tmps) := by
  unfold Region.wanted
  cases hg : o.guard with
  | none => rfl
  | some gw =>
    obtain ⟨g, want⟩ := gw
    have hy : yielded ops a'.tmps g = yielded ops a.tmps g := by
      unfold yielded
      cases ht : (ops[g]?).bind (·.dst) with
      | none => rfl
      | some t =>
        have := h t (by simp [Oper.looksAt, hg, ht])
        simp [this]
    simp only [hy]
theorem F3 {ops : Array Oper} {o : Oper} {a a' : Act} (hs : ∀ cs b, o.op ≠ .select cs b) (h : ∀ t, t ∈ o.looksAt ops -> a'.tmps[t]? = a.tmps[t]?) : execOp a'.eval o = execOp a.eval o :=
  execOp_congr o hs fun x hx => F4 fun t ht => h t (by subst ht; exact List.mem_append_left _ (List.mem_filterMap.2 ⟨.tmp t, by simpa using hx, rfl⟩))

section
variable {P : Program} {ops : Array Oper} {md : Region.Mode}

/-- What is shown of one operation: from the act with what it waits for. -/
def Qe (P : Program) (ops : Array Oper) (o : Oper) (a : Act) (w : World) (R : Value -> World -> Prop) : Prop :=
  ∀ K : Act -> World -> Prop, (∀ v w', R v w' -> K (a.put o.dst v) w') -> if Region.wanted o (yielded ops a.tmps) then Oper.wp P o a w K (fun _ _ _ => False) else K (a.put o.dst undef) w

theorem Vq {a a' : Act} {d : Option Tmp} {u v : Value} (hs : a'.tmps.size = a.tmps.size) (h : a.put d u = a.put d v) : a'.put d u = a'.put d v := by
  cases d with
  | none => rfl
  | some d =>
    by_cases hd : d < a.tmps.size
    . have h1 := congrArg (fun x : Act => x.tmps[d]?) h
      simp only [Vr, hd, and_self, if_true, Option.some.injEq] at h1
      rw [h1]
    . simp only [Act.put]
      rw [Array.setIfInBounds_eq_of_size_le (by rw [hs]; exact Nat.le_of_not_lt hd), Array.setIfInBounds_eq_of_size_le (by rw [hs]; exact Nat.le_of_not_lt hd)]

theorem Qe.wpOp {Q : Exit -> Act -> World -> Prop} {i : Nat} {o : Oper} (hi : ops[i]? = some o) (hs : ∀ cs b, o.op ≠ .select cs b) {a a' : Act} {w : World} {R : Value -> World -> Prop} (hsz : a'.tmps.size = a.tmps.size)
    (hl : ∀ t, t ∈ o.looksAt ops -> a'.tmps[t]? = a.tmps[t]?) (h : Qe P ops o a w R) {K : Act -> World -> Prop} (hK : ∀ v w', R v w' -> K (a'.put o.dst v) w') : wpOp P ops Q i K a' w := by
  unfold Go.wpOp
  simp only [hi]
  have h := h (fun a1 w1 => ∃ v, a1 = a.put o.dst v /\ R v w1) (fun v w' hr => ⟨v, rfl, hr⟩)
  rw [KE hl]
  by_cases hw : Region.wanted o (yielded ops a.tmps) = true
  . rw [if_pos hw] at h ⊢
    refine .inl ?_
    unfold Oper.wp at *
    rw [F3 hs hl]
    generalize (execOp a.eval o).run P w = r at *
    cases r with
    | ok n w' =>
      cases n <;> simp only [Oper.upon] at h ⊢
      case value u => obtain ⟨v, he, hr⟩ := h; rw [Vq hsz he]; exact hK v _ hr
      case skip => obtain ⟨v, he, hr⟩ := h; rw [Vq hsz he]; exact hK v _ hr
      case defer d =>
        obtain ⟨v, he, hr⟩ := h
        have h1 := congrArg (fun x : Act => x.defers.length) he
        simp [Va] at h1
      case enter f args =>
        refine Calls.mono h fun e w'' he => ?_
        cases e with
        | returned u => obtain ⟨v, he, hr⟩ := he; show K (a'.put o.dst u) w''; rw [Vq hsz he]; exact hK v _ hr
        | panicked c => exact False.elim he
        | outgrown => obtain ⟨_, _, hf⟩ := he; exact False.elim hf
      case row row args => exact Rows.mono h fun u w'' he => by obtain ⟨v, he, hr⟩ := he; rw [Vq hsz he]; exact hK v _ hr
    | halt x w' =>
      cases x <;> simp only [Oper.upon] at h ⊢
  . rw [if_neg hw] at h ⊢
    obtain ⟨v, he, hr⟩ := h
    rw [Vq hsz he]
    exact hK v _ hr

theorem J7 {f : Nat -> Value} {l : List Nat} {i : Nat} {v : Value} (h : l.contains i = false) : Zb (X6 f i v) l = Zb f l := by
  funext k
  unfold Zb X6
  by_cases e : k = i
  . subst e; rw [h]; simp
  . simp [e]

/-- What holds of an operation that has run. -/
abbrev Ds := Nat -> (Nat -> Value) -> World -> Prop

theorem Hj (h : JQ md ops = true) : Own ops := by
  intro i j t hi hj
  by_cases hij : i = j
  . exact hij
  . exfalso
    have hi' : i < ops.size := by
      rcases Nat.lt_or_ge i ops.size with h | h
      . exact h
      . simp [QF, Array.getElem?_eq_none h] at hi
    have hj' : j < ops.size := by
      rcases Nat.lt_or_ge j ops.size with h | h
      . exact h
      . simp [QF, Array.getElem?_eq_none h] at hj
    have h1 := List.all_eq_true.1 h i (List.mem_range.2 hi')
    rw [Array.getElem?_eq_getElem hi'] at h1
    simp only [Bool.and_eq_true] at h1
    have h2 := List.all_eq_true.1 h1.2 j (List.mem_range.2 hj')
    rw [hj] at h2
    simp only [Bool.and_eq_true] at h2
    have h3 := h2.1.1
    simp [hi] at h3
    exact hij h3.symm

theorem YS (h : JQ md ops = true) {i : Nat} {o : Oper} (hi : ops[i]? = some o) : (∀ cs b, o.op ≠ .select cs b) /\ (∀ j ∈ Ql md o, j < i) /\
    ∀ j t, j < ops.size -> QF ops j = some t -> (t ∈ o.looksAt ops -> j = i \/ j ∈ Ql md o \/ i ∈ QT md ops j) /\ ¬ (j ∈ Ql md o /\ i ∈ QT md ops j) := by
  have hi' : i < ops.size := (Array.getElem?_eq_some_iff.1 hi).1
  have h1 := List.all_eq_true.1 h i (List.mem_range.2 hi')
  rw [hi] at h1
  simp only [Bool.and_eq_true] at h1
  refine ⟨fun cs b e => ?_, fun j hj => ?_, fun j t hj hd => ?_⟩
  . have := h1.1.1
    rw [e] at this
    simp at this
  . have := List.all_eq_true.1 h1.1.2 j hj
    simpa using this
  . have h2 := List.all_eq_true.1 h1.2 j (List.mem_range.2 hj)
    rw [hd] at h2
    simp only [Bool.and_eq_true] at h2
    refine ⟨fun ht => ?_, fun hx => ?_⟩
    . have h3 := h2.1.2
      simp only [Bool.or_eq_true, Bool.not_eq_true', List.contains_iff_mem, beq_iff_eq] at h3
      rcases h3 with ((h3 | h3) | h3) | h3
      . rw [<- List.contains_iff_mem] at ht; rw [ht] at h3; cases h3
      . exact .inl h3
      . exact .inr (.inl h3)
      . exact .inr (.inr h3)
    . have h3 := h2.2
      simp only [Bool.not_eq_true', Bool.and_eq_false_iff] at h3
      rcases h3 with h3 | h3
      . have := List.contains_iff_mem.2 hx.1; rw [this] at h3; cases h3
      . have := List.contains_iff_mem.2 hx.2; rw [this] at h3; cases h3

theorem JL (hb : JQ md ops = true) {listed : Array Bool} (hsz : listed.size = ops.size) (hr : Region.ready md ops listed = []) : ∀ j, j < ops.size -> listed.getD j false = true := by
  intro j
  induction j using Nat.strongRecOn with
  | _ j ih =>
    intro hj
    by_cases hl : listed.getD j false = true
    . exact hl
    . exfalso
      have ho : ops[j]? = some ops[j] := Array.getElem?_eq_getElem hj
      have hd := (YS hb ho).2.1
      have : j ∈ Region.ready md ops listed := by
        refine mem_ready.2 ⟨?_, _, ho, fun e he hbd => ?_⟩
        . rw [Array.getD_eq_getD_getElem?, Array.getElem?_eq_getElem (by omega)] at hl ⊢
          simpa using hl
        . have hm : e.on ∈ Ql md ops[j] := List.mem_map.2 ⟨e, List.mem_filter.2 ⟨by simpa using he, hbd⟩, rfl⟩
          have := hd _ hm
          exact ih _ this (by omega)
      rw [hr] at this
      cases this

theorem YZ {i : Nat} {o : Oper} (hi : ops[i]? = some o) : QT md ops i = Ql md o := by simp [QT, hi]
theorem Qe.mono {o : Oper} {a : Act} {w : World} {R R' : Value -> World -> Prop} (h : Qe P ops o a w R) (hr : ∀ v w', R v w' -> R' v w') : Qe P ops o a w R' := fun K hK => h K fun v w' hv => hK v w' (hr v w' hv)

end
section
variable {P : Program} {ops : Array Oper} {o : Oper} {a : Act} {w : World} {R : Value -> World -> Prop}

theorem Qe.of_wp (hw : Region.wanted o (yielded ops a.tmps) = true) (h : ∀ K : Act -> World -> Prop, (∀ v w', R v w' -> K (a.put o.dst v) w') -> Oper.wp P o a w K (fun _ _ _ => False)) : Qe P ops o a w R := fun K hK => by
  rw [if_pos hw]; exact h K hK
/-- An operation that yields, and leaves the world alone. -/
theorem Qe.pure (hw : Region.wanted o (yielded ops a.tmps) = true) (v : Value) (hx : (execOp a.eval o).run P w = .ok (.value v) w) (hR : R v w) : Qe P ops o a w R :=
  Qe.of_wp hw fun K hK => by unfold Oper.wp; rw [hx]; exact hK v w hR
/-- A guarded operation that isn't wanted. -/
theorem Qe.off (hw : Region.wanted o (yielded ops a.tmps) = false) (hR : R undef w) : Qe P ops o a w R := fun K hK => by
  rw [if_neg (by rw [hw]; simp)]; exact hK _ _ hR
/-- A call of a Go function. -/
theorem Qe.call (hw : Region.wanted o (yielded ops a.tmps) = true) (f : FuncId) (args : Array Value) (hx : (execOp a.eval o).run P w = .ok (.enter f args) w) (hc : Calls P f args w fun e w' => ∃ v, e = .returned v /\ R v w') : Qe P ops o a w R :=
  Qe.of_wp hw fun K hK => by
    unfold Oper.wp
    rw [hx]
    refine Calls.mono hc fun e w' he => ?_
    obtain ⟨v, rfl, hr⟩ := he
    exact hK v w' hr
theorem Oper.wp_weaken {K : Act -> World -> Prop} {Q' Q : Exit -> Act -> World -> Prop} (hq : ∀ e a w, Q' e a w -> Q e a w) (h : Oper.wp P o a w K Q') : Oper.wp P o a w K Q := by
  unfold Oper.wp at *
  generalize (execOp a.eval o).run P w = r at *
  cases r with
  | ok n w' =>
    cases n <;> simp only [Oper.upon] at h ⊢ <;>
      first
        | exact h
        | exact Calls.mono h (fun e w'' he => by
            cases e with
            | returned u => exact he
            | panicked c => exact hq _ _ _ he
            | outgrown => obtain ⟨x, y, hxy⟩ := he; exact ⟨x, y, hq _ _ _ hxy⟩)
  | halt x w' =>
    cases x <;> simp only [Oper.upon] at h ⊢
    case panic u => exact hq _ _ _ h
/-- What is shown of one operation, in a region whose order is fixed. -/
theorem XX {rest : List Oper} {Q : Exit -> Act -> World -> Prop} (h : Qe P ops o a w R) (hk : ∀ v w', R v w' -> wpList P ops Q rest (a.put o.dst v) w') : wpList P ops Q (o :: rest) a w := by
  refine wpList_step fun K hK => ?_
  have h' := h K fun v w' hr => hK _ _ (hk v w' hr)
  split
  . next hw => rw [if_pos hw] at h'; exact Oper.wp_weaken (fun _ _ _ hf => hf.elim) h'
  . next hw => rw [if_neg hw] at h'; exact h'
/-- A guard that is met. -/
theorem Dz {g t : Nat} {b : Bool} (hg : o.guard = some (g, b)) (hd : QF ops g = some t) (hv : a.eval (.tmp t) = .bool b) : Region.wanted o (yielded ops a.tmps) = true := by
  have h : a.tmps[t]? = some (.bool b) := by
    simp only [Act.eval, Array.getD_eq_getD_getElem?] at hv
    cases hq : a.tmps[t]? with
    | none => rw [hq] at hv; simp [undef] at hv
    | some x => rw [hq] at hv; simp at hv; rw [hv]
  have hy : yielded ops a.tmps g = some b := by
    unfold yielded
    unfold QF at hd
    rw [hd]
    simp [h]
  unfold Region.wanted
  simp [hg, hy]
variable {ds : List (Option Tmp)} {dl : List (List Nat)} {s : Nat} {G : Bool -> World -> Prop} {F : Ds} {S : (Nat -> Value) -> World -> World -> Prop}
end
/-- A frame of so many slots, nothing deferred. -/
def Fm (n : Nat) (a : Act) : Prop := a.tmps.size = n /\ a.defers = []
/-- What the other slots hold stays. -/
def Qg3 (a a' : Act) (d : Nat) : Prop := ∀ t u, decide (t = d) = false -> a.eval (.tmp t) = u -> a'.eval (.tmp t) = u
theorem X8 (a : Act) (t : Nat) : a.eval (.tmp t) = a.tmps[t]?.getD undef := by simp [Act.eval, Array.getD_eq_getD_getElem?]
theorem Fm.put {n : Nat} {a : Act} (h : Fm n a) (d : Option Tmp) (v : Value) : Fm n (a.put d v) := ⟨by rw [G6]; exact h.1, by rw [Va]; exact h.2⟩
theorem Qbb {n d : Nat} {a : Act} (h : Fm n a) (hd : decide (d < n) = true) (v : Value) : (a.put (some d) v).eval (.tmp d) = v := by
  rw [X8, Vr, if_pos ⟨rfl, by rw [h.1]; exact of_decide_eq_true hd⟩]
  rfl
theorem Qba {a : Act} {d : Nat} (v : Value) : Qg3 a (a.put (some d) v) d := fun t u ht hu => by
  rw [X8, Vr, if_neg (fun h => by have := of_decide_eq_false ht; cases h.1; exact this rfl), <- X8, hu]

section
variable {P : Program} {ops : Array Oper} {o : Oper} {a : Act} {w : World} {R : Value -> World -> Prop} {rest : List Oper} {Q : Exit -> Act -> World -> Prop} {n : Nat}

theorem GR {g t : Nat} {b c : Bool} (hg : o.guard = some (g, b)) (hd : QF ops g = some t) (hv : a.eval (.tmp t) = .bool c) (hbc : (c == b) = false) : Region.wanted o (yielded ops a.tmps) = false := by
  have h : a.tmps[t]? = some (.bool c) := by
    rw [X8] at hv
    cases hq : a.tmps[t]? with
    | none => rw [hq] at hv; simp [undef] at hv
    | some x => rw [hq] at hv; simp at hv; rw [hv]
  have hy : yielded ops a.tmps g = some c := by
    unfold QF at hd
    unfold yielded
    rw [hd]
    simp [h]
  unfold Region.wanted
  rw [hg]
  simp only [hy]
  cases b <;> cases c <;> simp_all
theorem Qe.move (hw : Region.wanted o (yielded ops a.tmps) = true) {x : Operand} (ho : o.op = .move x) {v : Value} (hx : a.eval x = v) (hR : R v w) : Qe P ops o a w R :=
  Qe.pure hw v (by unfold execOp; simp only [ho, hx]; rfl) hR
theorem Qe.assign (hw : Region.wanted o (yielded ops a.tmps) = true) {x : Operand} (ho : o.op = .assign x) {v : Value} (hx : a.eval x = v) (hR : R v w) : Qe P ops o a w R :=
  Qe.pure hw v (by unfold execOp; simp only [ho, hx]; rfl) hR
theorem Qe.pick (hw : Region.wanted o (yielded ops a.tmps) = true) {c x y : Operand} (ho : o.op = .pick c x y) {b : Bool} (hc : a.eval c = .bool b) {v : Value} (hv : (if b then a.eval x else a.eval y) = v) (hR : R v w) : Qe P ops o a w R :=
  Qe.pure hw v (by unfold execOp; simp only [ho, hc, asBool, Sem.run_bind, Sem.run_pure, Result.andThen_ok]; rw [<- hv]) hR
theorem Qe.not (hw : Region.wanted o (yielded ops a.tmps) = true) {t : TypeId} {x : Operand} (ho : o.op = .unOp .not t x) {b : Bool} (hx : a.eval x = .bool b) {c : Bool} (hc : (!b) = c) (hR : R (.bool c) w) : Qe P ops o a w R :=
  Qe.pure hw _ (by unfold execOp; simp only [ho, hx]; simp [Op.unary, hc]) hR
theorem Qe.add (hw : Region.wanted o (yielded ops a.tmps) = true) {t t' : TypeId} {x y : Operand} (ho : o.op = .binOp .add t x y t') {K : IntKind} {m n : Int} (hx : a.eval x = .int K m) (hy : a.eval y = .int K n) {r : Int} (hr : K.wrap (m + n) = r) (hR : R (.int K r) w) : Qe P ops o a w R :=
  Qe.pure hw _ (by unfold execOp; simp only [ho, hx, hy, eqGuard, Sem.run_bind, Sem.run_pure, Result.andThen_ok]; simp [binOp, Op.intArith, hr]) hR
theorem Qe.sub (hw : Region.wanted o (yielded ops a.tmps) = true) {t t' : TypeId} {x y : Operand} (ho : o.op = .binOp .sub t x y t') {K : IntKind} {m n : Int} (hx : a.eval x = .int K m) (hy : a.eval y = .int K n) {r : Int} (hr : K.wrap (m - n) = r) (hR : R (.int K r) w) : Qe P ops o a w R :=
  Qe.pure hw _ (by unfold execOp; simp only [ho, hx, hy, eqGuard, Sem.run_bind, Sem.run_pure, Result.andThen_ok]; simp [binOp, Op.intArith, hr]) hR
theorem Qe.mul (hw : Region.wanted o (yielded ops a.tmps) = true) {t t' : TypeId} {x y : Operand} (ho : o.op = .binOp .mul t x y t') {K : IntKind} {m n : Int} (hx : a.eval x = .int K m) (hy : a.eval y = .int K n) {r : Int} (hr : K.wrap (m * n) = r) (hR : R (.int K r) w) : Qe P ops o a w R :=
  Qe.pure hw _ (by unfold execOp; simp only [ho, hx, hy, eqGuard, Sem.run_bind, Sem.run_pure, Result.andThen_ok]; simp [binOp, Op.intArith, hr]) hR
theorem Qe.quo (hw : Region.wanted o (yielded ops a.tmps) = true) {t t' : TypeId} {x y : Operand} (ho : o.op = .binOp .quo t x y t') {K : IntKind} {m n : Int} (hx : a.eval x = .int K m) (hy : a.eval y = .int K n) (hn : n ≠ 0) {r : Int} (hr : K.wrap (m.tdiv n) = r) (hR : R (.int K r) w) : Qe P ops o a w R :=
  Qe.pure hw _ (by unfold execOp; simp only [ho, hx, hy, eqGuard, Sem.run_bind, Sem.run_pure, Result.andThen_ok]; simp [binOp, Op.intDiv, hn, hr]) hR
theorem Qe.rem (hw : Region.wanted o (yielded ops a.tmps) = true) {t t' : TypeId} {x y : Operand} (ho : o.op = .binOp .rem t x y t') {K : IntKind} {m n : Int} (hx : a.eval x = .int K m) (hy : a.eval y = .int K n) (hn : n ≠ 0) {r : Int} (hr : m.tmod n = r) (hR : R (.int K r) w) : Qe P ops o a w R :=
  Qe.pure hw _ (by unfold execOp; simp only [ho, hx, hy, eqGuard, Sem.run_bind, Sem.run_pure, Result.andThen_ok]; simp [binOp, Op.intDiv, hn, hr]) hR
theorem Qe.and (hw : Region.wanted o (yielded ops a.tmps) = true) {t t' : TypeId} {x y : Operand} (ho : o.op = .binOp .and t x y t') {K : IntKind} {m n : Int} (hx : a.eval x = .int K m) (hy : a.eval y = .int K n) {r : Int} (hr : bits .and K m n = r) (hR : R (.int K r) w) : Qe P ops o a w R :=
  Qe.pure hw _ (by unfold execOp; simp only [ho, hx, hy, eqGuard, Sem.run_bind, Sem.run_pure, Result.andThen_ok]; simp [binOp, Op.intBits, <- hr, bits]) hR
theorem Qe.or (hw : Region.wanted o (yielded ops a.tmps) = true) {t t' : TypeId} {x y : Operand} (ho : o.op = .binOp .or t x y t') {K : IntKind} {m n : Int} (hx : a.eval x = .int K m) (hy : a.eval y = .int K n) {r : Int} (hr : bits .or K m n = r) (hR : R (.int K r) w) : Qe P ops o a w R :=
  Qe.pure hw _ (by unfold execOp; simp only [ho, hx, hy, eqGuard, Sem.run_bind, Sem.run_pure, Result.andThen_ok]; simp [binOp, Op.intBits, <- hr, bits]) hR
theorem Qe.xor (hw : Region.wanted o (yielded ops a.tmps) = true) {t t' : TypeId} {x y : Operand} (ho : o.op = .binOp .xor t x y t') {K : IntKind} {m n : Int} (hx : a.eval x = .int K m) (hy : a.eval y = .int K n) {r : Int} (hr : bits .xor K m n = r) (hR : R (.int K r) w) : Qe P ops o a w R :=
  Qe.pure hw _ (by unfold execOp; simp only [ho, hx, hy, eqGuard, Sem.run_bind, Sem.run_pure, Result.andThen_ok]; simp [binOp, Op.intBits, <- hr, bits]) hR
theorem Qe.lss (hw : Region.wanted o (yielded ops a.tmps) = true) {t t' : TypeId} {x y : Operand} (ho : o.op = .binOp .lss t x y t') {K : IntKind} {m n : Int} (hx : a.eval x = .int K m) (hy : a.eval y = .int K n) {b : Bool} (hb : decide (m < n) = b) (hR : R (.bool b) w) : Qe P ops o a w R :=
  Qe.pure hw _ (by unfold execOp; simp only [ho, hx, hy, eqGuard, Sem.run_bind, Sem.run_pure, Result.andThen_ok]; simp [binOp, Op.intCmp, <- hb]) hR
theorem Qe.leq (hw : Region.wanted o (yielded ops a.tmps) = true) {t t' : TypeId} {x y : Operand} (ho : o.op = .binOp .leq t x y t') {K : IntKind} {m n : Int} (hx : a.eval x = .int K m) (hy : a.eval y = .int K n) {b : Bool} (hb : decide (m <= n) = b) (hR : R (.bool b) w) : Qe P ops o a w R :=
  Qe.pure hw _ (by unfold execOp; simp only [ho, hx, hy, eqGuard, Sem.run_bind, Sem.run_pure, Result.andThen_ok]; simp [binOp, Op.intCmp, <- hb]) hR
theorem Qe.gtr (hw : Region.wanted o (yielded ops a.tmps) = true) {t t' : TypeId} {x y : Operand} (ho : o.op = .binOp .gtr t x y t') {K : IntKind} {m n : Int} (hx : a.eval x = .int K m) (hy : a.eval y = .int K n) {b : Bool} (hb : decide (m > n) = b) (hR : R (.bool b) w) : Qe P ops o a w R :=
  Qe.pure hw _ (by unfold execOp; simp only [ho, hx, hy, eqGuard, Sem.run_bind, Sem.run_pure, Result.andThen_ok]; simp [binOp, Op.intCmp, <- hb]) hR
theorem Qe.geq (hw : Region.wanted o (yielded ops a.tmps) = true) {t t' : TypeId} {x y : Operand} (ho : o.op = .binOp .geq t x y t') {K : IntKind} {m n : Int} (hx : a.eval x = .int K m) (hy : a.eval y = .int K n) {b : Bool} (hb : decide (m ≥ n) = b) (hR : R (.bool b) w) : Qe P ops o a w R :=
  Qe.pure hw _ (by unfold execOp; simp only [ho, hx, hy, eqGuard, Sem.run_bind, Sem.run_pure, Result.andThen_ok]; simp [binOp, Op.intCmp, <- hb]) hR
theorem Qe.eqlN (hw : Region.wanted o (yielded ops a.tmps) = true) {t t' : TypeId} {x y : Operand} (ho : o.op = .binOp .eql t x y t') {K : IntKind} {m n : Int} (hx : a.eval x = .int K m) (hy : a.eval y = .int K n) {b : Bool} (hb : (m == n) = b) (hR : R (.bool b) w) : Qe P ops o a w R :=
  Qe.pure hw _ (by unfold execOp; simp only [ho, hx, hy, eqGuard, Sem.run_bind, Sem.run_pure, Result.andThen_ok]; simp [binOp, Op.intCmp, <- hb]) hR
theorem Qe.neqN (hw : Region.wanted o (yielded ops a.tmps) = true) {t t' : TypeId} {x y : Operand} (ho : o.op = .binOp .neq t x y t') {K : IntKind} {m n : Int} (hx : a.eval x = .int K m) (hy : a.eval y = .int K n) {b : Bool} (hb : (m != n) = b) (hR : R (.bool b) w) : Qe P ops o a w R :=
  Qe.pure hw _ (by unfold execOp; simp only [ho, hx, hy, eqGuard, Sem.run_bind, Sem.run_pure, Result.andThen_ok]; simp [binOp, Op.intCmp, <- hb]) hR
theorem Qe.shl (hw : Region.wanted o (yielded ops a.tmps) = true) {t t' : TypeId} {x y : Operand} (ho : o.op = .binOp .shl t x y t') {K K2 : IntKind} {m n : Int} (hx : a.eval x = .int K m) (hy : a.eval y = .int K2 n) (hn : 0 <= n) (hn2 : n <= K.bits) {r : Int} (hr : K.wrap (m * 2 ^ n.toNat) = r) (hR : R (.int K r) w) : Qe P ops o a w R := by
  have e1 : min n.toNat K.bits = n.toNat := Nat.min_eq_left (by omega)
  have e2 : ¬ n < 0 := by omega
  exact Qe.pure hw _ (by unfold execOp; simp only [ho, hx, hy, eqGuard, Sem.run_bind, Sem.run_pure, Result.andThen_ok]; simp [binOp, Op.shift, e1, e2, hr]) hR
theorem Qe.shr (hw : Region.wanted o (yielded ops a.tmps) = true) {t t' : TypeId} {x y : Operand} (ho : o.op = .binOp .shr t x y t') {K K2 : IntKind} {m n : Int} (hx : a.eval x = .int K m) (hy : a.eval y = .int K2 n) (hn : 0 <= n) (hn2 : n <= K.bits) {r : Int} (hr : m / 2 ^ n.toNat = r) (hR : R (.int K r) w) : Qe P ops o a w R := by
  have e1 : min n.toNat K.bits = n.toNat := Nat.min_eq_left (by omega)
  have e2 : ¬ n < 0 := by omega
  have e3 : m.fdiv (2 ^ n.toNat) = m / 2 ^ n.toNat := Int.fdiv_eq_ediv_of_nonneg _ (by rw [show (2 : Int) ^ n.toNat = ((2 ^ n.toNat : Nat) : Int) by simp]; exact Int.natCast_nonneg _)
  exact Qe.pure hw _ (by unfold execOp; simp only [ho, hx, hy, eqGuard, Sem.run_bind, Sem.run_pure, Result.andThen_ok]; simp [binOp, Op.shift, e1, e2, e3, hr]) hR
theorem Qe.conv (hw : Region.wanted o (yielded ops a.tmps) = true) {s d : TypeId} {x : Operand} (ho : o.op = .convert s d x) {K K' : IntKind} {ts : TypeDesc} (hs : P.underlying s = some ts) (hd : P.underlying d = some (.int K')) {m : Int} (hx : a.eval x = .int K m) {r : Int} (hr : K'.wrap m = r) (hR : R (.int K' r) w) : Qe P ops o a w R :=
  Qe.pure hw _ (by unfold execOp; simp only [ho, hx, convert, Sem.run_bind, run_underlying hs, run_underlying hd, Result.andThen_ok]; simp [Conv.intToInt, hr]) hR
theorem Qe.lenS (hw : Region.wanted o (yielded ops a.tmps) = true) {t : TypeId} {x : Operand} (ho : o.op = .call { callee := .builtin .len, args := #[x], argTypes := #[t] }) {e : TypeId} (ht : P.underlying t = some (.slice e)) {p : Option Addr} {l c : Nat} (hx : a.eval x = .slice p l c) (hR : R (.int .i64 (l : Int)) w) : Qe P ops o a w R :=
  Qe.pure hw _ (by unfold execOp; simp only [ho, resolve, invoke, builtin, Sem.run_bind, Sem.run_pure, Result.andThen_ok, List.map_toArray, List.map_cons, List.map_nil, hx]; simp [Builtin.len_, run_underlying ht, goInt]) hR
end
theorem Dv {x : Int} (h : -9223372036854775808 <= x /\ x <= 9223372036854775807) : IntKind.i64.wrap x = x := by
  simp [IntKind.wrap, IntKind.bits, IntKind.signed]
  omega
theorem Fp {x : Int} (h : 0 <= x /\ x < 18446744073709551616) : IntKind.u64.wrap x = x := by
  rw [IntKind.wrap_u64]; omega
theorem Du {x : Int} (h : 0 <= x /\ x < 256) : IntKind.u8.wrap x = x := by
  rw [IntKind.wrap_u8']; omega
abbrev Fl := List (Nat × Value)
def Zw : Fl -> Nat -> Option Value
  | [], _ => none
  | (k, v) :: l, t => match Nat.beq k t with
    | true => some v
    | false => Zw l t
def ev (f : Fl) : Operand -> Option Value
  | .tmp t => Zw f t
  | .const v => some v
  | .global g => some (.pointer (some ⟨g, 0, none⟩))
  | .func g => some (.func (.func g) #[] #[])
def evl (f : Fl) : List Operand -> Option (List Value)
  | [] => some []
  | x :: l => match ev f x with
    | none => none
    | some v => match evl f l with
      | none => none
      | some vs => some (v :: vs)
/-- A frame that holds what the list says. -/
def Fr (N : Nat) (a : Act) (f : Fl) : Prop := Fm N a /\ ∀ t v, Zw f t = some v -> a.eval (.tmp t) = v
def Sub : Fl -> Fl -> Prop
  | [], _ => True
  | (t, v) :: l, f => Zw f t = some v /\ Sub l f
theorem Fr.ev {N : Nat} {a : Act} {f : Fl} {x : Operand} {v : Value} (h : Fr N a f) (hx : ev f x = some v) : a.eval x = v := by
  cases x with
  | tmp t => exact h.2 t v hx
  | const u => simpa [Go.Proofs.YtbiboamaigedjaaDoor.ev, Act.eval] using hx
  | global g => simpa [Go.Proofs.YtbiboamaigedjaaDoor.ev, Act.eval] using hx
  | func g => simpa [Go.Proofs.YtbiboamaigedjaaDoor.ev, Act.eval] using hx
theorem Fr.evl {N : Nat} {a : Act} {f : Fl} (h : Fr N a f) : ∀ {xs : List Operand} {vs : List Value}, evl f xs = some vs -> xs.map a.eval = vs
  | [], vs, hx => by simpa [Go.Proofs.YtbiboamaigedjaaDoor.evl] using hx
  | x :: l, vs, hx => by
    unfold Go.Proofs.YtbiboamaigedjaaDoor.evl at hx
    cases h1 : Go.Proofs.YtbiboamaigedjaaDoor.ev f x with
    | none => rw [h1] at hx; cases hx
    | some v =>
      cases h2 : Go.Proofs.YtbiboamaigedjaaDoor.evl f l with
      | none => rw [h1, h2] at hx; cases hx
      | some us =>
        rw [h1, h2] at hx
        cases hx
        rw [List.map_cons, h.ev h1, Fr.evl h h2]
theorem Hr : ∀ {f' f : Fl}, Sub f' f -> ∀ {t v}, Zw f' t = some v -> Zw f t = some v
  | [], _, _, t, v, h => by cases h
  | (k, u) :: l, f, hs, t, v, h => by
    unfold Zw at h
    cases hk : Nat.beq k t with
    | true =>
      rw [hk] at h
      cases h
      have : k = t := Nat.eq_of_beq_eq_true hk
      subst this
      exact hs.1
    | false =>
      rw [hk] at h
      exact Hr hs.2 h
theorem Fr.sub {N : Nat} {a : Act} {f f' : Fl} (h : Fr N a f) (hs : Sub f' f) : Fr N a f' := ⟨h.1, fun t v hv => h.2 t v (Hr hs hv)⟩
theorem Fr.put {N : Nat} {a : Act} {f : Fl} (h : Fr N a f) {d : Nat} (hd : decide (d < N) = true) (v : Value) : Fr N (a.put (some d) v) ((d, v) :: f) := by
  refine ⟨h.1.put _ _, fun t u hu => ?_⟩
  unfold Zw at hu
  cases hk : Nat.beq d t with
  | true =>
    rw [hk] at hu
    cases hu
    have : d = t := Nat.eq_of_beq_eq_true hk
    subst this
    exact Qbb h.1 hd v
  | false =>
    rw [hk] at hu
    exact Qba v t u (by simpa using (fun e : t = d => Nat.ne_of_beq_eq_false hk e.symm)) (h.2 t u hu)
def Qg (ops : Array Oper) (o : Oper) (f : Fl) : Option Bool := match o.guard with
  | none => some true
  | some (g, b) => match QF ops g with
    | none => none
    | some t => match Zw f t with
      | some (.bool c) => some (c == b)
      | some _ => some false
      | none => none
theorem GS {ops : Array Oper} {o : Oper} {a : Act} {g t : Nat} {b : Bool} {v : Value} (hg : o.guard = some (g, b)) (hd : QF ops g = some t) (hv : a.eval (.tmp t) = v) (hnb : ∀ c, v ≠ .bool c) : Region.wanted o (yielded ops a.tmps) = false := by
  have hy : yielded ops a.tmps g = none := by
    unfold QF at hd
    unfold yielded
    rw [hd]
    rw [X8] at hv
    cases hq : a.tmps[t]? with
    | none => simp [hq]
    | some x =>
      rw [hq] at hv
      simp only [Option.getD_some] at hv
      subst hv
      cases x <;> simp_all
  unfold Region.wanted
  rw [hg]
  simp [hy]
theorem Qc {ops : Array Oper} {o : Oper} {f : Fl} {N : Nat} {a : Act} (h : Fr N a f) {b : Bool} (hw : Qg ops o f = some b) : Region.wanted o (yielded ops a.tmps) = b := by
  unfold Qg at hw
  cases hg : o.guard with
  | none => rw [hg] at hw; cases hw; unfold Region.wanted; rw [hg]
  | some p =>
    obtain ⟨g, c⟩ := p
    rw [hg] at hw
    simp only at hw
    cases hd : QF ops g with
    | none => rw [hd] at hw; cases hw
    | some t =>
      rw [hd] at hw
      simp only at hw
      split at hw
      . rename_i c' hl
        cases hw
        have hv := h.2 t _ hl
        cases hcc : (c' == c) with
        | true => have : c' = c := by simpa using hcc
                  subst this; exact Dz hg hd hv
        | false => exact GR hg hd hv hcc
      . rename_i v hnb hl
        cases hw
        exact GS hg hd (h.2 t _ hl) (fun c e => hnb c e)
      . cases hw

/-- One operation, over a frame that is a list. -/
def DR (P : Program) (ops : Array Oper) (o : Oper) (N : Nat) (f : Fl) (w : World) (R : Value -> World -> Prop) : Prop := ∀ a, Fr N a f -> Qe P ops o a w R
/-- One that yields this value and leaves the world alone. -/
def DV (P : Program) (ops : Array Oper) (o : Oper) (N : Nat) (f : Fl) (w : World) (v : Value) : Prop := DR P ops o N f w fun v' w' => v' = v /\ w' = w
def WL (P : Program) (ops : Array Oper) (Q : Exit -> Act -> World -> Prop) (N : Nat) (l : List Oper) (f : Fl) (w : World) : Prop := ∀ a, Fr N a f -> wpList P ops Q l a w
def WC (P : Program) (N : Nat) (c : Code) (Q : Exit -> Act -> World -> Prop) (f : Fl) (w : World) : Prop := ∀ a, Fr N a f -> c.wp P Q a w

section
variable {P : Program} {ops : Array Oper} {o : Oper} {N : Nat} {f : Fl} {w : World} {R : Value -> World -> Prop} {rest : List Oper} {Q : Exit -> Act -> World -> Prop}

theorem DR.mono {R' : Value -> World -> Prop} (h : DR P ops o N f w R) (hr : ∀ v w', R v w' -> R' v w') : DR P ops o N f w R' := fun a ha => (h a ha).mono hr
theorem WL.val {d : Nat} {v : Value} (hd : DV P ops o N f w v) (ho : o.dst = some d) (hN : decide (d < N) = true) (k : WL P ops Q N rest ((d, v) :: f) w) : WL P ops Q N (o :: rest) f w := fun a ha =>
  XX (hd a ha) fun v' w' e => by obtain ⟨rfl, rfl⟩ := e; rw [ho]; exact k _ (ha.put hN _)
theorem WL.get {d : Nat} (hd : DR P ops o N f w R) (ho : o.dst = some d) (hN : decide (d < N) = true) (k : ∀ v w', R v w' -> WL P ops Q N rest ((d, v) :: f) w') : WL P ops Q N (o :: rest) f w := fun a ha =>
  XX (hd a ha) fun v' w' e => by rw [ho]; exact k v' w' e _ (ha.put hN _)
theorem WL.do (hd : DR P ops o N f w R) (ho : o.dst = none) (k : ∀ v w', R v w' -> WL P ops Q N rest f w') : WL P ops Q N (o :: rest) f w := fun a ha =>
  XX (hd a ha) fun v' w' e => by rw [ho]; exact k v' w' e _ ha
theorem WL.off {d : Nat} (hw : Qg ops o f = some false) (ho : o.dst = some d) (hN : decide (d < N) = true) (k : WL P ops Q N rest ((d, undef) :: f) w) : WL P ops Q N (o :: rest) f w := fun a ha =>
  XX (Qe.off (R := fun v' w' => v' = undef /\ w' = w) (Qc ha hw) ⟨rfl, rfl⟩) fun v' w' e => by obtain ⟨rfl, rfl⟩ := e; rw [ho]; exact k _ (ha.put hN _)
theorem WL.offn (hw : Qg ops o f = some false) (ho : o.dst = none) (k : WL P ops Q N rest f w) : WL P ops Q N (o :: rest) f w := fun a ha =>
  XX (Qe.off (R := fun v' w' => w' = w) (Qc ha hw) rfl) fun v' w' e => by rw [ho, e]; exact k _ ha
theorem Di (m n : Int) : (m == n) = decide (m = n) := by
  by_cases h : m = n
  . simp [h]
  . simp [h]
-- operations that yield, and leave the world alone
theorem Gl {x : Operand} {v : Value} (ho : o.op = .move x) (hx : ev f x = some v) (hw : Qg ops o f = some true := by rfl) : DV P ops o N f w v := fun a ha => Qe.move (Qc ha hw) ho (ha.ev hx) ⟨rfl, rfl⟩
theorem Ud {x : Operand} {v : Value} (ho : o.op = .assign x) (hx : ev f x = some v) (hw : Qg ops o f = some true := by rfl) : DV P ops o N f w v := fun a ha => Qe.assign (Qc ha hw) ho (ha.ev hx) ⟨rfl, rfl⟩
theorem Gk {c x y : Operand} {b : Bool} {v : Value} (ho : o.op = .pick c x y) (hc : ev f c = some (.bool b)) (hv : (bif b then ev f x else ev f y) = some v) (hw : Qg ops o f = some true := by rfl) : DV P ops o N f w v := fun a ha =>
  Qe.pick (Qc ha hw) ho (ha.ev hc) (by cases b <;> simp at hv ⊢ <;> exact ha.ev hv) ⟨rfl, rfl⟩
theorem F6 {t : TypeId} {x : Operand} {b : Bool} (ho : o.op = .unOp .not t x) (hx : ev f x = some (.bool b)) (hw : Qg ops o f = some true := by rfl) : DV P ops o N f w (.bool (!b)) := fun a ha =>
  Qe.not (Qc ha hw) ho (ha.ev hx) rfl ⟨rfl, rfl⟩
theorem Qci {t t' : TypeId} {x y : Operand} {K : IntKind} {m n r : Int} (ho : o.op = .binOp .add t x y t') (hx : ev f x = some (.int K m)) (hy : ev f y = some (.int K n)) (hr : K.wrap (m + n) = r) (hw : Qg ops o f = some true := by rfl) : DV P ops o N f w (.int K r) := fun a ha =>
  Qe.add (Qc ha hw) ho (ha.ev hx) (ha.ev hy) hr ⟨rfl, rfl⟩
theorem Qb6 {t t' : TypeId} {x y : Operand} {K : IntKind} {m n r : Int} (ho : o.op = .binOp .sub t x y t') (hx : ev f x = some (.int K m)) (hy : ev f y = some (.int K n)) (hr : K.wrap (m - n) = r) (hw : Qg ops o f = some true := by rfl) : DV P ops o N f w (.int K r) := fun a ha =>
  Qe.sub (Qc ha hw) ho (ha.ev hx) (ha.ev hy) hr ⟨rfl, rfl⟩
theorem Qca {t t' : TypeId} {x y : Operand} {K : IntKind} {m n r : Int} (ho : o.op = .binOp .mul t x y t') (hx : ev f x = some (.int K m)) (hy : ev f y = some (.int K n)) (hr : K.wrap (m * n) = r) (hw : Qg ops o f = some true := by rfl) : DV P ops o N f w (.int K r) := fun a ha =>
  Qe.mul (Qc ha hw) ho (ha.ev hx) (ha.ev hy) hr ⟨rfl, rfl⟩
theorem Qfm {t t' : TypeId} {x y : Operand} {K : IntKind} {m n r : Int} (ho : o.op = .binOp .quo t x y t') (hx : ev f x = some (.int K m)) (hy : ev f y = some (.int K n)) (hn : n ≠ 0) (hr : K.wrap (m.tdiv n) = r) (hw : Qg ops o f = some true := by rfl) : DV P ops o N f w (.int K r) := fun a ha =>
  Qe.quo (Qc ha hw) ho (ha.ev hx) (ha.ev hy) hn hr ⟨rfl, rfl⟩
theorem Qfl {t t' : TypeId} {x y : Operand} {K : IntKind} {m n r : Int} (ho : o.op = .binOp .rem t x y t') (hx : ev f x = some (.int K m)) (hy : ev f y = some (.int K n)) (hn : n ≠ 0) (hr : m.tmod n = r) (hw : Qg ops o f = some true := by rfl) : DV P ops o N f w (.int K r) := fun a ha =>
  Qe.rem (Qc ha hw) ho (ha.ev hx) (ha.ev hy) hn hr ⟨rfl, rfl⟩
theorem Qch {t t' : TypeId} {x y : Operand} {K : IntKind} {m n r : Int} (ho : o.op = .binOp .and t x y t') (hx : ev f x = some (.int K m)) (hy : ev f y = some (.int K n)) (hr : bits .and K m n = r) (hw : Qg ops o f = some true := by rfl) : DV P ops o N f w (.int K r) := fun a ha =>
  Qe.and (Qc ha hw) ho (ha.ev hx) (ha.ev hy) hr ⟨rfl, rfl⟩
theorem QdK {t t' : TypeId} {x y : Operand} {K : IntKind} {m n r : Int} (ho : o.op = .binOp .or t x y t') (hx : ev f x = some (.int K m)) (hy : ev f y = some (.int K n)) (hr : bits .or K m n = r) (hw : Qg ops o f = some true := by rfl) : DV P ops o N f w (.int K r) := fun a ha =>
  Qe.or (Qc ha hw) ho (ha.ev hx) (ha.ev hy) hr ⟨rfl, rfl⟩
theorem Qb5 {t t' : TypeId} {x y : Operand} {K : IntKind} {m n r : Int} (ho : o.op = .binOp .xor t x y t') (hx : ev f x = some (.int K m)) (hy : ev f y = some (.int K n)) (hr : bits .xor K m n = r) (hw : Qg ops o f = some true := by rfl) : DV P ops o N f w (.int K r) := fun a ha =>
  Qe.xor (Qc ha hw) ho (ha.ev hx) (ha.ev hy) hr ⟨rfl, rfl⟩
theorem Qfq {t t' : TypeId} {x y : Operand} {K : IntKind} {m n : Int} (ho : o.op = .binOp .lss t x y t') (hx : ev f x = some (.int K m)) (hy : ev f y = some (.int K n)) (hw : Qg ops o f = some true := by rfl) : DV P ops o N f w (.bool (decide (m < n))) := fun a ha =>
  Qe.lss (Qc ha hw) ho (ha.ev hx) (ha.ev hy) rfl ⟨rfl, rfl⟩
theorem Qfr {t t' : TypeId} {x y : Operand} {K : IntKind} {m n : Int} (ho : o.op = .binOp .leq t x y t') (hx : ev f x = some (.int K m)) (hy : ev f y = some (.int K n)) (hw : Qg ops o f = some true := by rfl) : DV P ops o N f w (.bool (decide (m <= n))) := fun a ha =>
  Qe.leq (Qc ha hw) ho (ha.ev hx) (ha.ev hy) rfl ⟨rfl, rfl⟩
theorem Qfs {t t' : TypeId} {x y : Operand} {K : IntKind} {m n : Int} (ho : o.op = .binOp .gtr t x y t') (hx : ev f x = some (.int K m)) (hy : ev f y = some (.int K n)) (hw : Qg ops o f = some true := by rfl) : DV P ops o N f w (.bool (decide (n < m))) := fun a ha =>
  Qe.gtr (Qc ha hw) ho (ha.ev hx) (ha.ev hy) rfl ⟨rfl, rfl⟩
theorem Qft {t t' : TypeId} {x y : Operand} {K : IntKind} {m n : Int} (ho : o.op = .binOp .geq t x y t') (hx : ev f x = some (.int K m)) (hy : ev f y = some (.int K n)) (hw : Qg ops o f = some true := by rfl) : DV P ops o N f w (.bool (decide (n <= m))) := fun a ha =>
  Qe.geq (Qc ha hw) ho (ha.ev hx) (ha.ev hy) rfl ⟨rfl, rfl⟩
theorem Qfu {t t' : TypeId} {x y : Operand} {K : IntKind} {m n : Int} (ho : o.op = .binOp .eql t x y t') (hx : ev f x = some (.int K m)) (hy : ev f y = some (.int K n)) (hw : Qg ops o f = some true := by rfl) : DV P ops o N f w (.bool (decide (m = n))) := fun a ha =>
  Qe.eqlN (Qc ha hw) ho (ha.ev hx) (ha.ev hy) (Di m n) ⟨rfl, rfl⟩
theorem Qfn {t t' : TypeId} {x y : Operand} {K : IntKind} {m n : Int} (ho : o.op = .binOp .neq t x y t') (hx : ev f x = some (.int K m)) (hy : ev f y = some (.int K n)) (hw : Qg ops o f = some true := by rfl) : DV P ops o N f w (.bool (!decide (m = n))) := fun a ha =>
  Qe.neqN (Qc ha hw) ho (ha.ev hx) (ha.ev hy) (by rw [bne, Di m n]) ⟨rfl, rfl⟩
theorem Dd {s d : TypeId} {x : Operand} {K K' : IntKind} {ts : TypeDesc} {m r : Int} (ho : o.op = .convert s d x) (hs : P.underlying s = some ts) (hd : P.underlying d = some (.int K')) (hx : ev f x = some (.int K m)) (hr : K'.wrap m = r) (hw : Qg ops o f = some true := by rfl) : DV P ops o N f w (.int K' r) := fun a ha =>
  Qe.conv (Qc ha hw) ho hs hd (ha.ev hx) hr ⟨rfl, rfl⟩
theorem F7 {t e : TypeId} {x : Operand} {p : Option Addr} {l c : Nat} (ho : o.op = .call { callee := .builtin .len, args := #[x], argTypes := #[t] }) (ht : P.underlying t = some (.slice e)) (hx : ev f x = some (.slice p l c)) (hw : Qg ops o f = some true := by rfl) : DV P ops o N f w (.int .i64 (l : Int)) := fun a ha =>
  Qe.lenS (Qc ha hw) ho ht (ha.ev hx) ⟨rfl, rfl⟩
theorem QdP {t : TypeId} {x : Operand} {s : ByteArray} (ho : o.op = .call { callee := .builtin .len, args := #[x], argTypes := #[t] }) (ht : P.underlying t = some .string) (hx : ev f x = some (.string s)) (hw : Qg ops o f = some true := by rfl) : DV P ops o N f w (.int .i64 (s.size : Int)) := fun a ha => by
  have hx := ha.ev hx
  exact Qe.pure (Qc ha hw) _ (by unfold execOp; simp only [ho, resolve, invoke, builtin, Sem.run_bind, Sem.run_pure, Result.andThen_ok, List.map_toArray, List.map_cons, List.map_nil, hx]; simp [Builtin.len_, run_underlying ht, goInt]) ⟨rfl, rfl⟩
theorem F8 {x : Operand} {i : Nat} {vs : Array Value} {v : Value} (ho : o.op = .extract x i) (hx : ev f x = some (.tuple vs)) (hv : vs[i]? = some v) (hw : Qg ops o f = some true := by rfl) : DV P ops o N f w v := fun a ha => by
  have hx := ha.ev hx
  exact Qe.pure (Qc ha hw) _ (by unfold execOp; simp only [ho, hx, Instr.extract, hv, Sem.run_bind, Sem.run_pure, Result.andThen_ok]) ⟨rfl, rfl⟩
theorem QdS {fn : Fn} {first captured : Array Operand} {cs : List Value} (ho : o.op = .makeFunc fn first captured) (h1 : first = #[]) (hc : evl f captured.toList = some cs) (hw : Qg ops o f = some true := by rfl) : DV P ops o N f w (.func fn #[] cs.toArray) := fun a ha => by
  have hx := ha.evl hc
  exact Qe.pure (Qc ha hw) _ (by unfold execOp; simp only [ho, h1, Instr.makeFunc, Sem.run_bind, Sem.run_pure, Result.andThen_ok]; rw [<- hx]; congr 3 <;> first | (simp; done) | (rw [<- Array.toList_map])) ⟨rfl, rfl⟩
-- strings
theorem KI (s t : ByteArray) : (s.toList == t.toList) = decide (s = t) := by
  by_cases h : s = t
  . rw [Fw h, decide_eq_true h]
  . rw [DI h, decide_eq_false h]
def Vo (s t : ByteArray) : Bool := Op.bytesLess s.toList t.toList
theorem QdT {t t' : TypeId} {x y : Operand} {m n : ByteArray} (ho : o.op = .binOp .eql t x y t') (hx : ev f x = some (.string m)) (hy : ev f y = some (.string n)) (hw : Qg ops o f = some true := by rfl) : DV P ops o N f w (.bool (decide (m = n))) := fun a ha => by
  have hx := ha.ev hx
  have hy := ha.ev hy
  exact Qe.pure (Qc ha hw) _ (by unfold execOp; simp only [ho, hx, hy, eqGuard, Sem.run_bind, Sem.run_pure, Result.andThen_ok]; simp [binOp, Op.stringOp, KI]) ⟨rfl, rfl⟩
theorem QdL {t t' : TypeId} {x y : Operand} {m n : ByteArray} (ho : o.op = .binOp .neq t x y t') (hx : ev f x = some (.string m)) (hy : ev f y = some (.string n)) (hw : Qg ops o f = some true := by rfl) : DV P ops o N f w (.bool (!decide (m = n))) := fun a ha => by
  have hx := ha.ev hx
  have hy := ha.ev hy
  exact Qe.pure (Qc ha hw) _ (by unfold execOp; simp only [ho, hx, hy, eqGuard, Sem.run_bind, Sem.run_pure, Result.andThen_ok]; simp [binOp, Op.stringOp, KI]) ⟨rfl, rfl⟩
theorem QdO {t t' : TypeId} {x y : Operand} {m n : ByteArray} (ho : o.op = .binOp .lss t x y t') (hx : ev f x = some (.string m)) (hy : ev f y = some (.string n)) (hw : Qg ops o f = some true := by rfl) : DV P ops o N f w (.bool (Vo m n)) := fun a ha => by
  have hx := ha.ev hx
  have hy := ha.ev hy
  exact Qe.pure (Qc ha hw) _ (by unfold execOp; simp only [ho, hx, hy, eqGuard, Sem.run_bind, Sem.run_pure, Result.andThen_ok]; simp [binOp, Op.stringOp, Vo]) ⟨rfl, rfl⟩
theorem QdR {t t' : TypeId} {x y : Operand} {m n : ByteArray} (ho : o.op = .binOp .geq t x y t') (hx : ev f x = some (.string m)) (hy : ev f y = some (.string n)) (hw : Qg ops o f = some true := by rfl) : DV P ops o N f w (.bool (!Vo m n)) := fun a ha => by
  have hx := ha.ev hx
  have hy := ha.ev hy
  exact Qe.pure (Qc ha hw) _ (by unfold execOp; simp only [ho, hx, hy, eqGuard, Sem.run_bind, Sem.run_pure, Result.andThen_ok]; simp [binOp, Op.stringOp, Vo]) ⟨rfl, rfl⟩
theorem QdQ {t t' : TypeId} {x y : Operand} {m n : ByteArray} (ho : o.op = .binOp .gtr t x y t') (hx : ev f x = some (.string m)) (hy : ev f y = some (.string n)) (hw : Qg ops o f = some true := by rfl) : DV P ops o N f w (.bool (!(Vo m n || decide (m = n)))) := fun a ha => by
  have hx := ha.ev hx
  have hy := ha.ev hy
  exact Qe.pure (Qc ha hw) _ (by unfold execOp; simp only [ho, hx, hy, eqGuard, Sem.run_bind, Sem.run_pure, Result.andThen_ok]; simp [binOp, Op.stringOp, Vo, KI]) ⟨rfl, rfl⟩
theorem QdV {t t' : TypeId} {x y : Operand} {m n : ByteArray} (ho : o.op = .binOp .add t x y t') (hx : ev f x = some (.string m)) (hy : ev f y = some (.string n)) (hs : m.size + n.size <= 9223372036854775807) (hw : Qg ops o f = some true := by rfl) : DV P ops o N f w (.string (m ++ n)) := fun a ha => by
  have hx := ha.ev hx
  have hy := ha.ev hy
  have hz : ¬ ((m.size + n.size : Nat) : Int) > IntKind.i64.max := by have : IntKind.i64.max = 9223372036854775807 := by decide
                                                                      rw [this]; omega
  exact Qe.pure (Qc ha hw) _ (by unfold execOp; simp only [ho, hx, hy, eqGuard, Sem.run_bind, Sem.run_pure, Result.andThen_ok]; simp only [binOp, Op.stringOp, if_neg hz]; simp) ⟨rfl, rfl⟩
-- a call
theorem HJ {a : Act} {xs : List Operand} {vs : List Value} (h : xs.map a.eval = vs) : xs.toArray.map a.eval = vs.toArray := by rw [<- h]; simp
theorem QdU {c : Operand} {F : FuncId} {fn : Func} {xs : List Operand} {ts : Array TypeId} {vs : List Value} {cap : Array Value} (ho : o.op = .call { callee := .value c, args := xs.toArray, argTypes := ts }) (hcv : ev f c = some (.func (.func F) #[] cap)) (hf : P.funcs[F]? = some fn) (hn : (fn.name == "runtime.NumGoroutine") = false) (hb : fn.body.isNone = false)
    (hx : evl f xs = some vs) (hc : Calls P F (vs.toArray ++ cap) w fun e w' => ∃ v, e = .returned v /\ R v w') (hw : Qg ops o f = some true := by rfl) : DR P ops o N f w R := fun a ha => by
  have he := HJ (ha.evl hx)
  have hc' := ha.ev hcv
  exact Qe.call (Qc ha hw) F (vs.toArray ++ cap) (by
    unfold execOp
    simp only [ho, resolve, he, hc', Deferred.ofValue, Sem.run_bind, Sem.run_pure, Result.andThen_ok, invoke]
    simp only [Array.empty_append, callFunc, Sem.run_bind, run_program, Result.andThen_ok, hf, hn, hb]
    rfl) hc
end
section
variable {P : Program} {N : Nat} {f : Fl} {w : World} {Q : Exit -> Act -> World -> Prop}
end
theorem Qct {P : Program} {f : FuncId} {fn : Func} {args : Array Value} {body : Code} {w : World} {R : Ending -> World -> Prop} {N : Nat} (hf : P.funcs[f]? = some fn) (hb : fn.body = some body) (hn : fn.ntmps = N) (hN : decide (args.size <= N) = true)
    (h : ∀ a, Fm N a -> (∀ t v, args[t]? = some v -> a.eval (.tmp t) = v) -> body.wp P (bodyPost P fn R) a w) : Calls P f args w R := by
  refine calls_of_wp hf hb ?_
  refine h _ ⟨?_, rfl⟩ fun t v hv => ?_
  . have := of_decide_eq_true hN
    simp [hn]
    omega
  . have ht := (Array.getElem?_eq_some_iff.1 hv).1
    rw [X8]
    have he := Array.getElem?_eq_getElem ht
    rw [he] at hv
    simp [Array.getElem?_append, ht]
    exact Option.some.inj hv
theorem Qcs {P : Program} {F : FuncId} {fn : Func} {body : Code} {w : World} {R : Ending -> World -> Prop} {N : Nat} (vs : List Value) (f : Fl) (hf : P.funcs[F]? = some fn) (hb : fn.body = some body) (hn : fn.ntmps = N) (hN : decide (vs.length <= N) = true)
    (hfr : f = (vs.zipIdx.map fun p => (p.2, p.1))) (h : WC P N body (bodyPost P fn R) f w) : Calls P F vs.toArray w R := by
  refine Qct hf hb hn (by simpa using hN) fun a hfm harg => h a ⟨hfm, fun t v hv => harg t v ?_⟩
  subst hfr
  have key : ∀ (l : List Value) (k : Nat), Zw ((l.zipIdx k).map fun p => (p.2, p.1)) t = some v -> k <= t /\ l[t - k]? = some v := by
    intro l
    induction l with
    | nil => intro k hk; cases hk
    | cons x l ih =>
      intro k hk
      simp only [List.zipIdx_cons, List.map_cons] at hk
      unfold Zw at hk
      cases hb : Nat.beq k t with
      | true =>
        rw [hb] at hk
        cases hk
        have := Nat.eq_of_beq_eq_true hb
        subst this
        simp
      | false =>
        rw [hb] at hk
        obtain ⟨h1, h2⟩ := ih (k + 1) hk
        refine ⟨by omega, ?_⟩
        rw [show t - k = (t - (k + 1)) + 1 by omega]
        simpa using h2
  have := (key vs 0 hv).2
  simpa using this
/-- The end of a call: results that are slots. -/
def fin (P : Program) (fn : Func) (R : Ending -> World -> Prop) (a : Act) (w : World) : Prop := a.defers = [] /\ ∃ v, (results fn a.tmps).run P w = .ok v w /\ R (.returned v) w
section
variable {P : Program} {fn : Func} {R : Ending -> World -> Prop} {N : Nat} {f : Fl} {w : World}
theorem KM {a : Act} {t : Nat} {v : Value} (ha : Fr N a f) (h : Zw f t = some v) : a.tmps.getD t undef = v := ha.2 t v h
end
/-- What an operation of a drawn region yields: a value, or what it is like. -/
inductive VS where
  | is (v : Value)
  | by (p : Value -> World -> Prop)
section
variable {P : Program} {ops : Array Oper} {N : Nat} {sd : List (Option Tmp × VS)} {dl : List (List Nat)}
end
/-- One block has been written to, and nothing else has changed. -/
structure VW (B : Nat) (w w' : World) : Prop where
  os : w'.os = w.os
  tape : w'.tape = w.tape
  output : w'.output = w.output
  size : w'.heap.size = w.heap.size
  block : ∀ k, k ≠ B -> w'.heap[k]? = w.heap[k]?
theorem VW.below {n0 B : Nat} {w0 w w' : World} (h : VW B w w') (hb : Below n0 w0 w) (hB : n0 <= B) : Below n0 w0 w' :=
  ⟨by rw [h.os]; exact hb.os, by rw [h.tape]; exact hb.tape, by rw [h.output]; exact hb.output, by rw [h.size]; exact hb.size, fun k hk => by rw [h.block k (by omega)]; exact hb.block k hk⟩
theorem Um (w : World) (B : Nat) (cs : Array Value) : VW B w (w.setRow B cs) := ⟨rfl, rfl, rfl, by simp [World.setRow], fun k hk => setRow_other w B k cs hk⟩
/-- What lies off these blocks has stayed. -/
def VX (L : List Nat) (w w' : World) : Prop := w.heap.size <= w'.heap.size /\ ∀ k, k ∉ L -> k < w.heap.size -> w'.heap[k]? = w.heap[k]?
theorem VX.of_below {L : List Nat} {w w' : World} (h : Below w.heap.size w w') : VX L w w' := ⟨h.size, fun k _ hk => h.block k hk⟩
theorem VX.of_only {L : List Nat} {B : Nat} {w w' : World} (h : VW B w w') (hB : B ∈ L) : VX L w w' := ⟨by rw [h.size]; exact Nat.le_refl _, fun k hk _ => h.block k (fun e => hk (e ▸ hB))⟩
/-- A block of the call's Xq: it may be written. -/
def XZ (w : World) (B : Nat) (cs : List Value) : Prop := ∃ t, w.heap[B]? = some (.cells cs.toArray t (0, 0))
theorem XZ.lt {w : World} {B : Nat} {cs : List Value} (h : XZ w B cs) : B < w.heap.size := by
  obtain ⟨t, h⟩ := h
  exact (Array.getElem?_eq_some_iff.1 h).1
theorem XZ.below {w w' : World} {B : Nat} {cs : List Value} (h : XZ w B cs) (hb : Below w.heap.size w w') : XZ w' B cs := by
  obtain ⟨t, h'⟩ := h
  exact ⟨t, by rw [hb.block B (XZ.lt ⟨t, h'⟩)]; exact h'⟩
theorem XZ.other {w w' : World} {B C : Nat} {cs : List Value} (h : XZ w B cs) (ho : VW C w w') (hn : B ≠ C) : XZ w' B cs := by
  obtain ⟨t, h'⟩ := h
  exact ⟨t, by rw [ho.block B hn]; exact h'⟩
theorem XZ.range {w : World} {B : Nat} {cs : List Value} (h : XZ w B cs) : w.rangeAt B 0 cs := fun j v hj => by
  obtain ⟨t, h⟩ := h
  simp [World.cell?, h, hj]
theorem XZ.part {w : World} {B : Nat} {cs : List Value} (h : XZ w B cs) (o n : Nat) : w.rangeAt B o ((cs.drop o).take n) := fun j v hj => by
  rw [List.getElem?_take] at hj
  split at hj
  . rw [List.getElem?_drop] at hj
    have := h.range (o + j) v hj
    simpa using this
  . cases hj
theorem XZ.cell {w : World} {B k : Nat} {cs : List Value} {v : Value} (h : XZ w B cs) (hk : cs[k]? = some v) : w.cell? ⟨B, k, none⟩ = some v := by simpa using h.range k v hk
theorem Zn {w w' : World} {L : List Nat} {X o : Nat} {cs : List Value} (h : w.rangeAt X o cs) (ha : VX L w w') (hX : X ∉ L) : w'.rangeAt X o cs := fun j v hj => by
  have h1 := h j v hj
  have hlt := World.block_lt_of_cell? w _ h1
  rw [<- h1]
  exact World.cell?_of_block (ha.2 X hX hlt)
theorem Zc {w : World} {X o : Nat} {cs : List Value} (h : w.rangeAt X o cs) (hn : 0 < cs.length) : X < w.heap.size :=
  World.block_lt_of_cell? w _ (h 0 _ (List.getElem?_eq_getElem hn))
theorem Y9 {w : World} {X o : Nat} {cs : List Value} (h : w.rangeAt X o cs) (p n : Nat) : w.rangeAt X (o + p) ((cs.drop p).take n) := fun j v hj => by
  rw [List.getElem?_take] at hj
  split at hj
  . rw [List.getElem?_drop] at hj
    rw [Nat.add_assoc]
    exact h (p + j) v hj
  . cases hj
/-- A slice whose elements are these rows, off the call's Xq blocks. -/
def GF (s : Nat) (L : List Nat) (w : World) (v : Value) (rs : List (List Value)) : Prop :=
  0 < s /\ (∀ r ∈ rs, r.length = s) /\ ∃ a cap, v = .slice a rs.length cap /\ rs.length <= cap /\ cap <= maxLen /\ (a = none -> cap = 0) /\ (rs ≠ [] -> ∃ X o, a = some ⟨X, o, none⟩ /\ X ∉ L /\ w.rangeAt X o rs.flatten)
theorem Jr {s : Nat} : ∀ {rs : List (List Value)}, (∀ r ∈ rs, r.length = s) -> rs.flatten.length = rs.length * s
  | [], _ => by simp
  | r :: rs, h => by
    rw [List.flatten_cons, List.length_append, Jr (fun r hr => h r (List.mem_cons_of_mem _ hr)), h r (by simp), List.length_cons, Nat.succ_mul, Nat.add_comm]
theorem Uc {s : Nat} : ∀ {rs : List (List Value)} (i : Nat), (∀ r ∈ rs, r.length = s) -> rs.flatten.drop (i * s) = (rs.drop i).flatten
  | rs, 0, _ => by simp
  | [], i + 1, _ => by simp
  | r :: rs, i + 1, h => by
    have hr := h r (by simp)
    rw [List.flatten_cons, Nat.succ_mul, Nat.add_comm, <- List.drop_drop, <- hr, List.drop_left, hr, Uc i (fun r hr => h r (List.mem_cons_of_mem _ hr)), List.drop_succ_cons]
theorem Kr {s : Nat} : ∀ {rs : List (List Value)} (i : Nat), (∀ r ∈ rs, r.length = s) -> rs.flatten.take (i * s) = (rs.take i).flatten
  | rs, 0, _ => by simp
  | [], i + 1, _ => by simp
  | r :: rs, i + 1, h => by
    have hr := h r (by simp)
    rw [List.flatten_cons, Nat.succ_mul, Nat.add_comm, List.take_add, <- hr, List.take_left, List.drop_left, hr, Kr i (fun r hr => h r (List.mem_cons_of_mem _ hr)), List.take_succ_cons, List.flatten_cons]
theorem Qb0 {s : Nat} {rs : List (List Value)} {i : Nat} {r : List Value} (h : ∀ r ∈ rs, r.length = s) (hi : rs[i]? = some r) : (rs.flatten.drop (i * s)).take s = r := by
  obtain ⟨hl, he⟩ := List.getElem?_eq_some_iff.1 hi
  have hr := h r (List.mem_of_getElem? hi)
  rw [Uc i h, List.drop_eq_getElem_cons hl, he, List.flatten_cons, <- hr, List.take_left]
theorem GF.agree {s : Nat} {L : List Nat} {w w' : World} {v : Value} {rs : List (List Value)} (h : GF s L w v rs) (ha : VX L w w') : GF s L w' v rs := by
  obtain ⟨h0, hr, a, cap, h1, h2, h3, h4, h5⟩ := h
  refine ⟨h0, hr, a, cap, h1, h2, h3, h4, fun hn => ?_⟩
  obtain ⟨X, o, e, hX, hc⟩ := h5 hn
  exact ⟨X, o, e, hX, Zn hc ha hX⟩
theorem QbB : ∀ v ∈ ([] : List Value), v.oneCell' = true := fun v h => by cases h
theorem EN {v : Value} {l : List Value} (h : v.oneCell' = true) (t : ∀ u ∈ l, u.oneCell' = true) : ∀ u ∈ v :: l, u.oneCell' = true := fun u hu => by
  cases hu with
  | head => exact h
  | tail _ hu => exact t u hu
theorem FV {v : Value} (h : v.oneCell' = true) : v.cells.toList = [v] := by cases v <;> simp_all [Value.cells, Value.oneCell']
def Qam (P : Program) (t n : Nat) : Bool := (match P.underlying t with | some (.struct _) => true | some (.array _ _) => true | _ => false) && (match P.info? t with | some i => i.size == n | none => false)
def FS (P : Program) (t : Nat) : Bool := (match P.underlying t with | none => false | some (.struct _) => false | some (.array _ _) => false | some _ => true) && (match P.info? t with | some i => i.size == 1 | none => false)
def X2 (P : Program) (t n : Nat) : Bool := match P.info? t with | some i => i.size == n | none => false
def V6 (P : Program) (t s : Nat) : Bool := match P.underlying t with | some (.slice e) => X2 P e s | _ => false
/-- A struct's field lies so many cells behind its beginning. -/
def Qad (P : Program) (s : TypeId) (f off : Nat) : Bool := match P.underlying s with
  | some (.struct fs) => match fs[f]? with
    | some fd => fd.offset == off && (match P.info? fd.type with | some i => i.size != 0 | none => false)
    | none => false
  | _ => false
section
variable {P : Program}
theorem YC {t n : Nat} (h : X2 P t n = true) : ∃ i, P.info? t = some i /\ i.size = n := by
  unfold X2 at h
  split at h
  . rename_i i hi; exact ⟨i, hi, by simpa using h⟩
  . cases h
theorem Zf {t n : Nat} (h : X2 P t n = true) : (P.info? t).map (·.size) = some n := by
  obtain ⟨i, hi, hn⟩ := YC h
  rw [hi, <- hn]; rfl
theorem UM {t n : Nat} (h : Qam P t n = true) : ∃ d, P.underlying t = some d /\ d.isRow = true /\ (P.info? t).map (·.size) = some n := by
  unfold Qam at h
  simp only [Bool.and_eq_true] at h
  obtain ⟨h1, h2⟩ := h
  have h3 := Zf (P := P) (t := t) (n := n) h2
  split at h1
  . rename_i fs hu; exact ⟨_, hu, rfl, h3⟩
  . rename_i m e hu; exact ⟨_, hu, rfl, h3⟩
  . cases h1
theorem UL {t : Nat} (h : FS P t = true) : ∃ d, P.underlying t = some d /\ (match d with | .struct _ | .array _ _ => true | _ => false) = false /\ (P.info? t).map (·.size) = some 1 := by
  unfold FS at h
  simp only [Bool.and_eq_true] at h
  obtain ⟨h1, h2⟩ := h
  have h3 := Zf (P := P) (t := t) (n := 1) h2
  split at h1
  . cases h1
  . cases h1
  . cases h1
  . rename_i d hs ha hu
    exact ⟨_, hu, by cases d <;> simp_all, h3⟩
theorem Ki {t s : Nat} (h : V6 P t s = true) : ∃ e, P.underlying t = some (.slice e) /\ (P.info? e).map (·.size) = some s := by
  unfold V6 at h
  split at h
  . rename_i e hu; exact ⟨e, hu, Zf h⟩
  . cases h
theorem Y2 (b o j : Nat) : (⟨b, o, none⟩ : Addr).add j = ⟨b, o + j, none⟩ := Go.Addr.add_mid b o j
theorem QaV {w : World} {s : TypeId} {f off : Nat} (hf : Qad P s f off = true) (B o0 : Nat) : (Instr.fieldAt s (.pointer (some ⟨B, o0, none⟩)) f).run P w = .ok (.pointer (some ⟨B, o0 + off, none⟩)) w := by
  unfold Qad at hf
  cases hu : P.underlying s with
  | none => rw [hu] at hf; cases hf
  | some d =>
    rw [hu] at hf
    cases d <;> simp only [Bool.false_eq_true] at hf
    rename_i fs
    cases hfs : fs[f]? with
    | none => rw [hfs] at hf; cases hf
    | some fd =>
      rw [hfs] at hf
      simp only [Bool.and_eq_true, beq_iff_eq] at hf
      obtain ⟨h1, h2⟩ := hf
      subst h1
      cases hi : P.info? fd.type with
      | none => rw [hi] at h2; cases h2
      | some i =>
        rw [hi] at h2
        have hne : i.size ≠ 0 := by simpa using h2
        simp [Instr.fieldAt, fieldPlace, Instr.sureAddr, Sem.run_bind, run_underlying hu w, hfs, sizeOf, typeInfo, hi, hne, Y2]
theorem QaT {w : World} {t e : TypeId} {n c s : Nat} (hu : P.underlying t = some (.slice e)) (hs : (P.info? e).map (·.size) = some s) (X o0 : Nat) (k : IntKind) (i : Int) (h0 : 0 <= i) (h1 : i < n) :
    (Instr.indexAt t (.slice (some ⟨X, o0, none⟩) n c) (.int k i)).run P w = .ok (.pointer (some ⟨X, o0 + i.toNat * s, none⟩)) w := by
  cases hi : P.info? e with
  | none => rw [hi] at hs; cases hs
  | some q =>
    have hq : q.size = s := by simpa [hi] using hs
    simp [Instr.indexAt, asIntOf, Sem.run_bind, run_underlying hu w, h0, h1, sizeOf, typeInfo, hi, hq, Y2]
theorem QaU {w : World} {t e : TypeId} {n s : Nat} (hu : P.underlying t = some (.array n e)) (hs : (P.info? e).map (·.size) = some s) (B o0 : Nat) (k : IntKind) (i : Int) (h0 : 0 <= i) (h1 : i < n) :
    (Instr.indexAt t (.pointer (some ⟨B, o0, none⟩)) (.int k i)).run P w = .ok (.pointer (some ⟨B, o0 + i.toNat * s, none⟩)) w := by
  cases hi : P.info? e with
  | none => rw [hi] at hs; cases hs
  | some q =>
    have hq : q.size = s := by simpa [hi] using hs
    simp [Instr.indexAt, asIntOf, Instr.sureAddr, Sem.run_bind, run_underlying hu w, h0, h1, sizeOf, typeInfo, hi, hq, Y2]
end
section
variable {P : Program} {ops : Array Oper} {o : Oper} {N : Nat} {f : Fl} {w : World}
/-- What a new block of the call's Xq is. -/
def Qef (w : World) (cs : List Value) (u : Value) (W : World) : Prop := u = .pointer (some ⟨w.heap.size, 0, none⟩) /\ XZ W w.heap.size cs /\ Below w.heap.size w W /\ w.heap.size < W.heap.size
theorem Je (w : World) (t : TypeId) (V : Value) : Qef w V.cells.toList (.pointer (some ⟨w.heap.size, 0, none⟩)) (w.alloc (.cells V.cells t)) :=
  ⟨rfl, ⟨t, by rw [heap_alloc_new]⟩, (Below.refl _ _).alloc (Nat.le_refl _) _, (Array.getElem?_eq_some_iff.1 (heap_alloc_new w _)).1⟩
theorem Qcg {t : TypeId} {x : Operand} {V : Value} {cs : List Value} (ho : o.op = .box t x) (hx : ev f x = some V) (hc : V.cells.toList = cs) (hw : Qg ops o f = some true := by rfl) : DR P ops o N f w (Qef w cs) := fun a ha => by
  have hx := ha.ev hx
  subst hc
  exact Qe.of_wp (Qc ha hw) fun K hK => by
    unfold Oper.wp execOp
    simp only [ho, hx, Sem.run_bind, Instr.box, newVar, newRow, run_newObj_alloc, Sem.run_pure, Result.andThen_ok]
    exact hK _ _ (Je w t V)
theorem HO {t : TypeId} {Z : Value} {cs : List Value} (ho : o.op = .alloc t) (hz : (P.info? t).bind (·.zero) = some Z) (hc : Z.cells.toList = cs) (hw : Qg ops o f = some true := by rfl) : DR P ops o N f w (Qef w cs) := fun a ha => by
  subst hc
  exact Qe.of_wp (Qc ha hw) fun K hK => by
    cases hi : P.info? t with
    | none => rw [hi] at hz; cases hz
    | some i =>
      rw [hi] at hz
      have hz' : i.zero = some Z := hz
      have hti : (typeInfo t).run P w = .ok i w := by simp [typeInfo, hi]
      unfold Oper.wp execOp
      simp only [ho, Sem.run_bind, Instr.alloc, zeroValue, hti, hz', newVar, newRow, run_newObj_alloc, Sem.run_pure, Result.andThen_ok]
      exact hK _ _ (Je w t Z)
theorem Qcd {t : TypeId} {x : Operand} {k off B o0 o1 : Nat} (ho : o.op = .fieldAddr t x k) (hf : Qad P t k off = true) (hx : ev f x = some (.pointer (some ⟨B, o0, none⟩))) (h1 : o0 + off = o1) (hw : Qg ops o f = some true := by rfl) : DV P ops o N f w (.pointer (some ⟨B, o1, none⟩)) := fun a ha => by
  have hx := ha.ev hx
  exact Qe.pure (Qc ha hw) _ (by unfold execOp; simp only [ho, hx, Sem.run_bind, QaV hf, Result.andThen_ok, h1]; rfl) ⟨rfl, rfl⟩
theorem UN {t e : TypeId} {x y : Operand} {n s B o0 o1 : Nat} {K : IntKind} {i : Int} (ho : o.op = .indexAddr t x y) (hu : P.underlying t = some (.array n e)) (hs : X2 P e s = true) (hx : ev f x = some (.pointer (some ⟨B, o0, none⟩))) (hy : ev f y = some (.int K i)) (h0 : 0 <= i /\ i < n) (h1 : o0 + i.toNat * s = o1) (hw : Qg ops o f = some true := by rfl) : DV P ops o N f w (.pointer (some ⟨B, o1, none⟩)) := fun a ha => by
  have hx := ha.ev hx
  have hy := ha.ev hy
  exact Qe.pure (Qc ha hw) _ (by unfold execOp; simp only [ho, hx, hy, Sem.run_bind, QaU hu (Zf hs) B o0 K i h0.1 h0.2, Result.andThen_ok, h1]; rfl) ⟨rfl, rfl⟩
theorem Gm {t : TypeId} {x : Operand} {B o0 : Nat} {v : Value} (ho : o.op = .load t x) (ht : FS P t = true) (hx : ev f x = some (.pointer (some ⟨B, o0, none⟩))) (hc : w.cell? ⟨B, o0, none⟩ = some v) (hw : Qg ops o f = some true := by rfl) : DV P ops o N f w v := fun a ha => by
  obtain ⟨d, hu, hd, _⟩ := UL ht
  have hx := ha.ev hx
  have hagg : (isAgg t).run P w = .ok false w := by
    unfold isAgg
    rw [Sem.run_bind, run_underlying hu w]
    cases d <;> simp_all
  exact Qe.pure (Qc ha hw) v (by unfold execOp; simp [ho, hx, Sem.run_bind, Instr.loadAt, Instr.sureAddr, loadVar, hagg, hc]) ⟨rfl, rfl⟩
theorem HN {t : TypeId} {x : Operand} {B o0 n : Nat} {cs : List Value} (ho : o.op = .load t x) (ht : Qam P t n = true) (hx : ev f x = some (.pointer (some ⟨B, o0, none⟩))) (hc : w.rangeAt B o0 cs) (hn : cs.length = n) (hw : Qg ops o f = some true := by rfl) : DV P ops o N f w (.agg cs.toArray) := fun a ha => by
  obtain ⟨d, hu, hd, hi⟩ := UM ht
  have hx := ha.ev hx
  exact Qe.of_wp (Qc ha hw) fun K hK => wp_load_mid t x ho B o0 hx cs d hc hu hd (by rw [hi, hn]) (hK _ _ ⟨rfl, rfl⟩)
theorem VG {t : TypeId} {x y : Operand} {B o0 n : Nat} {V : Value} {vs cs cs' : List Value} (ho : o.op = .store t x y) (ht : X2 P t n = true) (hx : ev f x = some (.pointer (some ⟨B, o0, none⟩))) (hy : ev f y = some V) (hv : V.cells.toList = vs) (h1 : ∀ v ∈ vs, v.oneCell' = true)
    (hb : XZ w B cs) (hn : vs.length = n) (hl : o0 + n <= cs.length) (hr : cs.take o0 ++ (vs ++ cs.drop (o0 + n)) = cs') (hw : Qg ops o f = some true := by rfl) : DR P ops o N f w fun _ W => XZ W B cs' /\ VW B w W := fun a ha => by
  obtain ⟨i, hi, hs⟩ := YC ht
  have hx := ha.ev hx
  have hy := ha.ev hy
  exact Qe.of_wp (Qc ha hw) fun K hK => by
    obtain ⟨tt, hb'⟩ := hb
    have hst := run_storeCells_at P B o0 tt vs 0 _ w hb' (by simp; omega) h1
    simp only [Nat.add_zero] at hst
    have hcs : (cs.toArray.toList.take o0 ++ vs ++ cs.toArray.toList.drop (o0 + vs.length)) = cs' := by rw [<- hr, hn]; simp
    rw [hcs] at hst
    have hsz : V.cells.size = i.size := by rw [<- Array.length_toList, hv, hn, hs]
    unfold Oper.wp execOp
    simp only [ho, hx, hy, Instr.storeAt, Instr.sureAddr, storeVar, sizeOf, typeInfo, Sem.run_bind, Sem.run_pure, Result.andThen_ok, run_program, hi, hsz, hv, ne_eq, not_true_eq_false, if_false, hst]
    exact hK _ _ ⟨⟨tt, setRow_heap w B _ _ tt _ hb'⟩, Um w B _⟩
theorem Qcf {t : TypeId} {parts : Array (Nat × Operand)} {ps : List (Nat × Value)} {cs : List Value} (ho : o.op = .build t parts) (hp : (evl f (parts.toList.map (·.2))).map (fun vs => (parts.toList.map (·.1)).zip vs) = some ps) (hb : P.built t ps = some cs.toArray) (hw : Qg ops o f = some true := by rfl) : DV P ops o N f w (.agg cs.toArray) := fun a ha => by
  have key : (parts.map fun (i, x) => (i, a.eval x)).toList = ps := by
    cases hq : evl f (parts.toList.map (·.2)) with
    | none => rw [hq] at hp; cases hp
    | some vs =>
      rw [hq] at hp
      have h1 := ha.evl hq
      simp only [Option.map_some, Option.some.injEq] at hp
      rw [<- hp, <- h1, Array.toList_map]
      clear hp h1 hq ho
      induction parts.toList with
      | nil => rfl
      | cons p l ih => simp only [List.map_cons, List.zip_cons_cons, List.cons.injEq, true_and]; exact ih
  refine Qe.pure (Qc ha hw) _ ?_ ⟨rfl, rfl⟩
  unfold execOp
  simp only [ho, Sem.run_bind, run_build w t _ _ (by rw [key]; exact hb), Result.andThen_ok]
  rfl
end
/-- The call returns, with this, and leaves the memory that was there. -/
def CV (P : Program) (F : FuncId) (args : List Value) (w : World) (R : Value -> World -> Prop) : Prop := Calls P F args.toArray w fun e w' => ∃ v, e = .returned v /\ R v w' /\ Below w.heap.size w w'
theorem CV.mono {P : Program} {F : FuncId} {args : List Value} {w : World} {R R' : Value -> World -> Prop} (h : CV P F args w R) (hr : ∀ v w', Below w.heap.size w w' -> R v w' -> R' v w') : CV P F args w R' :=
  Calls.mono h fun e w' ⟨v, he, hR, hb⟩ => ⟨v, he, hr v w' hb hR, hb⟩
/-- The end of a call. -/
def Qff (P : Program) (fn : Func) (R : Value -> World -> Prop) (w0 : World) (a : Act) (w : World) : Prop := a.defers = [] /\ ∃ v, (results fn a.tmps).run P w = .ok v w /\ R v w /\ Below w0.heap.size w0 w
/-- The call's Xq blocks lie in the heap. -/
def LL (L : List Nat) (w : World) : Prop := ∀ x ∈ L, x < w.heap.size
theorem LL.nil (w : World) : LL [] w := fun x h => by cases h
theorem LL.below {L : List Nat} {w w' : World} (h : LL L w) (hb : Below w.heap.size w w') : LL L w' := fun x hx => Nat.lt_of_lt_of_le (h x hx) hb.size
theorem LL.only {L : List Nat} {w w' : World} (h : LL L w) {B : Nat} (ho : VW B w w') : LL L w' := fun x hx => by rw [ho.size]; exact h x hx
section
variable {P : Program} {ops : Array Oper} {o : Oper} {N : Nat} {f : Fl} {w : World} {R : Value -> World -> Prop}
theorem F9 {c : Operand} {F : FuncId} {fn : Func} {xs : List Operand} {ts : Array TypeId} {vs cs : List Value} (ho : o.op = .call { callee := .value c, args := xs.toArray, argTypes := ts }) (hcv : ev f c = some (.func (.func F) #[] cs.toArray)) (hf : P.funcs[F]? = some fn) (hn : (fn.name == "runtime.NumGoroutine") = false) (hb : fn.body.isNone = false)
    (hx : evl f xs = some vs) (hc : CV P F (vs ++ cs) w R) (hw : Qg ops o f = some true := by rfl) : DR P ops o N f w fun v W => R v W /\ Below w.heap.size w W :=
  QdU ho hcv hf hn hb hx (by rw [List.append_toArray]; exact Calls.mono hc fun e w' ⟨v, he, h⟩ => ⟨v, he, h⟩) hw
/-- One result. -/
inductive RV (P : Program) (f : Fl) (w : World) : ResultVar -> Value -> Prop
  | tmp {t : Tmp} {v : Value} (h : Zw f t = some v) : RV P f w (.tmp t) v
  | one {t ty B o0 : Nat} {v : Value} (h : Zw f t = some (.pointer (some ⟨B, o0, none⟩))) (ht : FS P ty = true) (hc : w.cell? ⟨B, o0, none⟩ = some v) : RV P f w (.cell t ty) v
  | agg {t ty B o0 n : Nat} {cs : List Value} (h : Zw f t = some (.pointer (some ⟨B, o0, none⟩))) (ht : Qam P ty n = true) (hc : w.rangeAt B o0 cs) (hn : cs.length = n) : RV P f w (.cell t ty) (.agg cs.toArray)
def KS (tmps : Array Value) : ResultVar -> Sem Value
  | .tmp t => pure (tmps.getD t undef)
  | .cell p ty => do loadVar ty (<- asAddr (tmps.getD p undef))
theorem FI (fn : Func) (tmps : Array Value) : results fn tmps = (do let vs <- fn.results.mapM (KS tmps); pure (if h : vs.size = 1 then vs[0] else .tuple vs)) := rfl
theorem RV.run {r : ResultVar} {v : Value} (h : RV P f w r v) {a : Act} (ha : Fr N a f) : (KS a.tmps r).run P w = .ok v w := by
  unfold KS
  cases h with
  | tmp h => simp only [KM ha h]; rfl
  | @one t ty B o0 v h ht hc =>
    obtain ⟨d, hu, hd, _⟩ := UL ht
    have hagg : (isAgg ty).run P w = .ok false w := by
      unfold isAgg
      rw [Sem.run_bind, run_underlying hu w]
      cases d <;> simp_all
    simp [KM ha h, asAddr, Sem.run_bind, loadVar, hagg, hc]
  | agg h ht hc hn =>
    obtain ⟨d, hu, hd, hi⟩ := UM ht
    simp only [KM ha h, asAddr, Sem.run_bind, Sem.run_pure, Result.andThen_ok]
    exact run_loadVar_mid w _ _ _ _ d hc hu hd (by rw [hi, hn])
variable {fn : Func} {Rr : Ending -> World -> Prop}
end
end Go.Proofs.YtbiboamaigedjaaDoor
namespace Go.Proofs.YtbiboamaigedjaaDoor
open Go.RowKit
set_option linter.unusedVariables false
set_option linter.constructorNameAsVariable false
set_option linter.unusedSimpArgs false

/-- Where the Xq blocks lie, and the data that is read. -/
structure Qs where
  b : Nat -> Nat
  d : Nat -> Nat × Nat
/-- A value by symbols: p an Xq block, x a cell of it at an index, q data that is read, c a test, w what is there just if a test holds. -/
inductive SV where
  | v (x : Value)
  | i (K : IntKind) (n : Int)
  | lit (K : IntKind) (c : Nat)
  | c (p : Prop) (d : Decidable p)
  | l (b : Bool)
  | s (x : ByteArray)
  | p (k o : Nat)
  | x (k o s : Nat) (n : Int)
  | o (a : Option Addr) (len cap : Nat)
  | q (j o : Nat)
  | y (k o len cap : Nat)
  | z (j o len cap : Nat)
  | r (j o s : Nat) (n : Int)
  | t (l : List SV)
  | g (l : List SV)
  | a (K : IntKind) (zs : List Int) (n : Nat)
  | f (F : FuncId) (l : List SV)
  | w (p : Prop) (d : Decidable p) (x : SV)
  | u
/-- The cells that a value takes among others: an array of numbers stands as one. -/
def SV.cs (v : Value) : SV -> List Value
  | .a K zs _ => zs.map (Value.int K)
  | _ => [v]
mutual
def SV.den (ρ : Qs) : SV -> Value
  | .v x => x
  | .i K n => .int K n
  | .lit K c => .int K (c : Int)
  | .c p d => .bool (@decide p d)
  | .l b => .bool b
  | .s x => .string x
  | .p k o => .pointer (some ⟨ρ.b k, o, none⟩)
  | .x k o s n => .pointer (some ⟨ρ.b k, o + n.toNat * s, none⟩)
  | .o a l c => .slice a l c
  | .q j o => .pointer (some ⟨(ρ.d j).1, (ρ.d j).2 + o, none⟩)
  | .y k o l c => .slice (some ⟨ρ.b k, o, none⟩) l c
  | .z j o l c => .slice (some ⟨(ρ.d j).1, (ρ.d j).2 + o, none⟩) l c
  | .r j o s n => .pointer (some ⟨(ρ.d j).1, (ρ.d j).2 + (o + n.toNat * s), none⟩)
  | .t l => .tuple (Qr ρ l).toArray
  | .g l => .agg (Qd ρ l).toArray
  | .a K zs _ => .agg (zs.map (Value.int K)).toArray
  | .f F l => .func (.func F) #[] (Qr ρ l).toArray
  | .w p d x => match d with
    | .isTrue _ => x.den ρ
    | .isFalse _ => undef
  | .u => undef
def Qr (ρ : Qs) : List SV -> List Value
  | [] => []
  | x :: l => x.den ρ :: Qr ρ l
def Qd (ρ : Qs) : List SV -> List Value
  | [] => []
  | x :: l => x.cs (x.den ρ) ++ Qd ρ l
end
/-- So many cells it takes. -/
def SV.wd : SV -> Nat
  | .a _ _ n => n
  | _ => 1
def SV.ok : SV -> Prop
  | .a _ zs n => zs.length = n
  | _ => True
def XW : List SV -> Prop
  | [] => True
  | x :: l => x.ok /\ XW l
def XU : List SV -> Nat
  | [] => 0
  | x :: l => x.wd + XU l
mutual
/-- It names Xq blocks and data below n alone. -/
def SV.wf (n : Nat) : SV -> Bool
  | .p k _ => Nat.blt k n
  | .x k _ _ _ => Nat.blt k n
  | .o _ _ _ => true
  | .q j _ => Nat.blt j n
  | .y k _ _ _ => Nat.blt k n
  | .z j _ _ _ => Nat.blt j n
  | .r j _ _ _ => Nat.blt j n
  | .t l => Zt n l
  | .g l => Zt n l
  | .f _ l => Zt n l
  | .w _ _ x => x.wf n
  | .v _ => true
  | .i _ _ => true
  | .lit _ _ => true
  | .c _ _ => true
  | .l _ => true
  | .s _ => true
  | .a _ _ _ => true
  | .u => true
def Zt (n : Nat) : List SV -> Bool
  | [] => true
  | x :: l => match x.wf n with
    | true => Zt n l
    | false => false
end
theorem Gp (ρ : Qs) : ∀ l : List SV, Qr ρ l = l.map (SV.den ρ)
  | [] => rfl
  | x :: l => by rw [Qr, Gp ρ l]; rfl
theorem Jz (ρ : Qs) (l l' : List SV) : Qr ρ (l ++ l') = Qr ρ l ++ Qr ρ l' := by simp [Gp]
theorem Xp (ρ : Qs) : ∀ l l' : List SV, Qd ρ (l ++ l') = Qd ρ l ++ Qd ρ l'
  | [], l' => by simp only [List.nil_append, Qd]
  | x :: l, l' => by simp only [List.cons_append, Qd, Xp ρ l l', List.append_assoc]
theorem JC {x : SV} (h : x.ok) (v : Value) : (x.cs v).length = x.wd := by
  cases x <;> simp_all [SV.cs, SV.ok, SV.wd]
theorem QC (ρ : Qs) : ∀ {l : List SV}, XW l -> (Qd ρ l).length = XU l
  | [], _ => by simp only [Qd, XU, List.length_nil]
  | x :: l, h => by simp only [Qd, XU, List.length_append, JC h.1, QC ρ h.2]
theorem Xr : ∀ {l l' : List SV}, XW (l ++ l') ↔ XW l /\ XW l'
  | [], l' => by simp [XW]
  | x :: l, l' => by simp only [List.cons_append, XW, Xr (l := l) (l' := l'), and_assoc]
theorem HQ {ρ : Qs} {l : List SV} {k : Nat} {x : SV} (h : l[k]? = some x) : (Qr ρ l)[k]? = some (x.den ρ) := by rw [Gp, List.getElem?_map, h]; rfl
/-- The same below n. -/
def Qs.upto (n : Nat) (ρ ρ' : Qs) : Prop := ∀ k, k < n -> ρ.b k = ρ'.b k /\ ρ.d k = ρ'.d k
theorem Qw {k n : Nat} (h : Nat.blt k n = true) : k < n := Nat.lt_of_lt_of_le (Nat.lt_succ_self k) (by simpa [Nat.blt] using h)
mutual
theorem SV.den_upto {n : Nat} {ρ ρ' : Qs} (h : Qs.upto n ρ ρ') : ∀ x : SV, x.wf n = true -> x.den ρ = x.den ρ'
  | .v x, _ => by simp only [SV.den]
  | .i K n, _ => by simp only [SV.den]
  | .lit K c, _ => by simp only [SV.den]
  | .c p d, _ => by simp only [SV.den]
  | .l b, _ => by simp only [SV.den]
  | .s x, _ => by simp only [SV.den]
  | .p k o, hw => by have := (h k (Qw (by simpa [SV.wf] using hw))).1; simp only [SV.den, this]
  | .o _ _ _, _ => by simp only [SV.den]
  | .x k o s n, hw => by have := (h k (Qw (by simpa [SV.wf] using hw))).1; simp only [SV.den, this]
  | .q j o, hw => by have := (h j (Qw (by simpa [SV.wf] using hw))).2; simp only [SV.den, this]
  | .y k _ _ _, hw => by have := (h k (Qw (by simpa [SV.wf] using hw))).1; simp only [SV.den, this]
  | .z j _ _ _, hw => by have := (h j (Qw (by simpa [SV.wf] using hw))).2; simp only [SV.den, this]
  | .r j _ _ _, hw => by have := (h j (Qw (by simpa [SV.wf] using hw))).2; simp only [SV.den, this]
  | .t l, hw => by simp only [SV.den, Y0 h l (by simpa [SV.wf] using hw)]
  | .g l, hw => by simp only [SV.den, QW h l (by simpa [SV.wf] using hw)]
  | .a K zs _, _ => by simp only [SV.den]
  | .f F l, hw => by simp only [SV.den, Y0 h l (by simpa [SV.wf] using hw)]
  | .w p d x, hw => by
    have := SV.den_upto h x (by simpa [SV.wf] using hw)
    cases d with
    | isTrue hp => simp only [SV.den, this]
    | isFalse hp => simp only [SV.den]
  | .u, _ => by simp only [SV.den]
theorem Y0 {n : Nat} {ρ ρ' : Qs} (h : Qs.upto n ρ ρ') : ∀ l : List SV, Zt n l = true -> Qr ρ l = Qr ρ' l
  | [], _ => by simp only [Qr]
  | x :: l, hw => by
    unfold Zt at hw
    split at hw
    . rename_i hx
      simp only [Qr, SV.den_upto h x hx, Y0 h l hw]
    . cases hw
theorem QW {n : Nat} {ρ ρ' : Qs} (h : Qs.upto n ρ ρ') : ∀ l : List SV, Zt n l = true -> Qd ρ l = Qd ρ' l
  | [], _ => by simp only [Qd]
  | x :: l, hw => by
    unfold Zt at hw
    split at hw
    . rename_i hx
      simp only [Qd, SV.den_upto h x hx, QW h l hw]
    . cases hw
end
abbrev SF := List (Nat × SV)
def lk : SF -> Nat -> Option SV
  | [], _ => none
  | (k, v) :: l, t => match Nat.beq k t with
    | true => some v
    | false => lk l t
def Qo (ρ : Qs) : SF -> Fl
  | [] => []
  | (k, v) :: l => (k, v.den ρ) :: Qo ρ l
theorem XD {ρ : Qs} : ∀ {f : SF} {t : Nat} {v : SV}, lk f t = some v -> Zw (Qo ρ f) t = some (v.den ρ)
  | [], _, _, h => by cases h
  | (k, u) :: l, t, v, h => by
    unfold lk at h
    unfold Qo Zw
    cases hk : Nat.beq k t with
    | true => rw [hk] at h; cases h; rfl
    | false => rw [hk] at h; exact XD h
def Dy (n : Nat) : SF -> Bool
  | [] => true
  | (_, v) :: l => match v.wf n with
    | true => Dy n l
    | false => false
theorem XQ {n : Nat} {ρ ρ' : Qs} (h : Qs.upto n ρ ρ') : ∀ f : SF, Dy n f = true -> Qo ρ f = Qo ρ' f
  | [], _ => rfl
  | (k, v) :: l, hw => by
    unfold Dy at hw
    split at hw
    . rename_i hx
      simp only [Qo, SV.den_upto h v hx, XQ h l hw]
    . cases hw
/-- What an Xq block holds. -/
abbrev Cl := List SV
abbrev SM := List (Nat × Cl)
abbrev SD := List (Nat × List SV)
def JW (n : Nat) : SM -> Bool
  | [] => true
  | (k, c) :: l => match Nat.blt k n with
    | true => match Zt n c with
      | true => JW n l
      | false => false
    | false => false
def JM (n : Nat) : SD -> Bool
  | [] => true
  | (k, c) :: l => match Nat.blt k n with
    | true => match Zt n c with
      | true => JM n l
      | false => false
    | false => false
theorem UX {n : Nat} : ∀ {m : SM}, JW n m = true -> ∀ x ∈ m, x.1 < n /\ Zt n x.2 = true
  | [], _, x, hx => by cases hx
  | (k, c) :: l, hw, x, hx => by
    unfold JW at hw
    split at hw
    . rename_i h1
      split at hw
      . rename_i h2
        cases hx with
        | head => exact ⟨Qw h1, h2⟩
        | tail _ hx => exact UX hw x hx
      . cases hw
    . cases hw
theorem KD {n : Nat} : ∀ {m : SD}, JM n m = true -> ∀ x ∈ m, x.1 < n /\ Zt n x.2 = true
  | [], _, x, hx => by cases hx
  | (k, c) :: l, hw, x, hx => by
    unfold JM at hw
    split at hw
    . rename_i h1
      split at hw
      . rename_i h2
        cases hx with
        | head => exact ⟨Qw h1, h2⟩
        | tail _ hx => exact KD hw x hx
      . cases hw
    . cases hw
/-- The call's Xq blocks, and those that were its caller's. -/
def Xq (ρ : Qs) (m : SM) (L0 : List Nat) : List Nat := m.map (fun x => ρ.b x.1) ++ L0
/-- What the call may have done to the world: nothing to what lay off these blocks. -/
structure Dr (L : List Nat) (w w' : World) : Prop where
  size : w.heap.size <= w'.heap.size
  block : ∀ k, k ∉ L -> k < w.heap.size -> w'.heap[k]? = w.heap[k]?
theorem Dr.refl (L : List Nat) (w : World) : Dr L w w := ⟨Nat.le_refl _, fun _ _ _ => rfl⟩
theorem Dr.of_below {L : List Nat} {w w' : World} (h : Below w.heap.size w w') : Dr L w w' := ⟨h.size, fun k _ hk => h.block k hk⟩
theorem Dr.of_only {L : List Nat} {B : Nat} {w w' : World} (h : VW B w w') (hB : B ∈ L) : Dr L w w' := ⟨by rw [h.size]; exact Nat.le_refl _, fun k hk _ => h.block k (fun e => hk (e ▸ hB))⟩
theorem Dr.agree {L : List Nat} {w w' : World} (h : Dr L w w') : VX L w w' := ⟨h.size, fun k hk h' => h.block k hk h'⟩
/-- A fact on memory off the Xq blocks, that outlasts all that the call does. -/
structure Qq where
  h : List Nat -> World -> Prop
  s : ∀ {L L' w w'}, h L w -> Dr L w w' -> (∀ x ∈ L', x ∈ L \/ w.heap.size <= x) -> h L' w'
def Hs : List Qq -> List Nat -> World -> Prop
  | [], _, _ => True
  | φ :: l, L, w => φ.h L w /\ Hs l L w
theorem Hs.stp {L L' : List Nat} {w w' : World} (hs : Dr L w w') (hl : ∀ x ∈ L', x ∈ L \/ w.heap.size <= x) : ∀ {Γ : List Qq}, Hs Γ L w -> Hs Γ L' w'
  | [], _ => trivial
  | φ :: l, h => ⟨φ.s h.1 hs hl, Hs.stp hs hl h.2⟩
theorem Hs.get {L : List Nat} {w : World} {φ : Qq} : ∀ {Γ : List Qq} {i : Nat}, Hs Γ L w -> Γ[i]? = some φ -> φ.h L w
  | [], i, _, h => by simp at h
  | ψ :: l, 0, h, hi => by simp at hi; subst hi; exact h.1
  | ψ :: l, i + 1, h, hi => Hs.get (Γ := l) (i := i) h.2 (by simpa using hi)
theorem Hs.app {L : List Nat} {w : World} : ∀ {Γ Δ : List Qq}, Hs Γ L w -> Hs Δ L w -> Hs (Γ ++ Δ) L w
  | [], _, _, h => h
  | φ :: l, Δ, h, h' => ⟨h.1, Hs.app h.2 h'⟩
theorem GF.stp {s : Nat} {L L' : List Nat} {w w' : World} {v : Value} {rs : List (List Value)} (h : GF s L w v rs) (hs : Dr L w w') (hl : ∀ x ∈ L', x ∈ L \/ w.heap.size <= x) : GF s L' w' v rs := by
  obtain ⟨h0, hr, a, cap, h1, h2, h3, h4, h5⟩ := h.agree hs.agree
  obtain ⟨_, _, a', cap', h1', _, _, _, h5'⟩ := h
  refine ⟨h0, hr, a, cap, h1, h2, h3, h4, fun hn => ?_⟩
  obtain ⟨X, o, e, hX, hc⟩ := h5 hn
  obtain ⟨X', o', e', hX', hc'⟩ := h5' hn
  refine ⟨X, o, e, fun hx => ?_, hc⟩
  have hlen : 0 < rs.flatten.length := by
    rw [Jr hr]
    exact Nat.mul_pos (List.length_pos_iff.2 hn) h0
  have hlt := Zc hc' hlen
  have : X = X' := by rw [h1] at h1'; simp only [Value.slice.injEq] at h1'; rw [e, e'] at h1'; simp at h1'; exact h1'.1.1
  rcases hl X hx with h | h
  . exact hX h
  . omega
/-- A slice of rows. -/
def fR (s : Nat) (v : Value) (rs : List (List Value)) : Qq := ⟨fun L w => GF s L w v rs, GF.stp⟩
/-- What holds of the world, of what the symbols say. -/
structure WM (ρ : Qs) (L0 : List Nat) (w0 : World) (m : SM) (d : SD) (n : Nat) (Γ : List Qq) (w : World) : Prop where
  mem : ∀ x ∈ m, XZ w (ρ.b x.1) (Qd ρ x.2) /\ XW x.2
  key : ∀ x ∈ m, x.1 < n
  nod : (m.map fun x => ρ.b x.1).Nodup
  low : ∀ x ∈ m, w0.heap.size <= ρ.b x.1
  bel : Below w0.heap.size w0 w
  dat : ∀ x ∈ d, (ρ.d x.1).1 ∉ Xq ρ m L0 /\ w.rangeAt (ρ.d x.1).1 (ρ.d x.1).2 (Qd ρ x.2) /\ XW x.2 /\ 0 < XU x.2
  dky : ∀ x ∈ d, x.1 < n
  ll : LL L0 w
  hs : Hs Γ (Xq ρ m L0) w
theorem WM.lt {ρ : Qs} {L0 : List Nat} {w0 : World} {m : SM} {d : SD} {n : Nat} {Γ : List Qq} {w : World} (h : WM ρ L0 w0 m d n Γ w) : LL (Xq ρ m L0) w := fun x hx => by
  unfold Xq at hx
  rcases List.mem_append.1 hx with h1 | h1
  . obtain ⟨y, hy, rfl⟩ := List.mem_map.1 h1
    exact (h.mem y hy).1.lt
  . exact h.ll x h1
/-- A step that leaves the Xq blocks as they are. -/
theorem WM.below {ρ : Qs} {L0 : List Nat} {w0 : World} {m : SM} {d : SD} {n : Nat} {Γ : List Qq} {w w' : World} (h : WM ρ L0 w0 m d n Γ w) (hb : Below w.heap.size w w') : WM ρ L0 w0 m d n Γ w' :=
  ⟨fun x hx => ⟨(h.mem x hx).1.below hb, (h.mem x hx).2⟩, h.key, h.nod, h.low, Zk h.bel hb, fun x hx => ⟨(h.dat x hx).1, Zn (h.dat x hx).2.1 (VX.of_below (L := Xq ρ m L0) hb) (h.dat x hx).1, (h.dat x hx).2.2⟩, h.dky, h.ll.below hb, h.hs.stp (.of_below hb) fun x hx => .inl hx⟩
def QaO {α : Type} (k : Nat) (c : Cl) : SM -> (SM -> α) -> α
  | [], K => K []
  | (j, x) :: l, K => match Nat.beq j k with
    | true => K ((j, c) :: l)
    | false => QaO k c l fun l' => K ((j, x) :: l')
def Vb (k : Nat) (c : Cl) : SM -> SM
  | [] => []
  | (j, x) :: l => match Nat.beq j k with
    | true => (j, c) :: l
    | false => (j, x) :: Vb k c l
theorem KO {α : Type} {k : Nat} {c : Cl} : ∀ {m : SM} {K : SM -> α}, QaO k c m K = K (Vb k c m)
  | [], K => rfl
  | (j, x) :: l, K => by
    unfold QaO Vb
    cases hk : Nat.beq j k with
    | true => rfl
    | false => exact KO
def Xm : SM -> Nat -> Option Cl
  | [], _ => none
  | (j, x) :: l, k => match Nat.beq j k with
    | true => some x
    | false => Xm l k
theorem XE : ∀ {m : SM} {k : Nat} {c : Cl}, Xm m k = some c -> (k, c) ∈ m
  | [], _, _, h => by cases h
  | (j, x) :: l, k, c, h => by
    unfold Xm at h
    cases hk : Nat.beq j k with
    | true => rw [hk] at h; cases h; have := Nat.eq_of_beq_eq_true hk; subst this; exact .head _
    | false => rw [hk] at h; exact .tail _ (XE h)
theorem G7 {k : Nat} {c : Cl} : ∀ m : SM, (Vb k c m).map Prod.fst = m.map Prod.fst
  | [] => rfl
  | (j, x) :: l => by
    unfold Vb
    cases hk : Nat.beq j k with
    | true => rfl
    | false => simp only [List.map_cons, G7 l]
theorem KV {k : Nat} {c : Cl} {ρ : Qs} (m : SM) : (Vb k c m).map (fun x => ρ.b x.1) = m.map fun x => ρ.b x.1 := by
  have h := congrArg (List.map ρ.b) (G7 (k := k) (c := c) m)
  rw [List.map_map, List.map_map] at h
  exact h
theorem Ze {k : Nat} {c : Cl} : ∀ {m : SM} {x : Nat × Cl}, (m.map Prod.fst).Nodup -> x ∈ Vb k c m -> (x.1 = k /\ x.2 = c) \/ (x ∈ m /\ x.1 ≠ k)
  | [], x, _, h => by cases h
  | (j, y) :: l, x, hn, h => by
    unfold Vb at h
    simp only [List.map_cons, List.nodup_cons] at hn
    cases hk : Nat.beq j k with
    | true =>
      rw [hk] at h
      have e := Nat.eq_of_beq_eq_true hk
      subst e
      cases h with
      | head => exact .inl ⟨rfl, rfl⟩
      | tail _ h => exact .inr ⟨.tail _ h, fun e => hn.1 (e ▸ List.mem_map_of_mem h)⟩
    | false =>
      rw [hk] at h
      cases h with
      | head => exact .inr ⟨.head _, Nat.ne_of_beq_eq_false hk⟩
      | tail _ h =>
        rcases Ze hn.2 h with h | h
        . exact .inl h
        . exact .inr ⟨.tail _ h.1, h.2⟩
theorem Xi {ρ : Qs} {m : SM} (h : (m.map fun x => ρ.b x.1).Nodup) : (m.map Prod.fst).Nodup := by
  have : (m.map fun x => ρ.b x.1) = (m.map Prod.fst).map ρ.b := by simp
  rw [this] at h
  exact (List.pairwise_map.1 h).imp fun h e => h (by rw [e])
theorem Vz {ρ : Qs} : ∀ {m : SM}, (m.map fun x => ρ.b x.1).Nodup -> ∀ {x y}, x ∈ m -> y ∈ m -> x.1 ≠ y.1 -> ρ.b x.1 ≠ ρ.b y.1
  | [], _, x, y, hx, _, _ => by cases hx
  | z :: l, h, x, y, hx, hy, hn => by
    simp only [List.map_cons, List.nodup_cons] at h
    cases hx with
    | head =>
      cases hy with
      | head => exact absurd rfl hn
      | tail _ hy => exact fun e => h.1 (e ▸ List.mem_map_of_mem (f := fun x => ρ.b x.1) hy)
    | tail _ hx =>
      cases hy with
      | head => exact fun e => h.1 (e ▸ List.mem_map_of_mem (f := fun x => ρ.b x.1) hx)
      | tail _ hy => exact Vz h.2 hx hy hn
/-- An Xq block is written. -/
theorem WM.put {ρ : Qs} {L0 : List Nat} {w0 : World} {m : SM} {d : SD} {n : Nat} {Γ : List Qq} {w w' : World} (h : WM ρ L0 w0 m d n Γ w) {k : Nat} {c c' : Cl} (hk : Xm m k = some c) (hb : XZ w' (ρ.b k) (Qd ρ c')) (hc : XW c') (ho : VW (ρ.b k) w w') : WM ρ L0 w0 (Vb k c' m) d n Γ w' := by
  have hkm := XE hk
  have hown : Xq ρ (Vb k c' m) L0 = Xq ρ m L0 := by unfold Xq; rw [KV]
  have hB : ρ.b k ∈ Xq ρ m L0 := List.mem_append_left _ (List.mem_map_of_mem (f := fun x : Nat × Cl => ρ.b x.1) hkm)
  refine ⟨fun x hx => ?_, fun x hx => ?_, by rw [KV]; exact h.nod, fun x hx => ?_, ho.below h.bel (h.low _ hkm), fun x hx => ?_, h.dky, h.ll.only ho, ?_⟩
  . rcases Ze (Xi h.nod) hx with ⟨e1, e2⟩ | ⟨h1, h2⟩
    . rw [e1, e2]; exact ⟨hb, hc⟩
    . exact ⟨(h.mem x h1).1.other ho (Vz h.nod h1 hkm h2), (h.mem x h1).2⟩
  . rcases Ze (Xi h.nod) hx with ⟨e1, e2⟩ | ⟨h1, h2⟩
    . rw [e1]; exact h.key _ hkm
    . exact h.key x h1
  . rcases Ze (Xi h.nod) hx with ⟨e1, e2⟩ | ⟨h1, h2⟩
    . rw [e1]; exact h.low _ hkm
    . exact h.low x h1
  . rw [hown]
    exact ⟨(h.dat x hx).1, Zn (h.dat x hx).2.1 (VX.of_only ho hB) (h.dat x hx).1, (h.dat x hx).2.2⟩
  . rw [hown]
    exact h.hs.stp (.of_only ho hB) fun x hx => .inl hx
def Qs.setb (ρ : Qs) (n B : Nat) : Qs := ⟨fun k => if k = n then B else ρ.b k, ρ.d⟩
def Qs.setd (ρ : Qs) (n : Nat) (B : Nat × Nat) : Qs := ⟨ρ.b, fun k => if k = n then B else ρ.d k⟩
theorem Qs.setb_upto (ρ : Qs) (n B : Nat) : Qs.upto n ρ (ρ.setb n B) := fun k hk => ⟨by simp only [Qs.setb]; rw [if_neg (by omega)], rfl⟩
theorem Qs.setd_upto (ρ : Qs) (n : Nat) (B : Nat × Nat) : Qs.upto n ρ (ρ.setd n B) := fun k hk => ⟨rfl, by simp only [Qs.setd]; rw [if_neg (by omega)]⟩
theorem Qs.setb_at (ρ : Qs) (n B : Nat) : (ρ.setb n B).b n = B := by simp [Qs.setb]
theorem Qs.setd_at (ρ : Qs) (n : Nat) (B : Nat × Nat) : (ρ.setd n B).d n = B := by simp [Qs.setd]
theorem Hq {n : Nat} {ρ ρ' : Qs} (h : Qs.upto n ρ ρ') {m : SM} (hk : ∀ x ∈ m, x.1 < n) : (m.map fun x => ρ'.b x.1) = m.map fun x => ρ.b x.1 := List.map_congr_left fun x hx => ((h x.1 (hk x hx)).1).symm
/-- Another environment that is the same below n. -/
theorem WM.upto {ρ ρ' : Qs} {L0 : List Nat} {w0 : World} {m : SM} {d : SD} {n : Nat} {Γ : List Qq} {w : World} (h : WM ρ L0 w0 m d n Γ w) (he : Qs.upto n ρ ρ') (hm : JW n m = true) (hd : JM n d = true) : WM ρ' L0 w0 m d n Γ w := by
  have e := Hq he h.key
  have hown : Xq ρ' m L0 = Xq ρ m L0 := by unfold Xq; rw [e]
  refine ⟨fun x hx => ?_, h.key, by rw [e]; exact h.nod, fun x hx => ?_, h.bel, fun x hx => ?_, h.dky, h.ll, by rw [hown]; exact h.hs⟩
  . rw [<- (he x.1 (h.key x hx)).1, <- QW he x.2 (UX hm x hx).2]; exact h.mem x hx
  . rw [<- (he x.1 (h.key x hx)).1]; exact h.low x hx
  . rw [hown, <- (he x.1 (h.dky x hx)).2, <- QW he x.2 (KD hd x hx).2]; exact h.dat x hx
/-- A new block. -/
theorem WM.new {ρ : Qs} {L0 : List Nat} {w0 : World} {m : SM} {d : SD} {n : Nat} {Γ : List Qq} {w w' : World} (h : WM ρ L0 w0 m d n Γ w) (hm : JW n m = true) (hd : JM n d = true) {c : Cl} (hc : XW c) (hcw : Zt n c = true) {B : Nat} (hB : w.heap.size <= B) (hb : Below w.heap.size w w') (hk : XZ w' B (Qd ρ c)) :
    WM (ρ.setb n B) L0 w0 ((n, c) :: m) d (n + 1) Γ w' := by
  have h1 := (h.below hb).upto (Qs.setb_upto ρ n B) hm hd
  have hlt := h.lt
  have hown : Xq (ρ.setb n B) ((n, c) :: m) L0 = B :: Xq (ρ.setb n B) m L0 := by unfold Xq; simp [Qs.setb_at]
  have hown2 : Xq (ρ.setb n B) m L0 = Xq ρ m L0 := by unfold Xq; rw [Hq (Qs.setb_upto ρ n B) h.key]
  have hbs := h.bel.size
  refine ⟨fun x hx => ?_, fun x hx => ?_, ?_, fun x hx => ?_, h1.bel, fun x hx => ?_, fun x hx => Nat.lt_succ_of_lt (h.dky x hx), h1.ll, ?_⟩
  . cases hx with
    | head => rw [Qs.setb_at, <- QW (Qs.setb_upto ρ n B) c hcw]; exact ⟨hk, hc⟩
    | tail _ hx => exact h1.mem x hx
  . cases hx with
    | head => exact Nat.lt_succ_self _
    | tail _ hx => exact Nat.lt_succ_of_lt (h.key x hx)
  . rw [List.map_cons, List.nodup_cons]
    refine ⟨fun hx => ?_, h1.nod⟩
    rw [Qs.setb_at] at hx
    obtain ⟨y, hy, he⟩ := List.mem_map.1 hx
    rw [<- ((Qs.setb_upto ρ n B) y.1 (h.key y hy)).1] at he
    have := (h.mem y hy).1.lt
    omega
  . cases hx with
    | head => rw [Qs.setb_at]; omega
    | tail _ hx => exact h1.low x hx
  . obtain ⟨h2, h3, h4, h4'⟩ := h1.dat x hx
    refine ⟨?_, h3, h4, h4'⟩
    rw [hown]
    simp only [List.mem_cons, not_or]
    refine ⟨?_, h2⟩
    obtain ⟨_, h5, _⟩ := h.dat x hx
    have := Zc h5 (by rw [QC _ h4]; exact h4')
    rw [<- ((Qs.setb_upto ρ n B) x.1 (h.dky x hx)).2]
    omega
  . rw [hown, hown2]
    refine h.hs.stp (.of_below hb) fun x hx => ?_
    cases hx with
    | head => exact .inr hB
    | tail _ hx => exact .inl hx
/-- What one reads. -/
theorem WM.cell {ρ : Qs} {L0 : List Nat} {w0 : World} {m : SM} {d : SD} {n : Nat} {Γ : List Qq} {w : World} (h : WM ρ L0 w0 m d n Γ w) {k : Nat} {c : Cl} (hk : Xm m k = some c) : XZ w (ρ.b k) (Qd ρ c) /\ XW c := h.mem _ (XE hk)
theorem WM.f {ρ : Qs} {L0 : List Nat} {w0 : World} {m : SM} {d : SD} {n : Nat} {Γ : List Qq} {w : World} (h : WM ρ L0 w0 m d n Γ w) (i : Nat) {φ : Qq} (hi : Γ[i]? = some φ := by rfl) : φ.h (Xq ρ m L0) w := h.hs.get hi
end Go.Proofs.YtbiboamaigedjaaDoor
namespace Go.Proofs.YtbiboamaigedjaaDoor
open Go.RowKit
set_option linter.unusedVariables false
set_option linter.unusedSimpArgs false
set_option maxRecDepth 8000
set_option maxHeartbeats 2000000

section
variable {P : Program} {ops pre : Array Oper} {md : Region.Mode} {Q : Exit -> Act -> World -> Prop} {m : Nat}
end
section
variable {P : Program} {N : Nat} {sd : List (Option Tmp × VS)} {dl : List (List Nat)}
end
/-- A block is written to, or another one comes in its place. -/
structure Qhb (B B' : Nat) (w w' : World) : Prop where
  os : w'.os = w.os
  tape : w'.tape = w.tape
  output : w'.output = w.output
  size : w.heap.size <= w'.heap.size
  block : ∀ k, k < w.heap.size -> k ≠ B -> w'.heap[k]? = w.heap[k]?
  new : B' = B \/ w.heap.size <= B'
section
variable {P : Program} {ops : Array Oper} {o : Oper} {N : Nat} {f : Fl} {w : World}
/-- A slice that is written out. -/
theorem U4 {t e : TypeId} (hu : P.underlying t = some (.slice e)) {i : TypeInfo} (hi : P.info? e = some i) {Z : Value} (hz : i.zero = some Z) (len : Nat) (parts : Array (Nat × Value)) (hlen : len * i.size <= 16777216) {cs : Array Value}
    (hf : Instr.fill (fun k => some (k * i.size, i.size)) (if len * i.size = 0 then #[] else (Array.range (len * i.size)).map (Z.cells[· % Z.cells.size]!)) parts.toList = some cs) :
    (Instr.buildSlice t len parts).run P w = .ok (.slice (some ⟨w.heap.size, 0, none⟩) len len) (w.alloc (.cells cs e)) := by
  have hn : ¬ len * i.size > 2 ^ 24 := by omega
  unfold Instr.buildSlice
  simp only [Sem.run_bind, run_underlying hu, Result.andThen_ok, sizeOf, typeInfo, run_program, hi, Sem.run_pure, if_neg hn]
  by_cases h0 : len * i.size = 0
  . rw [if_pos h0] at hf
    have e0 : Array.map (fun x => (#[] : Array Value)[x % (#[] : Array Value).size]!) (Array.range (len * i.size)) = #[] := by rw [h0]; simp
    simp only [if_pos h0, Sem.run_pure, Result.andThen_ok, e0, hf, newRow, Sem.run_bind, run_newObj_alloc]
  . rw [if_neg h0] at hf
    simp only [if_neg h0, zeroValue, typeInfo, Sem.run_bind, run_program, hi, hz, Sem.run_pure, Result.andThen_ok, hf, newRow, run_newObj_alloc]
theorem Hn (w : World) (t : TypeId) (cs : List Value) : XZ (w.alloc (.cells cs.toArray t)) w.heap.size cs /\ Below w.heap.size w (w.alloc (.cells cs.toArray t)) /\ w.heap.size < (w.alloc (.cells cs.toArray t)).heap.size :=
  ⟨⟨t, by rw [heap_alloc_new]⟩, (Below.refl _ _).alloc (Nat.le_refl _) _, (Array.getElem?_eq_some_iff.1 (heap_alloc_new w _)).1⟩
/-- What is asked of an element's type ahead of an append. -/
def apB (P : Program) (t s bytes : Nat) : Bool := match P.underlying t with
  | some (.slice e) => match P.info? e with
    | some i => i.size == s && i.bytes == bytes && (match i.zero with | some z => z.cells.size == s | none => false)
    | none => false
  | _ => false
theorem QeY {t s bytes : Nat} (h : apB P t s bytes = true) : ∃ e i Z, P.underlying t = some (.slice e) /\ P.info? e = some i /\ i.zero = some Z /\ i.size = s /\ i.bytes = bytes /\ Z.cells.size = i.size := by
  unfold apB at h
  split at h
  . rename_i e hu
    split at h
    . rename_i i hi
      simp only [Bool.and_eq_true, beq_iff_eq] at h
      obtain ⟨⟨h1, h2⟩, h3⟩ := h
      split at h3
      . rename_i z hz
        exact ⟨e, i, z, hu, hi, hz, h1, h2, by rw [h1]; simpa using h3⟩
      . cases h3
    . cases h
  . cases h
/-- A slice of noughts. -/
theorem Kk {Z : Value} {r : List Value} {s : Nat} (hr : Z.cells.toList = r) (hzs : Z.cells.size = s) (hs : 0 < s) (n : Nat) : madeCells Z.cells (n * s) = (List.replicate n r).flatten.toArray := by
  have hrl : r.length = s := by rw [<- hr, Array.length_toList, hzs]
  apply Array.ext
  . rw [size_madeCells, List.size_toArray, Jr (s := s) (fun r' hr' => by rw [(List.mem_replicate.1 hr').2]; exact hrl), List.length_replicate]
  . intro j h1 h2
    rw [size_madeCells] at h1
    have hjs : j % s < s := Nat.mod_lt _ hs
    have hjd : j / s < n := (Nat.div_lt_iff_lt_mul hs).2 h1
    have hrow := Qb0 (rs := List.replicate n r) (s := s) (i := j / s) (r := r) (fun r' hr' => by rw [(List.mem_replicate.1 hr').2]; exact hrl) (by rw [List.getElem?_replicate, if_pos hjd])
    have hg : (List.replicate n r).flatten[j]? = r[j % s]? := by
      conv => rhs; rw [<- hrow]
      rw [List.getElem?_take, if_pos hjs, List.getElem?_drop]
      congr 1
      have := Nat.div_add_mod j s
      rw [Nat.mul_comm] at this
      exact this.symm
    have hzj : j % Z.cells.size < Z.cells.size := by rw [hzs]; exact hjs
    simp only [madeCells, Array.getElem_map, Array.getElem_range]
    rw [getElem!_pos Z.cells _ hzj]
    have h3 : (List.replicate n r).flatten.toArray[j]? = some ((List.replicate n r).flatten.toArray[j]) := Array.getElem?_eq_getElem h2
    have h4 : r[j % s]? = some (Z.cells[j % Z.cells.size]) := by
      have h5 : r[j % s]? = Z.cells.toList[j % s]? := by rw [hr]
      rw [h5, Array.getElem?_toList, <- Array.getElem?_eq_getElem hzj, hzs]
    rw [List.getElem?_toArray, hg, h4] at h3
    exact Option.some.inj h3
theorem Qcb {t s bytes : Nat} {x y : Operand} {K : IntKind} {n : Int} {r : List Value} (ho : o.op = .makeSlice t x y) (ht : apB P t s bytes = true) (hz : ∀ e, P.underlying t = some (.slice e) -> (P.info? e).bind (fun i => i.zero.map (·.cells.toList)) = some r) (hx : ev f x = some (.int K n)) (hy : ev f y = some (.int K n)) (h0 : 0 <= n) (hs : 0 < s) (hb : bytes * n <= 140737488355328) (hm : n <= maxLen) (hw : Qg ops o f = some true := by rfl) :
    DR P ops o N f w (fun u W => u = .slice (some ⟨w.heap.size, 0, none⟩) n.toNat n.toNat /\ (∀ r' ∈ List.replicate n.toNat r, r'.length = s) /\ XZ W w.heap.size (List.replicate n.toNat r).flatten /\ Below w.heap.size w W /\ w.heap.size < W.heap.size) := fun a ha => by
  obtain ⟨e, i, Z, hu, hi, hZ, rfl, rfl, hzs⟩ := QeY ht
  have hx := ha.ev hx
  have hy := ha.ev hy
  have hr := hz e hu
  rw [hi] at hr
  simp only [Option.bind_some, hZ, Option.map_some, Option.some.injEq] at hr
  have hrun := run_make (P := P) w t e i Z hu hi hZ K K n n h0 (Int.le_refl _) (by omega) (by unfold maxLen at hm; omega)
  have hrl : r.length = i.size := by rw [<- hr, Array.length_toList, hzs]
  have hcs : madeCells Z.cells (n.toNat * i.size) = (List.replicate n.toNat r).flatten.toArray := Kk hr hzs hs _
  exact Qe.of_wp (Qc ha hw) fun KK hK => by
    unfold Oper.wp execOp
    simp only [ho, hx, hy, Sem.run_bind, hrun, Sem.run_pure, Result.andThen_ok]
    rw [hcs]
    obtain ⟨n1, n2, n3⟩ := Hn w e (List.replicate n.toNat r).flatten
    exact hK _ _ ⟨rfl, (fun r' hr' => by rw [(List.mem_replicate.1 hr').2]; exact hrl), n1, n2, n3⟩
end

section
variable {P : Program} {ops : Array Oper} {o : Oper} {N : Nat} {f : Fl} {w : World}
theorem Qfp {x y : Operand} {ts : Array TypeId} {K : IntKind} {m n : Int} (ho : o.op = .call { callee := .builtin .max, args := #[x, y], argTypes := ts }) (hx : ev f x = some (.int K m)) (hy : ev f y = some (.int K n)) (hw : Qg ops o f = some true := by rfl) : DV P ops o N f w (.int K (if m < n then n else m)) := fun a ha => by
  have hx := ha.ev hx
  have hy := ha.ev hy
  refine Qe.pure (Qc ha hw) _ ?_ ⟨rfl, rfl⟩
  unfold execOp
  simp only [ho, resolve, invoke, builtin, Sem.run_bind, Sem.run_pure, Result.andThen_ok, List.map_toArray, List.map_cons, List.map_nil, hx, hy, Builtin.max_, List.foldlM_cons, List.foldlM_nil, Builtin.max2]
theorem Qfo {x y : Operand} {ts : Array TypeId} {K : IntKind} {m n : Int} (ho : o.op = .call { callee := .builtin .min, args := #[x, y], argTypes := ts }) (hx : ev f x = some (.int K m)) (hy : ev f y = some (.int K n)) (hw : Qg ops o f = some true := by rfl) : DV P ops o N f w (.int K (if n < m then n else m)) := fun a ha => by
  have hx := ha.ev hx
  have hy := ha.ev hy
  refine Qe.pure (Qc ha hw) _ ?_ ⟨rfl, rfl⟩
  unfold execOp
  simp only [ho, resolve, invoke, builtin, Sem.run_bind, Sem.run_pure, Result.andThen_ok, List.map_toArray, List.map_cons, List.map_nil, hx, hy, Builtin.min_, List.foldlM_cons, List.foldlM_nil, Builtin.min2]
end
section
variable {P : Program} {ops : Array Oper} {o : Oper} {N : Nat} {f : Fl} {w : World}
theorem J5 (e : TypeId) (d : TypeDesc) (he : P.underlying e = some d) (hd : (match d with | .struct _ | .array _ _ => true | _ => false) = false) (K : IntKind) (zs : List Int) (i : Nat) (hi : i < zs.length) :
    (part e (zs.map (Value.int K)).toArray i).run P w = .ok (.int K (Qa zs i)) w := by
  have hagg : (isAgg e).run P w = .ok false w := by
    unfold isAgg
    rw [Sem.run_bind, run_underlying he w]
    cases d <;> simp_all
  simp [part, Sem.run_bind, hagg, hi, Qa]
theorem ZW (d : Nat) (e : TypeId) (K K' : IntKind) (xs ys : List Int) (he : P.underlying e = some (.int K')) : ∀ is : List Nat, (∀ i ∈ is, i < xs.length /\ i < ys.length) ->
    (Op.eqItems (d + 1) e 1 (xs.map (Value.int K)).toArray (ys.map (Value.int K)).toArray is).run P w = .ok (decide (∀ i ∈ is, Qa xs i = Qa ys i)) w
  | [], _ => by simp [Op.eqItems]
  | i :: is, h => by
    have h1 := J5 (w := w) e _ he rfl K xs i (h i (by simp)).1
    have h2 := J5 (w := w) e _ he rfl K ys i (h i (by simp)).2
    have h3 := ZW d e K K' xs ys he is (fun j hj => h j (by simp [hj]))
    have h4 := run_equalIn_int (P := P) w d e K K' (Qa xs i) (Qa ys i) he
    simp only [Op.eqItems, Sem.run_bind, Nat.mul_one, h1, h2, h4, Result.andThen_ok]
    by_cases hb : Qa xs i = Qa ys i
    . simp [hb, h3]
    . simp [hb]
theorem Qdc (t e : TypeId) (n : Nat) (hu : P.underlying t = some (.array n e)) (K K' : IntKind) (he : P.underlying e = some (.int K')) (hc : (P.info? e).map (·.size) = some 1) (hg : P.eqGuardType P.depth t = false) (x y : Operand) (xs ys : List Int) (hx : xs.length = n) (hy : ys.length = n) :
    (do eqGuard .eql t x y (Q2 K xs) (Q2 K ys); binOp .eql t (Q2 K xs) (Q2 K ys) : Sem Value).run P w = .ok (.bool (decide (xs = ys))) w := by
  cases hi : P.info? e with
  | none => rw [hi] at hc; cases hc
  | some i =>
    have hcells : P.cellsOf e = 1 := by simp [Program.cellsOf, hc]
    have hq : (eqGuard .eql t x y (Q2 K xs) (Q2 K ys)).run P w = .ok () w := by
      simp [eqGuard, Q2, Sem.run_bind, hg]
    have hall : (∀ i ∈ List.range n, Qa xs i = Qa ys i) ↔ xs = ys := by
      constructor
      . intro h
        exact Xj (by omega) fun j hj => h j (List.mem_range.2 (by omega))
      . rintro rfl _ _; rfl
    simp only [Sem.run_bind, hq, Result.andThen_ok]
    unfold Q2
    rw [run_eql_struct, show (10000 : Nat) = 9999 + 1 from rfl, run_equalIn_array w 9999 _ _ hu hi, hcells, show (9999 : Nat) = 9998 + 1 from rfl, ZW 9998 e K K' xs ys he (List.range n) (fun i hi => by have := List.mem_range.1 hi; omega)]
    simp only [Result.andThen_ok]
    congr 2
    exact decide_eq_decide.2 hall
theorem FG (t e : TypeId) (n : Nat) (hu : P.underlying t = some (.array n e)) (K K' : IntKind) (he : P.underlying e = some (.int K')) (hc : (P.info? e).map (·.size) = some 1) (d : Nat) (xs ys : List Int) (hx : xs.length = n) (hy : ys.length = n) :
    (Op.equalIn (d + 2) t (Q2 K xs) (Q2 K ys)).run P w = .ok (decide (xs = ys)) w := by
  cases hi : P.info? e with
  | none => rw [hi] at hc; cases hc
  | some i =>
    have hcells : P.cellsOf e = 1 := by simp [Program.cellsOf, hc]
    have hall : (∀ i ∈ List.range n, Qa xs i = Qa ys i) ↔ xs = ys := by
      constructor
      . intro h
        exact Xj (by omega) fun j hj => h j (List.mem_range.2 (by omega))
      . rintro rfl _ _; rfl
    unfold Q2
    rw [run_equalIn_array w (d + 1) _ _ hu hi, hcells, ZW d e K K' xs ys he (List.range n) (fun i hi => by have := List.mem_range.1 hi; omega)]
    congr 1
    exact decide_eq_decide.2 hall
theorem Qfw {t t' e : TypeId} {x y : Operand} {n : Nat} {K K' : IntKind} {xs ys : List Int} (ho : o.op = .binOp .eql t x y t') (hu : P.underlying t = some (.array n e)) (he : P.underlying e = some (.int K')) (hc : X2 P e 1 = true) (hg : P.eqGuardType P.depth t = false) (hx : ev f x = some (Q2 K xs)) (hy : ev f y = some (Q2 K ys)) (hxl : xs.length = n) (hyl : ys.length = n) (hw : Qg ops o f = some true := by rfl) : DV P ops o N f w (.bool (decide (xs = ys))) := fun a ha => by
  have hx := ha.ev hx
  have hy := ha.ev hy
  refine Qe.pure (Qc ha hw) _ ?_ ⟨rfl, rfl⟩
  unfold execOp
  have h := Qdc (w := w) t e n hu K K' he (Zf hc) hg x y xs ys hxl hyl
  simp only [ho, hx, hy, Sem.run_bind] at h ⊢
  rw [h]
  rfl
theorem QdN {t t' e : TypeId} {x y : Operand} {n : Nat} {K K' : IntKind} {xs ys : List Int} (ho : o.op = .binOp .neq t x y t') (hu : P.underlying t = some (.array n e)) (he : P.underlying e = some (.int K')) (hc : X2 P e 1 = true) (hg : P.eqGuardType P.depth t = false) (hx : ev f x = some (Q2 K xs)) (hy : ev f y = some (Q2 K ys)) (hxl : xs.length = n) (hyl : ys.length = n) (hw : Qg ops o f = some true := by rfl) : DV P ops o N f w (.bool (!decide (xs = ys))) := fun a ha => by
  have hx := ha.ev hx
  have hy := ha.ev hy
  have hq : (eqGuard .neq t x y (Q2 K xs) (Q2 K ys)).run P w = .ok () w := by
    simp [eqGuard, Q2, Sem.run_bind, hg]
  have h := FG (w := w) t e n hu K K' he (Zf hc) 9998 xs ys hxl hyl
  have e1 : binOp .neq t (Q2 K xs) (Q2 K ys) = (do pure (.bool (!(<- Op.equal t (Q2 K xs) (Q2 K ys))))) := rfl
  have e2 : (Op.equal t (Q2 K xs) (Q2 K ys)).run P w = .ok (decide (xs = ys)) w := h
  exact Qe.pure (Qc ha hw) _ (by unfold execOp; simp only [ho, hx, hy, Sem.run_bind, hq, Result.andThen_ok, e1, e2, Sem.run_pure]) ⟨rfl, rfl⟩
theorem Qfv {t t' : TypeId} {x y : Operand} {b c : Bool} (ho : o.op = .binOp .eql t x y t') (hu : P.underlying t = some .bool) (hx : ev f x = some (.bool b)) (hy : ev f y = some (.bool c)) (hw : Qg ops o f = some true := by rfl) : DV P ops o N f w (.bool (decide (b = c))) := fun a ha => by
  have hx := ha.ev hx
  have hy := ha.ev hy
  have e1 : binOp .eql t (.bool b) (.bool c) = (do pure (.bool (<- Op.equal t (.bool b) (.bool c)))) := rfl
  have e2 : (Op.equal t (.bool b) (.bool c)).run P w = .ok (b == c) w := run_equalIn_bool' w 9999 t b c hu
  have e3 : (b == c) = decide (b = c) := by cases b <;> cases c <;> rfl
  exact Qe.pure (Qc ha hw) _ (by unfold execOp; simp only [ho, hx, hy, eqGuard, Sem.run_bind, Sem.run_pure, Result.andThen_ok, e1]; simp [e2, e3]) ⟨rfl, rfl⟩
theorem QdM {t t' : TypeId} {x y : Operand} {b c : Bool} (ho : o.op = .binOp .neq t x y t') (hu : P.underlying t = some .bool) (hx : ev f x = some (.bool b)) (hy : ev f y = some (.bool c)) (hw : Qg ops o f = some true := by rfl) : DV P ops o N f w (.bool (!decide (b = c))) := fun a ha => by
  have hx := ha.ev hx
  have hy := ha.ev hy
  have e1 : binOp .neq t (.bool b) (.bool c) = (do pure (.bool (!(<- Op.equal t (.bool b) (.bool c))))) := rfl
  have e2 : (Op.equal t (.bool b) (.bool c)).run P w = .ok (b == c) w := run_equalIn_bool' w 9999 t b c hu
  have e3 : (b == c) = decide (b = c) := by cases b <;> cases c <;> rfl
  exact Qe.pure (Qc ha hw) _ (by unfold execOp; simp only [ho, hx, hy, eqGuard, Sem.run_bind, Sem.run_pure, Result.andThen_ok, e1]; simp [e2, e3]) ⟨rfl, rfl⟩
end
end Go.Proofs.YtbiboamaigedjaaDoor
namespace Go.Proofs.YtbiboamaigedjaaDoor
open Go.ChangeShapes Go.WideShapes Go.ChangeAt Go.RowKit
set_option linter.unusedVariables false

section
variable {P : Program} {H : Type} {enc : TypeId × Value -> H} {W : World} {base : Nat} {sp : Nat -> Bool} {held : Bool}
end
end Go.Proofs.YtbiboamaigedjaaDoor
namespace Go.Proofs.YtbiboamaigedjaaDoor
open Go.RowKit
set_option linter.unusedVariables false
set_option linter.unusedSimpArgs false
set_option maxRecDepth 8000
set_option maxHeartbeats 2000000

section
variable {P : Program} {ops : Array Oper} {o : Oper} {N : Nat} {f : Fl} {w : World}
end
section
variable {P : Program} {N : Nat} {sd : List (Option Tmp × VS)} {dl : List (List Nat)}
end
section
variable {P : Program} {ops : Array Oper} {o : Oper} {N : Nat} {f : Fl} {w : World}
end
end Go.Proofs.YtbiboamaigedjaaDoor
namespace Go.Proofs.YtbiboamaigedjaaDoor
open Go.RowKit
set_option linter.unusedVariables false
set_option linter.constructorNameAsVariable false
set_option linter.unusedSimpArgs false
/-- A block of one's Xq as rows, all that there is room for. -/
def RwB (s : Nat) (w : World) (B : Nat) (R : List (List Value)) : Prop := 0 < s /\ (∀ r ∈ R, r.length = s) /\ R.length <= maxLen /\ XZ w B R.flatten
/-- Where a part begins: a part with no room begins where the whole does. -/
def JR (c l o0 s : Nat) : Nat := if c = l then o0 else o0 + l * s
theorem Qdu {c l s B o0 : Nat} : (if c = l then some (⟨B, o0, none⟩ : Addr) else some (if l * s = 0 then ⟨B, o0, none⟩ else ⟨B, o0 + l * s, none⟩)) = some ⟨B, JR c l o0 s, none⟩ := by
  unfold JR
  split
  . rfl
  . split
    . rename_i h; rw [h]; rfl
    . rfl
/-- What a part of it reads. -/
theorem RwB.part {s : Nat} {w : World} {B : Nat} {R : List (List Value)} (h : RwB s w B R) {L : List Nat} (hB : B ∉ L) {lo n c o1 : Nat} (ho : n ≠ 0 -> o1 = lo * s) (hn : n <= c) (hc : lo + c <= R.length) : GF s L w (.slice (some ⟨B, o1, none⟩) n c) ((R.drop lo).take n) := by
  obtain ⟨h0, hr, hm, hb⟩ := h
  have hl : ((R.drop lo).take n).length = n := by rw [List.length_take, List.length_drop]; omega
  refine ⟨h0, fun r hr' => hr r (List.mem_of_mem_drop (List.mem_of_mem_take hr')), _, c, by rw [hl], by rw [hl]; exact hn, by omega, fun h => (by cases h), fun hne => ⟨B, o1, rfl, hB, ?_⟩⟩
  rw [ho (fun e => hne (by rw [e, List.take_zero]))]
  have := Y9 hb.range (lo * s) (n * s)
  rw [Uc lo hr, Kr n (fun r hr' => hr r (List.mem_of_mem_drop hr')), Nat.zero_add] at this
  exact this
section
variable {P : Program} {ops : Array Oper} {o : Oper} {N : Nat} {f : Fl} {w : World}
end
-- contracts of what writes to a block that it is given
/-- Of what was there just this block may have changed. -/
structure Chg (B : Nat) (w w' : World) : Prop where
  os : w'.os = w.os
  tape : w'.tape = w.tape
  output : w'.output = w.output
  size : w.heap.size <= w'.heap.size
  block : ∀ k, k < w.heap.size -> k ≠ B -> w'.heap[k]? = w.heap[k]?
section
variable {P : Program} {ops : Array Oper} {o : Oper} {N : Nat} {f : Fl} {w : World} {R : Value -> World -> Prop} {fn : Func}
end
end Go.Proofs.YtbiboamaigedjaaDoor
namespace Go.Proofs.YtbiboamaigedjaaDoor
open Go.RowKit
set_option linter.unusedVariables false
set_option linter.unusedSimpArgs false
set_option maxRecDepth 8000
set_option maxHeartbeats 2000000

section
variable {P : Program} {ops : Array Oper} {o : Oper} {N : Nat} {f : Fl} {w : World}
end
section
variable {P : Program} {ops : Array Oper} {o : Oper} {N : Nat} {f : Fl} {w : World} {R : Value -> World -> Prop}
end
/-- A text's byte. -/
def atS (s : ByteArray) (k : Nat) : Int := (s.data[k]?.getD 0).toNat
section
variable {P : Program} {ops : Array Oper} {o : Oper} {N : Nat} {f : Fl} {w : World}
theorem Qgg {t : TypeId} {x y : Operand} {s : ByteArray} {K : IntKind} {i : Int} (k : Nat) (ho : o.op = .index t x y) (ht : P.underlying t = some .string) (hx : ev f x = some (.string s)) (hy : ev f y = some (.int K i)) (hi : i = (k : Int)) (hk : k < s.size) (hw : Qg ops o f = some true := by rfl) : DV P ops o N f w (.int .u8 (atS s k)) := fun a ha => by
  subst hi
  have hx := ha.ev hx
  have hy := ha.ev hy
  have hk' : k < s.data.size := hk
  have e : s[k]? = some (s.data[k]?.getD 0) := by
    rw [getElem?_pos s k hk, Array.getElem?_eq_getElem hk']
    rfl
  refine Qe.pure (Qc ha hw) _ ?_ ⟨rfl, rfl⟩
  unfold execOp
  simp only [ho, hx, hy, Instr.index, asIntOf, Sem.run_bind, Sem.run_pure, Result.andThen_ok, run_underlying ht]
  have h0 : (0 : Int) <= (k : Int) := by omega
  simp [h0, e, atS]
end
section
variable {α : Type} {g : α -> Bool} {r : α -> α -> Bool} {n : Nat}
end

end Go.Proofs.YtbiboamaigedjaaDoor
namespace Go.Proofs.YtbiboamaigedjaaDoor
open Go.RowKit Go.Sort
set_option linter.unusedVariables false
set_option linter.unusedSimpArgs false
-- the order of lists of bytes
section
variable {P : Program} {ops : Array Oper} {o : Oper} {N : Nat} {f : Fl} {w : World} {R : Value -> World -> Prop}
end
end Go.Proofs.YtbiboamaigedjaaDoor
namespace Go.Proofs.YtbiboamaigedjaaDoor
open Go.RowKit
set_option linter.unusedVariables false
set_option linter.unusedSimpArgs false
set_option maxRecDepth 8000
set_option maxHeartbeats 2000000

section
variable {P : Program} {N : Nat} {sd : List (Option Tmp × VS)} {dl : List (List Nat)}
end
section
variable {P : Program} {ops : Array Oper} {o : Oper} {N : Nat} {f : Fl} {w : World}
end
section
variable {P : Program} {ops : Array Oper} {md : Region.Mode}
/-- The law of XOrd, where what waits for one is not asked to bear it. G holds throughout, said of which operations have run; what is shown of an operation (F) bears what others do to the world (R). -/
theorem KC {Q : Exit -> Act -> World -> Prop} (hb : JQ md ops = true) (a : Act) (G : (Nat -> Bool) -> World -> Prop) (F : Ds) (R : Nat -> (Nat -> Value) -> World -> World -> Prop)
    (hF : ∀ i f w w' j g, R i f w w' -> j ≠ i -> i ∉ QT md ops j -> F j g w -> F j g w')
    (hstep : ∀ i o, ops[i]? = some o -> ∀ L f w, L i = false -> (∀ j, i ∈ QT md ops j -> L j = false) -> G L w -> (∀ j ∈ Ql md o, F j (Zb f (j :: QT md ops j)) w) ->
      Qe P ops o (Q1 ops f (Ql md o) a) w fun v w' => R i (Zb f (Ql md o)) w w' /\ G (X6 L i true) w' /\ F i (Zb (X6 f i v) (i :: Ql md o)) w')
    (hend : ∀ L f w, (∀ j, L j = decide (j < ops.size)) -> G L w -> (∀ j, j < ops.size -> F j (Zb f (j :: QT md ops j)) w) -> Q .normal (Q1 ops f (List.range ops.size) a) w) :
    ∀ (fuel : Nat) (listed : Array Bool) (f : Nat -> Value) (a' : Act) (w : World), listed.size = ops.size -> (listed.toList.countP (fun b => !b) <= fuel) ->
      (∀ j, listed.getD j false = true -> ∀ k ∈ QT md ops j, listed.getD k false = true) ->
      Qz ops (fun j => listed.getD j false = true) f a a' -> G (fun j => listed.getD j false) w -> (∀ j, listed.getD j false = true -> F j (Zb f (j :: QT md ops j)) w) -> wpAny P md ops Q fuel listed a' w := by
  have ho := Hj hb
  have fin : ∀ (listed : Array Bool) (f : Nat -> Value) (a' : Act) (w : World), listed.size = ops.size -> Region.ready md ops listed = [] ->
      Qz ops (fun j => listed.getD j false = true) f a a' -> G (fun j => listed.getD j false) w -> (∀ j, listed.getD j false = true -> F j (Zb f (j :: QT md ops j)) w) -> Q .normal a' w := by
    intro listed f a' w hsz hr hag hg hf
    have hl := JL hb hsz hr
    have hout : ∀ j, listed.getD j false = true -> j < ops.size := by
      intro j h
      rcases Nat.lt_or_ge j ops.size with h' | h'
      . exact h'
      . simp [Array.getElem?_eq_none (by omega : listed.size <= j)] at h
    have e : a' = Q1 ops f (List.range ops.size) a := by
      refine hag.unique ((Qz.of ho f a (List.range ops.size)).congr (fun j => ?_) (fun _ _ => rfl))
      rw [List.mem_range]
      exact ⟨hl j, hout j⟩
    rw [e]
    refine hend _ f w (fun j => ?_) hg fun j hj => hf j (hl j hj)
    by_cases hj : j < ops.size
    . rw [hl j hj]; simp [hj]
    . have : ¬ listed.getD j false = true := fun h => hj (hout j h)
      rw [Bool.not_eq_true] at this
      rw [this]; simp [hj]
  intro fuel
  induction fuel with
  | zero =>
    intro listed f a' w hsz hc hcl hag hg hf
    have hr : Region.ready md ops listed = [] := by
      rw [List.eq_nil_iff_forall_not_mem]
      intro j hj
      obtain ⟨h0, o, hoj, _⟩ := mem_ready.1 hj
      have hjs : j < ops.size := (Array.getElem?_eq_some_iff.1 hoj).1
      have hc0 : listed.toList.countP (fun b => !b) = 0 := by omega
      rw [List.countP_eq_zero] at hc0
      have h1 := hc0 listed[j] (by simp)
      rw [Array.getD_eq_getD_getElem?, Array.getElem?_eq_getElem (by omega)] at h0
      simp only [Option.getD_some] at h0
      rw [h0] at h1
      exact h1 rfl
    exact ⟨hr, fin listed f a' w hsz hr hag hg hf⟩
  | succ fuel ih =>
    intro listed f a' w hsz hc hcl hag hg hf
    refine ⟨fun hr => fin listed f a' w hsz hr hag hg hf, fun i hi => ?_⟩
    obtain ⟨h0, o, hoi, hdep⟩ := mem_ready.1 hi
    have his : i < ops.size := (Array.getElem?_eq_some_iff.1 hoi).1
    obtain ⟨hsel, hlt, hlook⟩ := YS hb hoi
    have hdl : ∀ j ∈ Ql md o, listed.getD j false = true := by
      intro j hj
      obtain ⟨e, he, rfl⟩ := List.mem_map.1 hj
      obtain ⟨he1, he2⟩ := List.mem_filter.1 he
      exact hdep e (by simpa using he1) he2
    have hun : ¬ listed.getD i false = true := by
      intro h
      rw [Array.getD_eq_getD_getElem?, Array.getElem?_eq_getElem (by omega)] at h0 h
      simp only [Option.getD_some] at h0 h
      rw [h0] at h
      cases h
    have hA := Qz.of ho f a (Ql md o)
    have hdst : o.dst = QF ops i := by simp [QF, hoi]
    have hset : ∀ j, (listed.setIfInBounds i true).getD j false = X6 (fun j => listed.getD j false) i true j := by
      intro j
      unfold X6
      by_cases e : j = i
      . subst e
        simp [Array.getD_eq_getD_getElem?, hsz, his]
      . rw [getD_set_ne false (fun h => e h.symm), if_neg e]
    refine Qe.wpOp hoi hsel (a := Q1 ops f (Ql md o) a) (by rw [hag.size, hA.size]) (fun t ht => ?_)
      (hstep i o hoi (fun j => listed.getD j false) f w (by simpa using hun) (fun j hj => by
        rw [<- Bool.not_eq_true]
        exact fun h => hun (hcl j h i hj)) hg fun j hj => hf j (hdl j hj)) fun v w' hR => ?_
    . by_cases hts : t < a.tmps.size
      . by_cases e : ∃ j, QF ops j = some t
        . obtain ⟨j, hd⟩ := e
          have hj' : j < ops.size := by
            rcases Nat.lt_or_ge j ops.size with h | h
            . exact h
            . simp [QF, Array.getElem?_eq_none h] at hd
          have hl := hlook j t hj' hd
          by_cases hjd : j ∈ Ql md o
          . rw [hag.put j t (hdl j hjd) hd hts, hA.put j t hjd hd hts]
          . have hjl : ¬ listed.getD j false = true := by
              intro hjl
              rcases hl.1 ht with h | h | h
              . exact hun (h ▸ hjl)
              . exact hjd h
              . exact hun (hcl j hjl i h)
            rw [hag.same t (fun k hk hkd => hjl (ho k j t hkd hd ▸ hk)), hA.same t (fun k hk hkd => hjd (ho k j t hkd hd ▸ hk))]
        . have hn : ∀ j, QF ops j ≠ some t := fun j hj => e ⟨j, hj⟩
          rw [hag.same t (fun j _ => hn j), hA.same t (fun j _ => hn j)]
      . rw [Array.getElem?_eq_none (by rw [hag.size]; exact Nat.le_of_not_lt hts), Array.getElem?_eq_none (by rw [hA.size]; exact Nat.le_of_not_lt hts)]
    . obtain ⟨hR1, hR3, hR2⟩ := hR
      have hset' : ∀ j, (listed.setIfInBounds i true).getD j false = true ↔ (j = i \/ listed.getD j false = true) := by
        intro j
        rw [hset j]
        unfold X6
        by_cases e : j = i <;> simp [e]
      rw [hdst]
      refine ih (listed.setIfInBounds i true) (X6 f i v) _ w' (by simp [hsz]) ?_ ?_ ?_ (by rw [show (fun j => (listed.setIfInBounds i true).getD j false) = X6 (fun j => listed.getD j false) i true from funext hset]; exact hR3) ?_
      . have hc2 : (listed.setIfInBounds i true).toList.countP (fun b => !b) + 1 <= listed.toList.countP (fun b => !b) := by
          rw [Array.toList_setIfInBounds]
          have hlen : i < listed.toList.length := by simpa [hsz] using his
          have hli : listed.toList[i] = false := by
            rw [Array.getD_eq_getD_getElem?, Array.getElem?_eq_getElem (by omega)] at h0
            simpa using h0
          rw [List.countP_set hlen, hli]
          have : 0 < listed.toList.countP (fun b => !b) := List.countP_pos_iff.2 ⟨false, by rw [<- hli]; exact List.getElem_mem _, rfl⟩
          simp only [Bool.not_false, Bool.not_true, if_true, Bool.false_eq_true, if_false]
          omega
        omega
      . intro j hj k hk
        rw [hset'] at hj ⊢
        rcases hj with rfl | hj
        . rw [YZ hoi] at hk
          exact .inr (hdl k hk)
        . exact .inr (hcl j hj k hk)
      . exact hag.step ho i v hset' (fun j hji _ => by simp [X6, hji]) (by simp [X6])
      . intro j hj
        rw [hset'] at hj
        by_cases e : j = i
        . subst e
          rw [YZ hoi]
          exact hR2
        . have hjl := hj.resolve_left e
          have hnc : (j :: QT md ops j).contains i = false := by
            rw [<- Bool.not_eq_true, List.contains_iff_mem, List.mem_cons]
            rintro (h | h)
            . exact e h.symm
            . exact hun (hcl j hjl i h)
          rw [J7 hnc]
          exact hF i _ w w' j _ hR1 e (fun h => hun (hcl j hjl i h)) (hf j hjl)
end
section
variable {P : Program} {N : Nat} {sd : List (Option Tmp × VS)} {dl : List (List Nat)} {G : Bool -> World -> Prop}
end
section
variable {P : Program} {ops : Array Oper} {o : Oper} {N : Nat} {f : Fl} {w : World}
theorem YI {x : Operand} {a : Addr} (ho : o.op = .nilCheck x) (hx : ev f x = some (.pointer (some a))) (hw : Qg ops o f = some true := by rfl) : DV P ops o N f w (.pointer (some a)) := fun k ha => by
  have hx := ha.ev hx
  exact Qe.pure (Qc ha hw) _ (by unfold execOp; simp [ho, hx, Sem.run_bind, Sem.run_pure]) ⟨rfl, rfl⟩
end
end Go.Proofs.YtbiboamaigedjaaDoor
namespace Go.Proofs.YtbiboamaigedjaaDoor
open Go.RowKit
set_option linter.unusedVariables false
set_option linter.constructorNameAsVariable false
set_option linter.unusedSimpArgs false

/-- What is known of a type: its cells, whether it is a row, its fields' places, an array's length and element, a number's kind, what is nothing of it. -/
structure TI where
  s : Nat
  g : Bool
  o : List (Nat × Nat) := []
  n : Nat := 0
  e : Nat := 0
  q : Nat := 0
  k : Option IntKind := none
  y : Nat := 0
  z : Option (List SV) := none
  u : Bool := false
inductive Tr where
  | n
  | t (l : Tr) (x : Option TI) (r : Tr)
def Tr.get : Tr -> Nat -> Option TI
  | .n, _ => none
  | .t l x r, q => match Nat.beq q 0 with
    | true => x
    | false => match Nat.beq (Nat.mod q 2) 1 with
      | true => l.get (Nat.div q 2)
      | false => r.get (Nat.sub (Nat.div q 2) 1)
structure TT where
  M : Nat
  tr : Tr
  pq : FuncId -> List SV -> SV -> Prop := fun _ _ _ => False
  pl : Nat -> Nat -> SV -> Prop := fun _ _ _ => False
  pv : List (Nat × SV) := []
  pr : FuncId -> List SV -> List (Nat × List SV) -> SV -> Prop := fun _ _ _ _ => False
  rk : List (Nat × List Nat) := []
  px : FuncId -> List SV -> SV -> Prop := fun _ _ _ => False
  xk : List Nat := []
def TT.get (T : TT) (t : Nat) : Option TI := match Nat.blt t T.M with
  | true => T.tr.get t
  | false => none
def vq : Value -> Value -> Bool
  | .int K n, .int K' n' => decide (K = K') && decide (n = n')
  | .bool b, .bool b' => b == b'
  | .string s, .string s' => decide (s = s')
  | .slice none 0 0, .slice none 0 0 => true
  | .nilFunc, .nilFunc => true
  | .pointer none, .pointer none => true
  | .map none, .map none => true
  | _, _ => false
theorem QfQ {a b : Value} (h : vq a b = true) : a = b := by
  unfold vq at h
  split at h <;> simp_all
def vqL : List Value -> List Value -> Bool
  | [], [] => true
  | a :: l, b :: l' => vq a b && vqL l l'
  | _, _ => false
theorem Qau : ∀ {l l' : List Value}, vqL l l' = true -> l = l'
  | [], [], _ => rfl
  | [], _ :: _, h => by simp [vqL] at h
  | _ :: _, [], h => by simp [vqL] at h
  | a :: l, b :: l', h => by
    simp only [vqL, Bool.and_eq_true] at h
    rw [QfQ h.1, Qau h.2]
def Qt : Qs := ⟨fun _ => 0, fun _ => (0, 0)⟩
def okB : List SV -> Bool
  | [] => true
  | .a _ zs n :: l => Nat.beq zs.length n && okB l
  | _ :: l => okB l
theorem FU : ∀ {l : List SV}, okB l = true -> XW l
  | [], _ => trivial
  | x :: l, h => by
    cases x
    case a K zs n => simp only [okB, Bool.and_eq_true] at h; exact ⟨Nat.eq_of_beq_eq_true h.1, FU h.2⟩
    all_goals exact ⟨trivial, FU (by simpa only [okB] using h)⟩
def EM (P : Program) (t : Nat) : List (Nat × Nat) -> Nat -> Bool
  | [], _ => true
  | o :: l, k => Qad P t k o.1 && EM P t l (k + 1)
theorem Hk {P : Program} {t : Nat} : ∀ {l : List (Nat × Nat)} {k : Nat}, EM P t l k = true -> ∀ {j : Nat} {o : Nat × Nat}, l[j]? = some o -> Qad P t (k + j) o.1 = true
  | [], _, _, j, o, h => by simp at h
  | a :: l, k, hb, j, o, h => by
    simp only [EM, Bool.and_eq_true] at hb
    cases j with
    | zero => simp at h; subst h; exact hb.1
    | succ j => rw [show k + (j + 1) = k + 1 + j by omega]; exact Hk hb.2 (by simpa using h)
def UJ (P : Program) (t : Nat) (i : TI) : Bool := match P.underlying t with
  | some (.struct fields) => match fields.toList.mapM (fun f => (P.info? f.type).map fun i => (f.offset, i.size)) with
    | some l => decide (l = i.o)
    | none => false
  | some (.array _ e) => match P.info? e with
    | some ie => Nat.beq ie.size i.q && i.o.isEmpty
    | none => false
  | _ => i.o.isEmpty && Nat.beq i.n 0
/-- What a type's entry says is so. -/
def tB (P : Program) (t : Nat) (i : TI) : Bool :=
  X2 P t i.s && (bif i.g then Qam P t i.s else FS P t && Nat.beq i.s 1) && EM P t i.o 0 && UJ P t i
    && (match i.k with | none => true | some K => match P.underlying t with | some (.int K') => decide (K = K') | _ => false)
    && (bif Nat.beq i.n 0 then true else match P.underlying t with | some (.array n e) => Nat.beq n i.n && Nat.beq e i.e && (bif i.u then !(P.eqGuardType P.depth t) else true) | _ => false)
    && (bif Nat.beq i.y 1 then match P.underlying t with | some .string => true | _ => false else bif Nat.beq i.y 3 then match P.underlying t with | some .bool => true | _ => false else true)
    && (bif Nat.beq i.y 2 then match P.underlying t with | some (.slice e) => Nat.beq e i.e | _ => false else true)
    && (match i.z with | none => true | some l => okB l && Zt 0 l && (match (P.info? t).bind (·.zero) with | some Z => vqL Z.cells.toList (Qd Qt l) | none => false))
def TT.ok (P : Program) (T : TT) : Bool := (List.range T.M).all fun t => match T.get t with
  | none => true
  | some i => tB P t i
theorem TT.at {P : Program} {T : TT} (h : T.ok P = true) {t : Nat} {i : TI} (hi : T.get t = some i) : tB P t i = true := by
  have ht : t < T.M := by
    unfold TT.get at hi
    split at hi
    . rename_i hb; exact Qw hb
    . cases hi
  have := List.all_eq_true.1 h t (List.mem_range.2 ht)
  rw [hi] at this
  exact this
section
variable {P : Program} {T : TT} (hT : T.ok P = true) {t : Nat} {i : TI} (hi : T.get t = some i)
include hT hi
theorem TT.size : X2 P t i.s = true := by
  have := TT.at hT hi
  simp only [tB, Bool.and_eq_true] at this
  exact this.1.1.1.1.1.1.1.1
theorem TT.agg (hg : i.g = true) : Qam P t i.s = true := by
  have := TT.at hT hi
  simp only [tB, Bool.and_eq_true] at this
  have := this.1.1.1.1.1.1.1.2
  rwa [hg] at this
theorem TT.one (hg : i.g = false) : FS P t = true := by
  have := TT.at hT hi
  simp only [tB, Bool.and_eq_true] at this
  have := this.1.1.1.1.1.1.1.2
  rw [hg] at this
  simp only [cond_false, Bool.and_eq_true] at this
  exact this.1
theorem TT.fld {k : Nat} {o : Nat × Nat} (hk : i.o[k]? = some o) : Qad P t k o.1 = true := by
  have := TT.at hT hi
  simp only [tB, Bool.and_eq_true] at this
  have := Hk this.1.1.1.1.1.1.2 hk
  rwa [Nat.zero_add] at this
theorem TT.places : UJ P t i = true := by
  have := TT.at hT hi
  simp only [tB, Bool.and_eq_true] at this
  exact this.1.1.1.1.1.2
theorem TT.int {K : IntKind} (hk : i.k = some K) : P.underlying t = some (.int K) := by
  have := TT.at hT hi
  simp only [tB, Bool.and_eq_true] at this
  have := this.1.1.1.1.2
  rw [hk] at this
  simp only at this
  split at this
  . rename_i K' hu; rw [hu, of_decide_eq_true this]
  . cases this
theorem TT.arr (hn : Nat.beq i.n 0 = false) : P.underlying t = some (.array i.n i.e) := by
  have := TT.at hT hi
  simp only [tB, Bool.and_eq_true] at this
  have := this.1.1.1.2
  rw [hn] at this
  simp only [cond_false] at this
  split at this
  . rename_i n e hu; simp only [Bool.and_eq_true] at this; rw [hu, Nat.eq_of_beq_eq_true this.1.1, Nat.eq_of_beq_eq_true this.1.2]
  . cases this
theorem TT.eqg (hn : Nat.beq i.n 0 = false) (hg : i.u = true) : P.eqGuardType P.depth t = false := by
  have := TT.at hT hi
  simp only [tB, Bool.and_eq_true] at this
  have := this.1.1.1.2
  rw [hn] at this
  simp only [cond_false] at this
  split at this
  . rename_i n e hu; simp only [Bool.and_eq_true] at this; have := this.2; rw [hg] at this; simpa using this
  . cases this
theorem TT.str (hy : Nat.beq i.y 1 = true) : P.underlying t = some .string := by
  have := TT.at hT hi
  simp only [tB, Bool.and_eq_true] at this
  have := this.1.1.2
  rw [hy] at this
  simp only [cond_true] at this
  split at this
  . assumption
  . cases this
theorem TT.bol (hy : Nat.beq i.y 3 = true) : P.underlying t = some .bool := by
  have := TT.at hT hi
  simp only [tB, Bool.and_eq_true] at this
  have := this.1.1.2
  have h3 := Nat.eq_of_beq_eq_true hy
  rw [h3] at this
  have e1 : Nat.beq 3 1 = false := rfl
  have e2 : Nat.beq 3 3 = true := rfl
  rw [e1, e2] at this
  simp only [cond_true, cond_false] at this
  split at this
  . assumption
  . cases this
theorem TT.slc (hy : Nat.beq i.y 2 = true) : P.underlying t = some (.slice i.e) := by
  have := TT.at hT hi
  simp only [tB, Bool.and_eq_true] at this
  have := this.1.2
  rw [hy] at this
  simp only [cond_true] at this
  split at this
  . rename_i e hu; rw [hu, Nat.eq_of_beq_eq_true this]
  . cases this
theorem TT.und : ∃ d, P.underlying t = some d := by
  cases hg : i.g with
  | true => obtain ⟨d, hd, _⟩ := UM (TT.agg hT hi hg); exact ⟨d, hd⟩
  | false => obtain ⟨d, hd, _⟩ := UL (TT.one hT hi hg); exact ⟨d, hd⟩
theorem TT.zero {l : List SV} (hz : i.z = some l) : XW l /\ Zt 0 l = true /\ ∃ Z, (P.info? t).bind (·.zero) = some Z /\ ∀ ρ, Z.cells.toList = Qd ρ l := by
  have := TT.at hT hi
  simp only [tB, Bool.and_eq_true] at this
  have := this.2
  rw [hz] at this
  simp only [Bool.and_eq_true] at this
  obtain ⟨⟨h1, h2⟩, h3⟩ := this
  refine ⟨FU h1, h2, ?_⟩
  split at h3
  . rename_i Z hZ
    exact ⟨Z, hZ, fun ρ => by rw [Qau h3]; exact QW (fun k hk => absurd hk (Nat.not_lt_zero k)) l h2⟩
  . cases h3
end
/-- A range of a kind of numbers. -/
def rng (K : IntKind) (n : Int) : Prop := match K with
  | .i64 => -9223372036854775808 <= n /\ n <= 9223372036854775807
  | .u64 => 0 <= n /\ n < 18446744073709551616
  | .u32 => 0 <= n /\ n < 4294967296
  | .u8 => 0 <= n /\ n < 256
  | K => K.wrap n = n
theorem Yt {K : IntKind} {n : Int} (h : rng K n) : K.wrap n = n := by
  cases K <;> simp only [rng] at h <;> first
    | exact h
    | exact Dv h
    | exact Fp h
    | exact Du h
    | (rw [IntKind.wrap_u32']; omega)
def kn : IntKind -> Nat
  | .i8 => 0 | .i16 => 1 | .i32 => 2 | .i64 => 3 | .u8 => 4 | .u16 => 5 | .u32 => 6 | .u64 => 7
def kq (K K' : IntKind) : Bool := Nat.beq (kn K) (kn K')
theorem Uo {K K' : IntKind} (h : kq K K' = true) : K = K' := by
  have := Nat.eq_of_beq_eq_true h
  cases K <;> cases K' <;> simp_all [kn]
def cst : Value -> SV
  | .int K n => .i K n
  | .bool b => .l b
  | .string s => .s s
  | .slice a l c => .o a l c
  | v => .v v
theorem QdW (ρ : Qs) (v : Value) : (cst v).den ρ = v := by
  cases v <;> simp only [cst, SV.den]
def ZL (f : SF) : Operand -> Option SV
  | .tmp t => lk f t
  | .const v => some (cst v)
  | .global g => some (.v (.pointer (some ⟨g, 0, none⟩)))
  | .func F => some (.f F [])
theorem Qk {ρ : Qs} {f : SF} {x : Operand} {v : SV} (h : ZL f x = some v) : ev (Qo ρ f) x = some (v.den ρ) := by
  cases x with
  | tmp t => exact XD h
  | const u => cases h; rw [QdW]; rfl
  | global g => cases h; simp only [SV.den]; rfl
  | func g => cases h; simp only [SV.den, Qr]; rfl
def Ge (f : SF) : List Operand -> Option (List SV)
  | [] => some []
  | x :: l => match ZL f x with
    | none => none
    | some v => match Ge f l with
      | none => none
      | some vs => some (v :: vs)
theorem Zi {ρ : Qs} {f : SF} : ∀ {xs : List Operand} {vs : List SV}, Ge f xs = some vs -> evl (Qo ρ f) xs = some (Qr ρ vs)
  | [], vs, h => by cases h; simp only [Qr]; rfl
  | x :: l, vs, h => by
    unfold Ge at h
    split at h
    . cases h
    . rename_i v hv
      split at h
      . cases h
      . rename_i us hu
        cases h
        unfold evl
        rw [Qk hv, Zi hu]
        simp only [Qr]
def nth : List SV -> Nat -> Option SV
  | [], _ => none
  | x :: l, n => match Nat.beq n 0 with
    | true => some x
    | false => nth l (Nat.sub n 1)
theorem FW : ∀ {l : List SV} {n : Nat} {x : SV}, nth l n = some x -> l[n]? = some x
  | [], _, _, h => by cases h
  | y :: l, n, x, h => by
    unfold nth at h
    cases hn : Nat.beq n 0 with
    | true => rw [hn] at h; cases h; rw [Nat.eq_of_beq_eq_true hn]; rfl
    | false =>
      rw [hn] at h
      have h0 := Nat.ne_of_beq_eq_false hn
      obtain ⟨k, rfl⟩ : ∃ k, n = k + 1 := ⟨n - 1, by omega⟩
      have : Nat.sub (k + 1) 1 = k := Nat.add_sub_cancel k 1
      rw [this] at h
      simpa using FW h
def QbD : List (Nat × Nat) -> Nat -> Option (Nat × Nat)
  | [], _ => none
  | x :: l, n => match Nat.beq n 0 with
    | true => some x
    | false => QbD l (Nat.sub n 1)
theorem KZ : ∀ {l : List (Nat × Nat)} {n : Nat} {x : Nat × Nat}, QbD l n = some x -> l[n]? = some x
  | [], _, _, h => by cases h
  | y :: l, n, x, h => by
    unfold QbD at h
    cases hn : Nat.beq n 0 with
    | true => rw [hn] at h; cases h; rw [Nat.eq_of_beq_eq_true hn]; rfl
    | false =>
      rw [hn] at h
      have h0 := Nat.ne_of_beq_eq_false hn
      obtain ⟨k, rfl⟩ : ∃ k, n = k + 1 := ⟨n - 1, by omega⟩
      have : Nat.sub (k + 1) 1 = k := Nat.add_sub_cancel k 1
      rw [this] at h
      simpa using KZ h
/-- A number shifted. -/
def shc : IntKind -> Int -> Prop
  | .u64, n => 0 <= n /\ n <= 64
  | .i64, n => 0 <= n /\ n <= 64
  | .u32, n => 0 <= n /\ n <= 32
  | .u8, n => 0 <= n /\ n <= 8
  | K, n => 0 <= n /\ n <= K.bits
theorem KN {K : IntKind} {n : Int} (h : shc K n) : 0 <= n /\ n <= K.bits := by
  cases K <;> exact h
def shf (op : BinOp) (K : IntKind) (m n : Int) (acc : List Prop) : Option (SV × List Prop) := match op with
  | .shl => some (.i K (K.wrap (m * 2 ^ n.toNat)), shc K n :: acc)
  | .shr => some (.i K (m / 2 ^ n.toNat), shc K n :: acc)
  | _ => none
/-- Two numbers. -/
def QfC (md : Bool) (op : BinOp) (K : IntKind) (m n : Int) (acc : List Prop) : Option (SV × List Prop) := match op with
  | .add => match md with
    | true => some (.i K (K.wrap (m + n)), acc)
    | false => some (.i K (m + n), rng K (m + n) :: acc)
  | .sub => match md with
    | true => some (.i K (K.wrap (m - n)), acc)
    | false => some (.i K (m - n), rng K (m - n) :: acc)
  | .mul => match md with
    | true => some (.i K (K.wrap (m * n)), acc)
    | false => some (.i K (m * n), rng K (m * n) :: acc)
  | .quo => some (.i K (m / n), (0 <= m /\ 0 < n /\ rng K (m / n)) :: acc)
  | .rem => some (.i K (m % n), (0 <= m /\ 0 < n) :: acc)
  | .and => some (.i K (bits .and K m n), acc)
  | .or => some (.i K (bits .or K m n), acc)
  | .xor => some (.i K (bits .xor K m n), acc)
  | .eql => some (.c (m = n) inferInstance, acc)
  | .neq => some (.c (¬ m = n) inferInstance, acc)
  | .lss => some (.c (m < n) inferInstance, acc)
  | .leq => some (.c (m <= n) inferInstance, acc)
  | .gtr => some (.c (n < m) inferInstance, acc)
  | .geq => some (.c (n <= m) inferInstance, acc)
  | .shl => shf .shl K m n acc
  | .shr => shf .shr K m n acc
  | _ => none
def QfA (op : BinOp) (m n : ByteArray) (acc : List Prop) : Option (SV × List Prop) := match op with
  | .eql => some (.c (m = n) inferInstance, acc)
  | .neq => some (.c (¬ m = n) inferInstance, acc)
  | .lss => some (.c (Vo m n = true) inferInstance, acc)
  | .geq => some (.c (¬ Vo m n = true) inferInstance, acc)
  | .gtr => some (.c (¬ (Vo m n = true \/ m = n)) inferInstance, acc)
  | .add => some (.s (m ++ n), (m.size + n.size <= 9223372036854775807) :: acc)
  | _ => none
/-- Two arrays of numbers. -/
def QfB (op : BinOp) (xs ys : List Int) (n : Nat) (acc : List Prop) : Option (SV × List Prop) := match op with
  | .eql => some (.c (xs = ys) inferInstance, (xs.length = n /\ ys.length = n) :: acc)
  | .neq => some (.c (¬ xs = ys) inferInstance, (xs.length = n /\ ys.length = n) :: acc)
  | _ => none
/-- Two tests. -/
def Qgn (op : BinOp) (a b : Bool) (acc : List Prop) : Option (SV × List Prop) := match op with
  | .eql => match a with
    | true => some (.l b, acc)
    | false => match b with
      | true => some (.l false, acc)
      | false => some (.l true, acc)
  | .neq => match a with
    | false => some (.l b, acc)
    | true => match b with
      | true => some (.l false, acc)
      | false => some (.l true, acc)
  | _ => none
/-- The value behind a test, where the test is known to be as it must. -/
def unW (p : Prop) (acc : List Prop) : SV -> SV × List Prop
  | .w q _ x => (x, (p -> q) :: acc)
  | x => (x, acc)
def Qbp (p : Prop) (d : Decidable p) (x y : SV) (acc : List Prop) : Option (SV × List Prop) := match x, y with
  | .c q e, .l false => some (.c (p /\ q) (@instDecidableAnd p q d e), acc)
  | .l true, .c q e => some (.c (p \/ q) (@instDecidableOr p q d e), acc)
  | .l true, .l false => some (.c p d, acc)
  | .i K m, .i K' n => match kq K K' with
    | true => some (.i K (@ite Int p d m n), acc)
    | false => none
  | .s m, .s n => some (.s (@ite ByteArray p d m n), acc)
  | _, _ => none
/-- What an operation yields that touches no memory. -/
def G9 (T : TT) (md : Bool) (ev : Operand -> Option SV) (acc : List Prop) : Op -> Option (SV × List Prop)
  | .move x => match ev x with
    | some v => some (v, acc)
    | none => none
  | .assign x => match ev x with
    | some v => some (v, acc)
    | none => none
  | .pick c x y => match ev c with
    | some (.l true) => match ev x with
      | some v => some (v, acc)
      | none => none
    | some (.l false) => match ev y with
      | some v => some (v, acc)
      | none => none
    | some (.c p d) => match ev x with
      | some vx => match ev y with
        | some vy => match unW p acc vx with
          | (vx, acc) => match unW (¬ p) acc vy with
            | (vy, acc) => Qbp p d vx vy acc
        | none => none
      | none => none
    | _ => none
  | .binOp op t x y _ => match ev x with
    | some (.i K m) => match ev y with
      | some (.i K' n) => match kq K' K with
        | true => QfC md op K m n acc
        | false => shf op K m n acc
      | _ => none
    | some (.s m) => match ev y with
      | some (.s n) => QfA op m n acc
      | _ => none
    | some (.a K xs _) => match ev y with
      | some (.a K' ys _) => match kq K' K with
        | true => match T.get t with
          | some i => match i.u with
            | true => match Nat.beq i.n 0 with
              | true => none
              | false => match T.get i.e with
                | some j => match Nat.beq j.s 1 with
                  | true => match j.k with
                    | some _ => QfB op xs ys i.n acc
                    | none => none
                  | false => none
                | none => none
            | false => none
          | none => none
        | false => none
      | _ => none
    | some (.l a) => match ev y with
      | some (.l b) => match T.get t with
        | some i => match Nat.beq i.y 3 with
          | true => Qgn op a b acc
          | false => none
        | none => none
      | _ => none
    | _ => none
  | .unOp .not _ x => match ev x with
    | some (.l true) => some (.l false, acc)
    | some (.l false) => some (.l true, acc)
    | some (.c p d) => some (.c (¬ p) (@instDecidableNot p d), acc)
    | _ => none
  | .convert s t x => match T.get s with
    | some _ => match T.get t with
      | some i => match i.k with
        | some K' => match ev x with
          | some (.i K m) => match md with
            | true => some (.i K' (K'.wrap m), acc)
            | false => some (.i K' m, rng K' m :: acc)
          | _ => none
        | none => none
      | none => none
    | none => none
  | .extract x i => match ev x with
    | some (.t l) => match nth l i with
      | some v => some (v, acc)
      | none => none
    | _ => none
  | .nilCheck x => match ev x with
    | some (.p k o) => some (.p k o, acc)
    | some (.q k o) => some (.q k o, acc)
    | some (.x k o s n) => some (.x k o s n, acc)
    | _ => none
  | .fieldAddr t x k => match T.get t with
    | some i => match QbD i.o k with
      | some (off, _) => match ev x with
        | some (.p b o) => some (.p b (Nat.add o off), acc)
        | some (.q b o) => some (.q b (Nat.add o off), acc)
        | _ => none
      | none => none
    | none => none
  | .call { callee := .builtin .len, args := ⟨[x]⟩, argTypes := ⟨[t]⟩ } => match T.get t with
    | some i => match ev x with
      | some (.s b) => match Nat.beq i.y 1 with
        | true => some (.i .i64 (b.size : Int), acc)
        | false => none
      | some (.o _ l _) => match Nat.beq i.y 2 with
        | true => some (.i .i64 (l : Int), acc)
        | false => none
      | some (.y _ _ l _) => match Nat.beq i.y 2 with
        | true => some (.i .i64 (l : Int), acc)
        | false => none
      | some (.z _ _ l _) => match Nat.beq i.y 2 with
        | true => some (.i .i64 (l : Int), acc)
        | false => none
      | _ => none
    | none => none
  | .call { callee := .builtin .min, args := ⟨[x, y]⟩, argTypes := _ } => match ev x with
    | some (.i K m) => match ev y with
      | some (.i K' n) => match kq K' K with
        | true => some (.i K (if n < m then n else m), acc)
        | false => none
      | _ => none
    | _ => none
  | .call { callee := .builtin .max, args := ⟨[x, y]⟩, argTypes := _ } => match ev x with
    | some (.i K m) => match ev y with
      | some (.i K' n) => match kq K' K with
        | true => some (.i K (if m < n then n else m), acc)
        | false => none
      | _ => none
    | _ => none
  | _ => none
end Go.Proofs.YtbiboamaigedjaaDoor
