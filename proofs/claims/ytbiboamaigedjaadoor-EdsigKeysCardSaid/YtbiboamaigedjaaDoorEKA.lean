/- Plain words of ours on slices that are read, on worlds that have grown, and on bytes. No program stands here. Laws of ours over the walk: an append to -/
import Derived.Test.YtbiboamaigedjaaDoorRows
import Derived.WalkKit
import Derived.ProofKit
import Derived.OpenShut
import Derived.Handy
import Derived.Lib.Hide
import Derived.Outline
import Derived.Deep.QuietTactic
import Derived.BigQuiet
import Derived.Carry
import Derived.Laws.AppendOwnNone
import Derived.Laws.BytesArg
import Derived.Laws.IdiomStrings
import Derived.Laws.Rows
import Derived.KernelRfl
import Derived.Laws.BitsAllLaws
import Derived.Lib.Mul64
import Derived.RegionTactic
import Derived.Laws.Tables
import Derived.Laws.CopyRow
import Derived.Deep.LoopGhost
import Derived.Deep.MidRow
import Derived.Laws.MakeOwn
import Derived.ChangeKeysEq
import Derived.Laws.StructEq
import Derived.ChangeSlices
import Derived.ChangeSame
import Derived.Deep.Strs
import Derived.Lib.SmallJoins
import Derived.Lib.Overlaps
import Derived.Sort.OwnSorted
import Derived.Lib.SlicesCompact
import Derived.Lib.RowBridge
import Derived.Lib.AppendZeros
namespace Go.Proofs.YtbiboamaigedjaaDoor
open Go.RowKit
set_option linter.unusedVariables false
set_option linter.unusedSimpArgs false
set_option maxRecDepth 8000
set_option maxHeartbeats 2000000

/-- The number at a place, as a word that no rewriting opens. -/
def Qb (l : List Int) (k : Nat) : Int := l[k]?.getD 0
theorem J9 {l : List Int} {k : Nat} (h : k < l.length) : Qb l k = l[k] := by simp [Qb, h]
theorem Jd {l : List Int} {k : Nat} (h : k < l.length) : Qb l k ∈ l := by rw [J9 h]; exact List.getElem_mem _
theorem Xc (x : Int) (l : List Int) : Qb (x :: l) 0 = x := rfl
theorem Xd (x : Int) (l : List Int) (k : Nat) : Qb (x :: l) (k + 1) = Qb l k := by simp [Qb]
theorem QdJ (l : List Int) (i k : Nat) : Qb (l.drop i) k = Qb l (i + k) := by simp [Qb]
/-- QP are bytes. -/
def Qd (l : List Int) : Prop := ∀ x ∈ l, 0 <= x /\ x <= 255
theorem Qd.at {l : List Int} (h : Qd l) (k : Nat) : 0 <= Qb l k /\ Qb l k <= 255 := by
  by_cases hk : k < l.length
  . exact h _ (Jd hk)
  . simp [Qb, hk]
theorem Qd.drop {l : List Int} (h : Qd l) (k : Nat) : Qd (l.drop k) := fun x hx => h x (List.mem_of_mem_drop hx)
theorem XC {la lb : List Int} (hl : la.length = lb.length) (h : ∀ j, j < la.length -> Qb la j = Qb lb j) : la = lb := by
  apply List.ext_getElem hl
  intro i h1 h2
  have := h i h1
  rwa [J9 h1, J9 h2] at this

/-- A slice value that holds these integers, of one kind. -/
def Ue (K : IntKind) (w : World) (v : Value) (zs : List Int) : Prop :=
  ∃ a cap, v = .slice a zs.length cap /\ zs.length <= cap /\ cap <= maxLen /\ (∀ k, k < zs.length -> ∃ x o, a = some ⟨x, o, none⟩ /\ w.cell? ⟨x, o + k, none⟩ = some (.int K (Qb zs k))) /\ (a = none -> cap = 0)

theorem ZI {B : Nat} {a w : World} (h : Below B a w) (n : Nat) : Below B a (w.drewN n) := ⟨h.os, h.tape, h.output, h.size, h.block⟩

theorem Ue.nil {K : IntKind} {w : World} : Ue K w (.slice none 0 0) [] := ⟨none, 0, rfl, Nat.le_refl _, by unfold maxLen; omega, fun k hk => by simp at hk, fun _ => rfl⟩

theorem Qcr {w : World} {base e : Nat} {v : Value} {n : Nat} {xs : List Value} (h : w.ownsRow base e 1 v n xs) :
    ∃ a cap, v = .slice a n cap /\ n <= cap /\ cap <= maxLen /\ xs.length = n /\ (∀ k, k < n -> ∃ x, a = some ⟨x, 0, none⟩ /\ base <= x /\ w.cell? ⟨x, k, none⟩ = xs[k]?) /\ (a = none -> cap = 0) := by
  obtain ⟨hl, h2⟩ := h
  rw [Nat.mul_one] at hl
  rcases h2 with ⟨rfl, rfl⟩ | ⟨g, cap, cur, rfl, hb, hh, hn, hm, hs, ht⟩
  . exact ⟨none, 0, rfl, Nat.le_refl _, by unfold maxLen; omega, hl, fun k hk => by omega, fun _ => rfl⟩
  . refine ⟨_, cap, rfl, hn, hm, hl, fun k hk => ⟨g, rfl, hb, ?_⟩, fun h => by cases h⟩
    rw [Nat.mul_one] at ht
    rw [<- ht, List.getElem?_take, if_pos hk]
    simp [World.cell?, hh]

theorem Ue.of_own {K : IntKind} {w : World} {base e : Nat} {v : Value} {n : Nat} {zs : List Int} (h : w.ownsRow base e 1 v n (zs.map (Value.int K))) : Ue K w v zs := by
  obtain ⟨a, cap, rfl, h1, h2, h3, h4, h5⟩ := Qcr h
  have hn : n = zs.length := by simpa using h3.symm
  subst hn
  refine ⟨a, cap, rfl, h1, h2, fun k hk => ?_, h5⟩
  obtain ⟨x, rfl, _, hc⟩ := h4 k hk
  exact ⟨x, 0, rfl, by rw [Nat.zero_add, hc]; simp [hk, Qb]⟩

/-- What is below the heap's size of a later world is below an earlier one's. -/
theorem Zy {a b c : World} (h : Below a.heap.size a b) (k : Below b.heap.size b c) : Below a.heap.size a c := h.trans (k.mono h.size)

theorem FZ {a b : World} (h : Below a.heap.size a b) (n : Nat) : Below a.heap.size a (b.drewN n) := ZI h n

/-- Block B holds these numbers from its head on, and each may be written. -/
def QdR (K : IntKind) (w : World) (B : Nat) (zs : List Int) : Prop :=
  ∃ cur e fz, w.heap[B]? = some (.cells cur e fz) /\ zs.length <= cur.size /\ ∀ j, j < zs.length -> cur[j]? = some (.int K (Qb zs j)) /\ ¬ (fz.1 <= j /\ j < fz.2)

theorem QdR.cell {K : IntKind} {w : World} {B : Nat} {zs : List Int} (h : QdR K w B zs) {k : Nat} (hk : k < zs.length) : w.cell? ⟨B, k, none⟩ = some (.int K (Qb zs k)) := by
  obtain ⟨cur, e, fz, h1, h2, h3⟩ := h
  simp [World.cell?, h1, (h3 k hk).1]
theorem QdR.free {K : IntKind} {w : World} {B : Nat} {zs : List Int} (h : QdR K w B zs) {k : Nat} (hk : k < zs.length) : w.frozen? ⟨B, k, none⟩ = false := by
  obtain ⟨cur, e, ⟨lo, hi⟩, h1, h2, h3⟩ := h
  have := (h3 k hk).2
  simp only [World.frozen?, h1]
  simp at this ⊢
  exact this
theorem V8 (zs : List Int) (k j : Nat) (x : Int) (hk : k < zs.length) : Qb (zs.set k x) j = if j = k then x else Qb zs j := by
  unfold Qb
  by_cases h : j = k
  . subst h; simp [hk]
  . rw [if_neg h, List.getElem?_set_ne (by omega)]
theorem Ed {a b : ByteArray} (h : a = b) : (a.toList == b.toList) = true := by subst h; simp
theorem QaH {a b : ByteArray} (h : ¬ a = b) : (a.toList == b.toList) = false := by
  rw [beq_eq_false_iff_ne]
  intro e
  apply h
  rw [ByteArray.toList_eq, ByteArray.toList_eq] at e
  cases a; cases b
  congr 1
  exact Array.toList_inj.1 e
section
variable {P : Program} {w : World} {ops : Array Oper} {rest : List Oper} {o : Oper} {a : Act} {Q : Exit -> Act -> World -> Prop}
end
end Go.Proofs.YtbiboamaigedjaaDoor
--@optional
namespace Go.Proofs.YtbiboamaigedjaaDoor
open Go.ChangeShapes Go.WideShapes Go.ChangeAt Go.RowKit
set_option linter.unusedVariables false

theorem Qiz : ownKnob Tryd.prog.godebug = none := by kernel_rfl
theorem DS : laidOutB Tryd.prog = true := by kernel_rfl

/-- A slice of integers that came in. -/
theorem QeD {P : Program} {H : Type} {enc : TypeId × Value -> H} {W : World} {base : Nat} {t e : TypeId} {K : IntKind} {v : Value} {d : DataW H} {p : List MemPlace}
    (ht : P.underlying t = some (.slice e)) (he : P.underlying e = some (.int K)) (hc : P.cellsOf e = 1)
    (hval : Value.okWide P W .any base t v) (h0 : DataW.Trod enc P W 0 (fun _ => true) true t v d p) :
    ∃ zs, Ue K W v zs /\ ∀ n ∈ zs, (Lit.int K n).wf = true := by
  obtain ⟨a0, len, cap, rfl⟩ := okWide_slice ht hval
  obtain ⟨fuel, hf⟩ := h0
  rcases open_ints ht he hc hf with ⟨hcs, hx⟩ | ⟨a, len', cap', zs, hcs, _, hl, hm, hz, hx, hcell, hwz⟩
  . simp [Value.cells] at hcs
    obtain ⟨rfl, rfl, rfl⟩ := hcs
    exact ⟨[], Ue.nil, fun n hn => by cases hn⟩
  . simp [Value.cells] at hcs
    obtain ⟨rfl, rfl, rfl⟩ := hcs
    simp only [if_true] at hz
    have hlen : (zs.take len).length = len := by rw [List.length_take]; omega
    refine ⟨zs.take len, ⟨some a, cap, by rw [hlen], by rw [hlen]; exact hl, hm, fun k hk => ?_, fun h => by cases h⟩, fun n hn => hwz n (List.mem_of_mem_take hn)⟩
    rw [hlen] at hk
    have hck := hcell k (by omega)
    obtain ⟨b, off, spot⟩ := a
    have hspot : spot = none := by
      have h0 := hcell 0 (by omega)
      simpa [Addr.add] using World.cell?_spot h0
    subst hspot
    refine ⟨b, off, rfl, ?_⟩
    rw [<- add_plain, hck]
    simp [Qb, List.getD, hk]

theorem Hr {zs : List Int} (h : ∀ n ∈ zs, (Lit.int .u8 n).wf = true) : Qd zs := fun x hx => by
  have := h x hx
  simpa [Lit.wf, IntKind.min, IntKind.max, IntKind.signed, IntKind.bits] using this
end Go.Proofs.YtbiboamaigedjaaDoor
namespace Go.Proofs.YtbiboamaigedjaaDoor
open Go.RowKit
set_option linter.unusedVariables false
set_option linter.unusedSimpArgs false
set_option maxRecDepth 8000
set_option maxHeartbeats 2000000

/-- An array of numbers of one kind. -/
def Xa (K : IntKind) (zs : List Int) : Value := .agg (zs.map (Value.int K)).toArray
/-- Block B is an array that holds these numbers and nothing else, all of it free. -/
def ZR (K : IntKind) (w : World) (B : Nat) (zs : List Int) : Prop := ∃ t, w.heap[B]? = some (.cells (zs.map (Value.int K)).toArray t (0, 0))

theorem ZR.row {K : IntKind} {w : World} {B : Nat} {zs : List Int} (h : ZR K w B zs) : QdR K w B zs := by
  obtain ⟨t, h⟩ := h
  refine ⟨_, t, _, h, by simp, fun j hj => ⟨by simp [hj, Qb], by simp⟩⟩
theorem ZR.below {K : IntKind} {w w' : World} {B : Nat} {zs : List Int} (h : ZR K w B zs) (hb : Below w.heap.size w w') : ZR K w' B zs := by
  obtain ⟨t, h⟩ := h
  exact ⟨t, by rw [hb.block B (Array.getElem?_eq_some_iff.1 h).1]; exact h⟩
theorem ZR.lt {K : IntKind} {w : World} {B : Nat} {zs : List Int} (h : ZR K w B zs) : B < w.heap.size := by
  obtain ⟨t, h⟩ := h
  exact (Array.getElem?_eq_some_iff.1 h).1
theorem ZR.cell {K : IntKind} {w : World} {B : Nat} {zs : List Int} (h : ZR K w B zs) {k : Nat} (hk : k < zs.length) : w.cell? ⟨B, k, none⟩ = some (.int K (Qb zs k)) := h.row.cell hk
theorem ZR.free {K : IntKind} {w : World} {B : Nat} {zs : List Int} (h : ZR K w B zs) {k : Nat} (hk : k < zs.length) : w.frozen? ⟨B, k, none⟩ = false := h.row.free hk
theorem ZR.set {K : IntKind} {w : World} {B : Nat} {zs : List Int} (h : ZR K w B zs) (k : Nat) (x : Int) : ZR K (w.setCell ⟨B, k, none⟩ (.int K x)) B (zs.set k x) := by
  obtain ⟨t, h⟩ := h
  refine ⟨t, ?_⟩
  simp [World.setCell, Array.getElem?_modify, h, List.map_set]
theorem ZR.setOther {K : IntKind} {w : World} {B : Nat} {zs : List Int} (h : ZR K w B zs) {B' : Nat} (hne : B ≠ B') (k : Nat) (v : Value) : ZR K (w.setCell ⟨B', k, none⟩ v) B zs := by
  obtain ⟨t, h⟩ := h
  exact ⟨t, by rw [heap_setCell_other w ⟨B', k, none⟩ B v hne]; exact h⟩
theorem ZR.setRow {K : IntKind} {w : World} {B : Nat} {zs : List Int} (h : ZR K w B zs) (ys : List Int) : ZR K (w.setRow B (ys.map (Value.int K)).toArray) B ys := by
  obtain ⟨t, h⟩ := h
  exact ⟨t, setRow_heap w B _ _ t _ h⟩
section
variable {P : Program} {w : World} {ops : Array Oper} {rest : List Oper} {o : Oper} {a : Act} {Q : Exit -> Act -> World -> Prop}

/-- Goes on only where the next operation is of this form. -/
theorem UQ (n : Tmp) {b c d e f} (h : wpList P ops Q (⟨some n, b, c, d, e, f⟩ :: rest) a w) : wpList P ops Q (⟨some n, b, c, d, e, f⟩ :: rest) a w := h
theorem Qan (h : wpList P ops Q (o :: rest) a w) : wpList P ops Q (o :: rest) a w := h
theorem Xs (hgd : o.guard = none) (t : TypeId) (ho : o.op = .alloc t) (K : IntKind) (n : Nat) (hz : (P.info? t).bind (·.zero) = some (.agg (Array.replicate n (Value.int K 0))))
    (h : ∀ w1, ZR K w1 w.heap.size (List.replicate n 0) -> w.heap.size < w1.heap.size -> Below w.heap.size w w1 -> wpList P ops Q rest (a.put o.dst (.pointer (some ⟨w.heap.size, 0, none⟩))) w1) : wpList P ops Q (o :: rest) a w := by
  refine wpList_plain hgd fun Kq hK => ?_
  cases hi : P.info? t with
  | none => rw [hi] at hz; cases hz
  | some i =>
    rw [hi] at hz
    have hz' : i.zero = some (.agg (Array.replicate n (Value.int K 0))) := hz
    have hti : (typeInfo t).run P w = .ok i w := by simp [typeInfo, hi]
    unfold Oper.wp execOp
    simp only [ho, Sem.run_bind, Instr.alloc, zeroValue, hti, hz', newVar, newRow, run_newObj_alloc, Sem.run_pure, Result.andThen_ok, Value.cells]
    refine hK _ _ (h _ ⟨t, ?_⟩ (Array.getElem?_eq_some_iff.1 (heap_alloc_new w _)).1 ((Below.refl _ _).alloc (Nat.le_refl _) _))
    rw [heap_alloc_new]
    simp

theorem Vx (hgd : o.guard = none) (ty : TypeId) (x : Operand) (ho : o.op = .load ty x) (n : Nat) (e : TypeId) (hu : P.underlying ty = some (.array n e)) (hi : (P.info? ty).map (·.size) = some n)
    (B : Nat) (hx : a.eval x = .pointer (some ⟨B, 0, none⟩)) (K : IntKind) (zs : List Int) (hz : ZR K w B zs) (hn : zs.length = n)
    (h : wpList P ops Q rest (a.put o.dst (Xa K zs)) w) : wpList P ops Q (o :: rest) a w := by
  obtain ⟨t, hz⟩ := hz
  exact wpList_load_row hgd ty x ho B hx t _ _ _ hz hu rfl (by rw [hi]; simp [hn]) h

theorem ZK (hgd : o.guard = none) (ty : TypeId) (x y : Operand) (ho : o.op = .store ty x y) (n : Nat) (hi : (P.info? ty).map (·.size) = some n)
    (B : Nat) (hx : a.eval x = .pointer (some ⟨B, 0, none⟩)) (K : IntKind) (zs ys : List Int) (hy : a.eval y = Xa K ys) (hz : ZR K w B zs) (hn : zs.length = n) (hm : ys.length = n)
    (h : ZR K (w.setRow B (ys.map (Value.int K)).toArray) B ys -> wpList P ops Q rest (a.put o.dst undef) (w.setRow B (ys.map (Value.int K)).toArray)) : wpList P ops Q (o :: rest) a w := by
  have h' := h (hz.setRow ys)
  obtain ⟨t, hz⟩ := hz
  refine wpList_store_row hgd ty x y ho B _ hx hy t _ hz (by rw [hi]; simp [hm]) (by simp [hn, hm]) ?_ h'
  simp [Value.oneCell']

theorem Em (ty : TypeId) (n : Nat) (e : TypeId) (hu : P.underlying ty = some (.array n e)) (d : TypeDesc) (he : P.underlying e = some d) (hd : (match d with | .struct _ | .array _ _ => true | _ => false) = false)
    (hi : (P.info? e).map (·.size) = some 1) (K : IntKind) (zs : List Int) (hn : zs.length = n) (i : Int) (h0 : 0 <= i) (h1 : i < n) :
    (Instr.index ty (Xa K zs) (.int .i64 i)).run P w = .ok (.int K (Qb zs i.toNat)) w := by
  cases hq : P.info? e with
  | none => rw [hq] at hi; cases hi
  | some q =>
    have hs : q.size = 1 := by simpa [hq] using hi
    have hlt : i.toNat < zs.length := by omega
    have hagg : (isAgg e).run P w = .ok false w := by
      unfold isAgg
      rw [Sem.run_bind, run_underlying he w]
      cases d <;> simp_all
    simp [Instr.index, Xa, asIntOf, Sem.run_bind, run_underlying hu w, h0, h1, sizeOf, typeInfo, hq, hs, part, hagg, hlt, Qb]

theorem Vd {fn : Func} {p : Tmp} {ty : TypeId} (h : fn.results = #[.cell p ty]) (tmps : Array Value) (n : Nat) (e : TypeId) (hu : P.underlying ty = some (.array n e)) (hi : (P.info? ty).map (·.size) = some n)
    (B : Nat) (hp : tmps.getD p undef = .pointer (some ⟨B, 0, none⟩)) (K : IntKind) (zs : List Int) (hz : ZR K w B zs) (hn : zs.length = n) : (results fn tmps).run P w = .ok (Xa K zs) w := by
  obtain ⟨t, hz⟩ := hz
  exact results_cell_row h tmps w B t _ _ _ hp hz hu rfl (by rw [hi]; simp [hn])
end
end Go.Proofs.YtbiboamaigedjaaDoor
namespace Go.Proofs.YtbiboamaigedjaaDoor
open Go.ChangeShapes Go.WideShapes Go.ChangeAt Go.RowKit
set_option linter.unusedVariables false

theorem V3 : ∀ (n : Nat) (K : IntKind) (cs : List Value), cs.length = n -> (∀ i, i < n -> ∃ x, (cs.drop i).take 1 = [.int K x] /\ (Lit.int K x).wf = true) -> ∃ zs : List Int, cs = zs.map (Value.int K) /\ zs.length = n /\ ∀ x ∈ zs, (Lit.int K x).wf = true
  | 0, K, cs, hl, _ => ⟨[], by simpa using List.eq_nil_of_length_eq_zero hl, rfl, fun x hx => by cases hx⟩
  | n + 1, K, [], hl, _ => by simp at hl
  | n + 1, K, c :: cs, hl, h => by
    obtain ⟨x, hx, hw⟩ := h 0 (by omega)
    obtain ⟨zs, h1, h2, h3⟩ := V3 n K cs (by simpa using hl) fun i hi => by simpa using h (i + 1) (by omega)
    simp at hx
    refine ⟨x :: zs, by simp [hx, h1], by simp [h2], fun y hy => ?_⟩
    rcases List.mem_cons.1 hy with rfl | hy
    . exact hw
    . exact h3 y hy
/-- An array of numbers that came in. -/
theorem QaV {P : Program} {H : Type} {enc : TypeId × Value -> H} {W : World} {t e : TypeId} {K : IntKind} {n : Nat} {v : Value} {d : DataW H} {p : List MemPlace}
    (ht : P.underlying t = some (.array n e)) (he : P.underlying e = some (.int K)) (hc : P.cellsOf e = 1) (hct : P.cellsOf t = n) (hn : n ≠ 1) (h0 : DataW.Trod enc P W 0 (fun _ => true) true t v d p) :
    ∃ zs, v = Xa K zs /\ zs.length = n /\ p = [] /\ ∀ x ∈ zs, (Lit.int K x).wf = true := by
  obtain ⟨fuel, hf⟩ := h0
  obtain ⟨xs, m, rfl, hx, hl, hxl, hi⟩ := DataW.trod_array ht hf
  rw [hct] at hl
  rw [hc] at hi
  have hone : ∀ i, i < n -> ∃ x, ((v.cells.toList).drop i).take 1 = [.int K x] /\ (Lit.int K x).wf = true := fun i hin => by
    have h := hi i hin
    rw [Nat.mul_one] at h
    have hsome : xs[i]? = some xs[i] := List.getElem?_eq_getElem (by omega)
    rw [hsome] at h
    obtain ⟨x, h1, h2, h3⟩ := DataW.trod_int he h
    exact ⟨x, h1, h3⟩
  have hp : ∀ y ∈ xs, y.2 = [] := fun y hy => by
    obtain ⟨i, hil, hiy⟩ := List.getElem_of_mem hy
    have h := hi i (by omega)
    have hsome : xs[i]? = some xs[i] := List.getElem?_eq_getElem hil
    rw [hsome] at h
    obtain ⟨x, h1, h2, h3⟩ := DataW.trod_int he h
    rw [<- hiy, h2]
  obtain ⟨zs, h1, h2, h3⟩ := V3 n K v.cells.toList hl hone
  refine ⟨zs, ?_, h2, ?_, h3⟩
  . cases v with
    | agg cs =>
      simp only [Value.cells] at h1
      rw [Xa, <- h1]
    | _ => simp [Value.cells] at hl; omega
  . simp only [Prod.mk.injEq] at hx
    rw [hx.2]
    exact List.flatMap_eq_nil_iff.2 hp
end Go.Proofs.YtbiboamaigedjaaDoor
namespace Go.Proofs.YtbiboamaigedjaaDoor
open Go.RowKit
set_option linter.unusedVariables false
set_option linter.unusedSimpArgs false
set_option maxRecDepth 8000
set_option maxHeartbeats 2000000

theorem JC (x y n : Nat) (hx : x % 2 ^ n = 0) (hy : y < 2 ^ n) : x ||| y = x + y := by
  have hx' : x = (x / 2 ^ n) <<< n := by
    rw [Nat.shiftLeft_eq]
    have := Nat.div_add_mod x (2 ^ n)
    rw [hx, Nat.add_zero, Nat.mul_comm] at this
    exact this.symm
  rw [hx', <- Nat.shiftLeft_add_eq_or_of_lt hy]
theorem Yb (x y : Int) (n : Nat) (hx0 : 0 <= x) (hx1 : x < 18446744073709551616) (hx : x % 2 ^ n = 0) (hy0 : 0 <= y) (hy1 : y < 2 ^ n) (hy2 : y < 18446744073709551616) : bits .or .u64 x y = x + y := by
  obtain ⟨a, rfl⟩ := Int.eq_ofNat_of_zero_le hx0
  obtain ⟨b, rfl⟩ := Int.eq_ofNat_of_zero_le hy0
  rw [u64_or_nat a b (by omega) (by omega), JC a b n (by exact_mod_cast hx) (by exact_mod_cast hy1)]
  rfl
theorem XE (x : Int) (n m : Nat) (hm : m = 2 ^ n - 1) (hn : m < 18446744073709551616) (hx0 : 0 <= x) (hx1 : x < 18446744073709551616) : bits .and .u64 x (m : Int) = x % 2 ^ n := by
  obtain ⟨a, rfl⟩ := Int.eq_ofNat_of_zero_le hx0
  rw [u64_and_nat a m (by omega) hn, hm, Nat.and_two_pow_sub_one_eq_mod]
  clear hx0 hx1 hn hm
  rw [Int.natCast_emod, Int.natCast_pow]
  rfl
theorem YC (x : Int) : IntKind.u64.wrap x = x % 18446744073709551616 := IntKind.wrap_u64 x
theorem Y9 {p : Int -> Prop} (h : ∀ n, n < 256 -> p (n : Nat)) {x : Int} (hx : 0 <= x /\ x <= 255) : p x := by
  obtain ⟨n, rfl⟩ := Int.eq_ofNat_of_zero_le hx.1
  exact h n (by omega)
/-- QP are words of 64 bits. -/
def Qn (l : List Int) : Prop := ∀ x ∈ l, 0 <= x /\ x < 18446744073709551616
theorem Qn.at {l : List Int} (h : Qn l) (k : Nat) : 0 <= Qb l k /\ Qb l k < 18446744073709551616 := by
  by_cases hk : k < l.length
  . exact h _ (Jd hk)
  . simp [Qb, hk]
/-- The i-th byte of words, the lowest first. -/
def Jk (zs : List Int) (i : Nat) : Int := Qb zs (i / 8) / 2 ^ (8 * (i % 8)) % 256
def Zx (zs : List Int) (n : Nat) : List Int := (List.range n).map (Jk zs)
/-- The first m bytes of the j-th word, the lowest first. -/
def Qz (za : List Int) (j : Nat) : Nat -> Int
  | 0 => 0
  | m + 1 => Qz za j m + Qb za (8 * j + m) * 2 ^ (8 * m)
def ZO (za : List Int) (n : Nat) : List Int := (List.range n).map fun j => Qz za j 8
theorem VG (za : List Int) (hb : Qd za) (j m : Nat) (hm : m <= 8) : 0 <= Qz za j m /\ Qz za j m < 2 ^ (8 * m) := by
  induction m with
  | zero => exact ⟨by simp [Qz], by simp [Qz]⟩
  | succ m ih =>
    have := ih (by omega)
    have hx := hb.at (8 * j + m)
    simp only [Qz]
    rw [show 8 * (m + 1) = 8 * m + 8 by omega, Int.pow_add]
    generalize hp : (2 : Int) ^ (8 * m) = p at *
    generalize Qb za (8 * j + m) = x at *
    have hp0 : 0 < p := by rw [<- hp]; exact Int.pow_pos (by omega)
    have h1 : 0 <= x * p := Int.mul_nonneg hx.1 (by omega)
    have h2 : x * p <= 255 * p := Int.mul_le_mul_of_nonneg_right hx.2 (by omega)
    constructor
    . omega
    . have : p * 2 ^ 8 = 255 * p + p := by omega
      omega
theorem DJ (p c : Int) (m : Nat) (hm : m < 8) (hp : 0 <= p /\ p < 2 ^ (8 * m)) (hc : 0 <= c /\ c <= 255) :
    bits BinOp.or IntKind.u64 p (IntKind.u64.wrap (c * 2 ^ (8 * m))) = p + c * 2 ^ (8 * m) := by
  have e : IntKind.u64.wrap (c * 2 ^ (8 * m)) = c * 2 ^ (8 * m) /\ 0 <= c * 2 ^ (8 * m) /\ c * 2 ^ (8 * m) < 18446744073709551616 /\ (2 : Int) ^ (8 * m) <= 18446744073709551616 := by
    rw [YC]
    obtain rfl | rfl | rfl | rfl | rfl | rfl | rfl | rfl : m = 0 \/ m = 1 \/ m = 2 \/ m = 3 \/ m = 4 \/ m = 5 \/ m = 6 \/ m = 7 := by omega
    all_goals
      simp only [Nat.reduceMul, Int.reducePow]
      omega
  obtain ⟨e1, e2, e3, e4⟩ := e
  rw [e1]
  have := Yb (c * 2 ^ (8 * m)) p (8 * m) e2 e3 (Int.mul_emod_left _ _) hp.1 hp.2 (by omega)
  rw [show bits BinOp.or IntKind.u64 p (c * 2 ^ (8 * m)) = bits BinOp.or IntKind.u64 (c * 2 ^ (8 * m)) p from by simp only [bits, BitVec.or_comm], this]
  omega
/-- What is borrowed. -/
def bor (x y b : Int) : Int := if x < y + b then 1 else 0
theorem Qfn (x y b : Int) : bor x y b = 0 \/ bor x y b = 1 := by unfold bor; split <;> omega
/-- The borrow behind m words. -/
def Vw (xs ys : List Int) : Nat -> Int
  | 0 => 0
  | m + 1 => bor (Qb xs m) (Qb ys m) (Vw xs ys m)
theorem Jb (xs ys : List Int) (m : Nat) : 0 <= Vw xs ys m /\ Vw xs ys m <= 1 := by
  cases m with
  | zero => simp [Vw]
  | succ m => have := Qfn (Qb xs m) (Qb ys m) (Vw xs ys m); simp only [Vw]; omega
def Ec (xs ys : List Int) (m : Nat) : Int := (Qb xs m - Qb ys m - Vw xs ys m) % 18446744073709551616
def Zm (xs ys : List Int) (n : Nat) : List Int := (List.range n).map (Ec xs ys)
/-- The carry behind m words. -/
def Hi (xs ys : List Int) : Nat -> Int
  | 0 => 0
  | m + 1 => (Qb xs m + Qb ys m + Hi xs ys m) / 18446744073709551616
theorem Qac (xs ys : List Int) (hx : Qn xs) (hy : Qn ys) (m : Nat) : 0 <= Hi xs ys m /\ Hi xs ys m <= 1 := by
  induction m with
  | zero => simp [Hi]
  | succ m ih => have := hx.at m; have := hy.at m; simp only [Hi]; omega
def Qbl (xs ys : List Int) (m : Nat) : Int := (Qb xs m + Qb ys m + Hi xs ys m) % 18446744073709551616
def Ke (xs ys : List Int) (n : Nat) : List Int := (List.range n).map (Qbl xs ys)
/-- The order's words. -/
def Z0 : List Int := [6346243789798364141, 1503914060200516822, 0, 1152921504606846976]
theorem XR : Qn Z0 := by unfold Qn; decide
/-- A number of words, the lowest first. -/
def Qf (xs : List Int) : Nat -> Int
  | 0 => 0
  | m + 1 => Qf xs m + Qb xs m * 2 ^ (64 * m)
theorem Xl (xs : List Int) (hx : Qn xs) (m : Nat) : 0 <= Qf xs m /\ Qf xs m < 2 ^ (64 * m) := by
  induction m with
  | zero => exact ⟨by simp [Qf], by simp [Qf]⟩
  | succ m ih =>
    have hy := hx.at m
    simp only [Qf]
    rw [show 64 * (m + 1) = 64 * m + 64 by omega, Int.pow_add]
    generalize hp : (2 : Int) ^ (64 * m) = p at *
    generalize Qb xs m = x at *
    have hp0 : 0 < p := by rw [<- hp]; exact Int.pow_pos (by omega)
    have h1 : 0 <= x * p := Int.mul_nonneg hy.1 (by omega)
    have h2 : x * p <= 18446744073709551615 * p := Int.mul_le_mul_of_nonneg_right (by omega) (by omega)
    constructor
    . omega
    . have : p * 2 ^ 64 = 18446744073709551615 * p + p := by omega
      omega
/-- A difference word by word is a difference. -/
theorem Jl (xs ys : List Int) (hx : Qn xs) (hy : Qn ys) (n m : Nat) (hm : m <= n) : Qf (Zm xs ys n) m = Qf xs m - Qf ys m + Vw xs ys m * 2 ^ (64 * m) := by
  induction m with
  | zero => simp [Qf, Vw]
  | succ m ih =>
    have h0 := ih (by omega)
    have hxm := hx.at m
    have hym := hy.at m
    have hb := Jb xs ys m
    have e : Qb (Zm xs ys n) m = Ec xs ys m := by simp [Zm, Qb, show m < n by omega]
    simp only [Qf, Vw, e, h0]
    rw [show 64 * (m + 1) = 64 * m + 64 by omega, Int.pow_add]
    generalize (2 : Int) ^ (64 * m) = p
    have hd : Ec xs ys m = Qb xs m - Qb ys m - Vw xs ys m + bor (Qb xs m) (Qb ys m) (Vw xs ys m) * 18446744073709551616 := by
      unfold Ec bor
      split <;> omega
    rw [hd]
    grind
theorem Qbz (xs ys : List Int) (hx : Qn xs) (hy : Qn ys) (n m : Nat) (hm : m <= n) : Qf (Ke xs ys n) m + Hi xs ys m * 2 ^ (64 * m) = Qf xs m + Qf ys m := by
  induction m with
  | zero => simp [Qf, Hi]
  | succ m ih =>
    have h0 := ih (by omega)
    have e : Qb (Ke xs ys n) m = Qbl xs ys m := by simp [Ke, Qb, show m < n by omega]
    simp only [Qf, Hi, e]
    rw [show 64 * (m + 1) = 64 * m + 64 by omega, Int.pow_add]
    generalize (2 : Int) ^ (64 * m) = p at *
    have hd : Qbl xs ys m + (Qb xs m + Qb ys m + Hi xs ys m) / 18446744073709551616 * 18446744073709551616 = Qb xs m + Qb ys m + Hi xs ys m := by
      unfold Qbl
      omega
    grind
theorem Ja (xs ys : List Int) (hx : Qn xs) (hy : Qn ys) (n : Nat) : Vw xs ys n = if Qf xs n < Qf ys n then 1 else 0 := by
  have h := Jl xs ys hx hy n n (Nat.le_refl _)
  have hw : Qn (Zm xs ys n) := by
    intro x hx
    simp only [Zm, List.mem_map] at hx
    obtain ⟨k, _, rfl⟩ := hx
    unfold Ec
    omega
  have h1 := Xl (Zm xs ys n) hw n
  have h2 := Xl xs hx n
  have h3 := Xl ys hy n
  have hb := Jb xs ys n
  generalize (2 : Int) ^ (64 * n) = p at *
  have : Vw xs ys n = 0 \/ Vw xs ys n = 1 := by omega
  rcases this with e | e
  . rw [e] at h ⊢; rw [if_neg (by omega)]
  . rw [e] at h ⊢; rw [if_pos (by omega)]
theorem QhL (xs ys : List Int) (hx : Qn xs) (hy : Qn ys) (k : Nat) (hk : k < 4) (he : ∀ j, k < j -> j < 4 -> Qb xs j = Qb ys j) (hn : Qb xs k ≠ Qb ys k) : decide (Qb xs k < Qb ys k) = decide (Qf xs 4 < Qf ys 4) := by
  have x0 := hx.at 0; have x1 := hx.at 1; have x2 := hx.at 2; have x3 := hx.at 3
  have y0 := hy.at 0; have y1 := hy.at 1; have y2 := hy.at 2; have y3 := hy.at 3
  have e : (Qb xs k < Qb ys k) ↔ (Qf xs 4 < Qf ys 4) := by
    simp only [Qf, Nat.reduceMul, Int.reducePow]
    obtain rfl | rfl | rfl | rfl : k = 0 \/ k = 1 \/ k = 2 \/ k = 3 := by omega
    . have := he 1 (by omega) (by omega); have := he 2 (by omega) (by omega); have := he 3 (by omega) (by omega)
      omega
    . have := he 2 (by omega) (by omega); have := he 3 (by omega) (by omega)
      omega
    . have := he 3 (by omega) (by omega)
      omega
    . omega
  exact decide_eq_decide.2 e
theorem Fu (za : List Int) (hb : Qd za) (n : Nat) : Qn (ZO za n) := by
  intro x hx
  simp only [ZO, List.mem_map] at hx
  obtain ⟨k, _, rfl⟩ := hx
  have := VG za hb k 8 (Nat.le_refl _)
  simp only [Nat.reduceMul, Int.reducePow] at this
  exact this
/-- The n lowest words of a number. -/
def Qc (n : Nat) (v : Int) : List Int := (List.range n).map fun j => v / 2 ^ (64 * j) % 18446744073709551616
theorem Qo (n : Nat) (v : Int) : Qn (Qc n v) := by
  intro x hx
  simp only [Qc, List.mem_map] at hx
  obtain ⟨j, _, rfl⟩ := hx
  omega
theorem Qa (n : Nat) (v : Int) : (Qc n v).length = n := by simp [Qc]
theorem V9 (n : Nat) (v : Int) (j : Nat) (h : j < n) : Qb (Qc n v) j = v / 2 ^ (64 * j) % 18446744073709551616 := by simp [Qc, Qb, h]
theorem ZY (m : Nat) : (2 : Int) ^ (64 * (m + 1)) = 2 ^ (64 * m) * 18446744073709551616 := by rw [show 64 * (m + 1) = 64 * m + 64 by omega, Int.pow_add]; rfl
theorem QI (m : Nat) : (0 : Int) < 2 ^ m := Int.pow_pos (by omega)
theorem Hn (xs : List Int) (hx : Qn xs) (n m : Nat) (h : m < n) : Qf xs n / 2 ^ (64 * m) % 18446744073709551616 = Qb xs m := by
  induction n with
  | zero => omega
  | succ n ih =>
    have hp := QI (64 * m)
    by_cases e : m = n
    . subst e
      have h1 := Xl xs hx m
      have h2 := hx.at m
      simp only [Qf]
      rw [Int.add_mul_ediv_right _ _ (by omega), Int.ediv_eq_zero_of_lt h1.1 h1.2, Int.zero_add, Int.emod_eq_of_lt h2.1 h2.2]
    . have hmn : m < n := by omega
      rw [<- ih hmn]
      simp only [Qf]
      obtain ⟨d, rfl⟩ : ∃ d, n = m + 1 + d := ⟨n - m - 1, by omega⟩
      have e2 : (2 : Int) ^ (64 * (m + 1 + d)) = 2 ^ (64 * m) * (18446744073709551616 * 2 ^ (64 * d)) := by
        rw [show 64 * (m + 1 + d) = 64 * (m + 1) + 64 * d by omega, Int.pow_add, ZY, Int.mul_assoc]
      rw [e2, show Qb xs (m + 1 + d) * (2 ^ (64 * m) * (18446744073709551616 * 2 ^ (64 * d))) = (Qb xs (m + 1 + d) * 2 ^ (64 * d) * 18446744073709551616) * 2 ^ (64 * m) by
        rw [<- Int.mul_assoc, <- Int.mul_assoc, Int.mul_right_comm _ 18446744073709551616 _, Int.mul_right_comm _ (2 ^ (64 * m)) _, Int.mul_right_comm _ (2 ^ (64 * m)) _]]
      rw [Int.add_mul_ediv_right _ _ (by omega), Int.add_mul_emod_self_right]
theorem VW (xs : List Int) (hx : Qn xs) (n : Nat) (hl : xs.length = n) : xs = Qc n (Qf xs n) := by
  apply XC (by rw [Qa, hl])
  intro j hj
  rw [V9 n _ j (by omega), Hn xs hx n j (by omega)]
theorem Ug (n : Nat) (v : Int) (h0 : 0 <= v) : Qf (Qc n v) n = v % 2 ^ (64 * n) := by
  have : ∀ m, m <= n -> Qf (Qc n v) m = v % 2 ^ (64 * m) := by
    intro m
    induction m with
    | zero => intro _; simp [Qf]
    | succ m ih =>
      intro hm
      have hp := QI (64 * m)
      simp only [Qf]
      rw [ih (by omega), V9 n v m (by omega), ZY]
      have h1 := Int.emod_add_mul_ediv v (2 ^ (64 * m))
      have h2 := Int.emod_add_mul_ediv v (2 ^ (64 * m) * 18446744073709551616)
      have h3 := Int.emod_add_mul_ediv (v / 2 ^ (64 * m)) 18446744073709551616
      have h4 : v / 2 ^ (64 * m) / 18446744073709551616 = v / (2 ^ (64 * m) * 18446744073709551616) := Int.ediv_ediv_of_nonneg (by omega)
      generalize (2 : Int) ^ (64 * m) = p at *
      rw [h4] at h3
      generalize v / (p * 18446744073709551616) = q at *
      generalize v / p % 18446744073709551616 = r at *
      generalize v % (p * 18446744073709551616) = s at *
      grind
  exact this n (Nat.le_refl _)
/-- A number's bit. -/
def J6 (xs : List Int) (j : Nat) : Int := Qb xs (j / 64) / 2 ^ (j % 64) % 2
theorem J5 (xs : List Int) (j : Nat) : 0 <= J6 xs j /\ J6 xs j <= 1 := by unfold J6; omega
/-- The bit of a number is the bit of its words. -/
theorem FW (xs : List Int) (hx : Qn xs) (n j : Nat) (h : j < 64 * n) : J6 xs j = Qf xs n / 2 ^ j % 2 := by
  unfold J6
  have hm : j / 64 < n := by omega
  rw [<- Hn xs hx n (j / 64) hm]
  have e : (2 : Int) ^ j = 2 ^ (64 * (j / 64)) * 2 ^ (j % 64) := by rw [<- Int.pow_add]; congr 1; omega
  rw [e, <- Int.ediv_ediv_of_nonneg (Int.le_of_lt (QI _))]
  generalize Qf xs n / 2 ^ (64 * (j / 64)) = y
  have hj : j % 64 < 64 := by omega
  generalize j % 64 = t at *
  have e2 : (18446744073709551616 : Int) = 2 ^ t * (2 * 2 ^ (63 - t)) := by
    rw [<- Int.mul_assoc, Int.mul_comm (2 ^ t) 2, show (2 : Int) * 2 ^ t = 2 ^ (t + 1) by rw [Int.pow_succ, Int.mul_comm], <- Int.pow_add, show t + 1 + (63 - t) = 64 by omega]
    rfl
  have hp := QI t
  have h1 := Int.emod_add_mul_ediv y 18446744073709551616
  conv => rhs; rw [<- h1]
  rw [e2]
  generalize y / (2 ^ t * (2 * 2 ^ (63 - t))) = q
  generalize y % (2 ^ t * (2 * 2 ^ (63 - t))) = r
  rw [show r + 2 ^ t * (2 * 2 ^ (63 - t)) * q = r + (2 * (2 ^ (63 - t) * q)) * 2 ^ t by grind, Int.add_mul_ediv_right _ _ (by omega), Int.add_mul_emod_self_left]
theorem VV (v : Int) (j : Nat) : v / 2 ^ j = 2 * (v / 2 ^ (j + 1)) + v / 2 ^ j % 2 := by
  have e : v / 2 ^ (j + 1) = v / 2 ^ j / 2 := by rw [Int.pow_succ, <- Int.ediv_ediv_of_nonneg (Int.le_of_lt (QI j))]
  rw [e]
  omega
theorem Jp (xs ys : List Int) (n : Nat) : Qn (Zm xs ys n) := by
  intro x hx
  simp only [Zm, List.mem_map] at hx
  obtain ⟨m, _, rfl⟩ := hx
  unfold Ec
  omega
theorem QC {v : Int} (h0 : 0 <= v) (h1 : v < 2 ^ 256) : Qf (Qc 4 v) 4 = v := by
  rw [Ug 4 v h0]
  simp only [Nat.reduceMul, Int.reducePow] at *
  omega
theorem Y2 {xs : List Int} {v : Int} (hx : Qn xs) (hl : xs.length = 4) (h : Qf xs 4 = v) : xs = Qc 4 v := by
  subst h
  exact VW xs hx 4 hl
theorem Kd (xs ys : List Int) (n : Nat) : Qn (Ke xs ys n) := by
  intro x hx
  simp only [Ke, List.mem_map] at hx
  obtain ⟨m, _, rfl⟩ := hx
  unfold Qbl
  omega
theorem HF {u v : Int} (hu : 0 <= u /\ u < 2 ^ 256) (hv : 0 <= v /\ v < 2 ^ 256) : Zm (Qc 4 u) (Qc 4 v) 4 = Qc 4 ((u - v) % 2 ^ 256) /\ Vw (Qc 4 u) (Qc 4 v) 4 = if u < v then 1 else 0 := by
  have hb := Ja (Qc 4 u) (Qc 4 v) (Qo _ _) (Qo _ _) 4
  rw [QC hu.1 hu.2, QC hv.1 hv.2] at hb
  refine ⟨Y2 (Jp _ _ _) (by simp [Zm]) ?_, hb⟩
  rw [Jl _ _ (Qo _ _) (Qo _ _) 4 4 (Nat.le_refl _), QC hu.1 hu.2, QC hv.1 hv.2, hb]
  simp only [Nat.reduceMul, Int.reducePow] at *
  split <;> omega
/-- A number's value, by its bytes. -/
def Qk (zs : List Int) : Nat -> Int
  | 0 => 0
  | m + 1 => Qk zs m + Qb zs m * 2 ^ (8 * m)
theorem UT (zs : List Int) (hz : Qd zs) (m : Nat) : 0 <= Qk zs m /\ Qk zs m < 2 ^ (8 * m) := by
  induction m with
  | zero => exact ⟨by simp [Qk], by simp [Qk]⟩
  | succ m ih =>
    have hy := hz.at m
    simp only [Qk]
    rw [show 8 * (m + 1) = 8 * m + 8 by omega, Int.pow_add]
    generalize hp : (2 : Int) ^ (8 * m) = p at *
    generalize Qb zs m = x at *
    have hp0 : 0 < p := by rw [<- hp]; exact Int.pow_pos (by omega)
    have h1 : 0 <= x * p := Int.mul_nonneg hy.1 (by omega)
    have h2 : x * p <= 255 * p := Int.mul_le_mul_of_nonneg_right (by omega) (by omega)
    constructor
    . omega
    . have : p * 2 ^ 8 = 255 * p + p := by omega
      omega
theorem ZT (za : List Int) (j m : Nat) : Qk za (8 * j + m) = Qk za (8 * j) + Qz za j m * 2 ^ (64 * j) := by
  induction m with
  | zero => simp [Qz]
  | succ m ih =>
    rw [show 8 * j + (m + 1) = 8 * j + m + 1 by omega]
    simp only [Qk, ih, Qz]
    rw [show 8 * (8 * j + m) = 8 * m + 64 * j by omega, Int.pow_add]
    generalize (2 : Int) ^ (8 * m) = p
    generalize (2 : Int) ^ (64 * j) = q
    grind
theorem QaA (za : List Int) (n j : Nat) (h : j <= n) : Qf (ZO za n) j = Qk za (8 * j) := by
  induction j with
  | zero => rfl
  | succ j ih =>
    have e : Qb (ZO za n) j = Qz za j 8 := by simp [ZO, Qb, show j < n by omega]
    rw [show 8 * (j + 1) = 8 * j + 8 by omega, ZT]
    simp only [Qf, ih (by omega), e]
theorem GJ (za : List Int) (hz : Qd za) (n : Nat) : ZO za n = Qc n (Qk za (8 * n)) := by
  have h := VW (ZO za n) (Fu za hz n) n (by simp [ZO])
  rw [QaA za n n (Nat.le_refl _)] at h
  exact h
theorem Xw (za : List Int) (hz : Qd za) : 0 <= Qk za 32 /\ Qk za 32 < 2 ^ 256 := UT za hz 32
/-- The bytes of a number. -/
def QE (v : Int) : List Int := Zx (Qc 4 v) 32
theorem Qw (v : Int) : (QE v).length = 32 := by simp [QE, Zx]
theorem XS (v : Int) : Qd (QE v) := by
  intro x hx
  simp only [QE, Zx, List.mem_map] at hx
  obtain ⟨k, _, rfl⟩ := hx
  unfold Jk
  omega
theorem Ua (v : Int) (j : Nat) (h : j < 32) : Qb (QE v) j = v / 2 ^ (8 * j) % 256 := by
  have e : Qb (QE v) j = Jk (Qc 4 v) j := by simp [QE, Zx, Qb, h]
  rw [e, Jk, V9 4 v _ (by omega)]
  have e2 : (2 : Int) ^ (8 * j) = 2 ^ (64 * (j / 8)) * 2 ^ (8 * (j % 8)) := by rw [<- Int.pow_add]; congr 1; omega
  rw [e2, <- Int.ediv_ediv_of_nonneg (Int.le_of_lt (QI _))]
  generalize v / 2 ^ (64 * (j / 8)) = y
  have hj : j % 8 < 8 := by omega
  generalize j % 8 = t at *
  obtain rfl | rfl | rfl | rfl | rfl | rfl | rfl | rfl : t = 0 \/ t = 1 \/ t = 2 \/ t = 3 \/ t = 4 \/ t = 5 \/ t = 6 \/ t = 7 := by omega
  all_goals (simp only [Nat.reduceMul, Int.reducePow]; omega)
theorem ZU (v : Int) (h0 : 0 <= v) (h1 : v < 2 ^ 256) : Qk (QE v) 32 = v := by
  have : ∀ m, m <= 32 -> Qk (QE v) m = v % 2 ^ (8 * m) := by
    intro m
    induction m with
    | zero => intro _; simp [Qk]
    | succ m ih =>
      intro hm
      have hp := QI (8 * m)
      simp only [Qk]
      rw [ih (by omega), Ua v m (by omega), show 8 * (m + 1) = 8 * m + 8 by omega, Int.pow_add, show (2 : Int) ^ 8 = 256 from rfl]
      have h1 := Int.emod_add_mul_ediv v (2 ^ (8 * m))
      have h2 := Int.emod_add_mul_ediv v (2 ^ (8 * m) * 256)
      have h3 := Int.emod_add_mul_ediv (v / 2 ^ (8 * m)) 256
      have h4 : v / 2 ^ (8 * m) / 256 = v / (2 ^ (8 * m) * 256) := Int.ediv_ediv_of_nonneg (by omega)
      generalize (2 : Int) ^ (8 * m) = p at *
      rw [h4] at h3
      generalize v / (p * 256) = q at *
      generalize v / p % 256 = r at *
      generalize v % (p * 256) = s at *
      grind
  rw [this 32 (Nat.le_refl _)]
  simp only [Nat.reduceMul, Int.reducePow] at *
  omega
theorem Fi {u v : Int} (hu : 0 <= u /\ u < 2 ^ 256) (hv : 0 <= v /\ v < 2 ^ 256) (h : QE u = QE v) : u = v := by
  rw [<- ZU u hu.1 hu.2, h, ZU v hv.1 hv.2]
/-- A bit of a number of bytes. -/
def Uy (zs : List Int) (j : Nat) : Int := Qb zs (j / 8) / 2 ^ (j % 8) % 2
theorem QdD (zs : List Int) (j : Nat) : Uy zs j = 0 \/ Uy zs j = 1 := by unfold Uy; omega
theorem FX (zs : List Int) (hz : Qd zs) (n j : Nat) (h : j < 8 * n) : Uy zs j = Qk zs n / 2 ^ j % 2 := by
  have key : ∀ n, j / 8 < n -> Qk zs n / 2 ^ (8 * (j / 8)) % 256 = Qb zs (j / 8) := by
    intro n
    induction n with
    | zero => omega
    | succ n ih =>
      intro hn
      have hp := QI (8 * (j / 8))
      by_cases e : j / 8 = n
      . have h1 := UT zs hz n
        have h2 := hz.at n
        subst e
        simp only [Qk]
        rw [Int.add_mul_ediv_right _ _ (by omega), Int.ediv_eq_zero_of_lt h1.1 h1.2, Int.zero_add, Int.emod_eq_of_lt h2.1 (by omega)]
      . rw [<- ih (by omega)]
        simp only [Qk]
        obtain ⟨d, hd⟩ : ∃ d, n = j / 8 + 1 + d := ⟨n - j / 8 - 1, by omega⟩
        have e2 : (2 : Int) ^ (8 * n) = 2 ^ (8 * (j / 8)) * (256 * 2 ^ (8 * d)) := by
          rw [show (256 : Int) = 2 ^ 8 from rfl, <- Int.pow_add, <- Int.pow_add]; congr 1; omega
        rw [e2]
        generalize Qb zs n = x
        generalize (2 : Int) ^ (8 * d) = q
        generalize (2 : Int) ^ (8 * (j / 8)) = p at *
        rw [show x * (p * (256 * q)) = (x * q * 256) * p by grind, Int.add_mul_ediv_right _ _ (by omega), Int.add_mul_emod_self_right]
  unfold Uy
  rw [<- key n (by omega)]
  have e : (2 : Int) ^ j = 2 ^ (8 * (j / 8)) * 2 ^ (j % 8) := by rw [<- Int.pow_add]; congr 1; omega
  rw [e, <- Int.ediv_ediv_of_nonneg (Int.le_of_lt (QI _))]
  generalize Qk zs n / 2 ^ (8 * (j / 8)) = y
  have hj : j % 8 < 8 := by omega
  generalize j % 8 = t at *
  obtain rfl | rfl | rfl | rfl | rfl | rfl | rfl | rfl : t = 0 \/ t = 1 \/ t = 2 \/ t = 3 \/ t = 4 \/ t = 5 \/ t = 6 \/ t = 7 := by omega
  all_goals (simp only [Int.reducePow]; omega)
theorem Vh {x : Int} (h : 0 <= x /\ x <= 255) : bits BinOp.and IntKind.u8 x 1 = x % 2 := Y9 (p := fun y => bits BinOp.and IntKind.u8 y 1 = y % 2) (by decide +kernel) h
theorem Vv {x : Int} (h : 0 <= x /\ x <= 255) (t : Nat) : 0 <= x / 2 ^ t /\ x / 2 ^ t <= 255 := by
  have h1 : 0 <= x / 2 ^ t := Int.ediv_nonneg h.1 (Int.le_of_lt (QI _))
  have h2 : x / 2 ^ t <= x := Int.ediv_le_self _ h.1
  omega
/-- The modulus. -/
def pV : Int := 57896044618658097711785492504343953926634992332820282019728792003956564819949
/-- What limbs stand for. -/
def X5 (xs : List Int) : Int := Qb xs 0 + Qb xs 1 * 2 ^ 51 + Qb xs 2 * 2 ^ 102 + Qb xs 3 * 2 ^ 153 + Qb xs 4 * 2 ^ 204
/-- Limbs a little above 51 bits at most. -/
def QX (xs : List Int) : Prop := ∀ k, 0 <= Qb xs k /\ Qb xs k < 2251799814209536
theorem YY {a b c d e : Int} (ha : 0 <= a /\ a < 18446744073709551616) (hb : 0 <= b /\ b < 18446744073709551616) (hc : 0 <= c /\ c < 18446744073709551616) (hd : 0 <= d /\ d < 18446744073709551616) (he : 0 <= e /\ e < 18446744073709551616) : Qn [a, b, c, d, e] := by
  intro x hx
  simp only [List.mem_cons, List.not_mem_nil, or_false] at hx
  rcases hx with rfl | rfl | rfl | rfl | rfl <;> assumption
theorem XO {a b c d e : Int} (ha : 0 <= a /\ a < 2251799814209536) (hb : 0 <= b /\ b < 2251799814209536) (hc : 0 <= c /\ c < 2251799814209536) (hd : 0 <= d /\ d < 2251799814209536) (he : 0 <= e /\ e < 2251799814209536) : QX [a, b, c, d, e] := by
  intro k
  match k with
  | 0 => exact ha
  | 1 => exact hb
  | 2 => exact hc
  | 3 => exact hd
  | 4 => exact he
  | k + 5 => exact ⟨by simp [Qb], by simp [Qb]⟩
theorem QX.words {xs : List Int} (h : QX xs) : Qn xs := fun x hx => by
  obtain ⟨i, hi, rfl⟩ := List.getElem_of_mem hx
  have := h i
  rw [J9 hi] at this
  omega
/-- A number modulo p, as five limbs. -/
structure QH (xs : List Int) (v : Int) : Prop where
  len : xs.length = 5
  small : QX xs
  val : X5 xs % pV = v
theorem QH.words {xs : List Int} {v : Int} (h : QH xs v) : Qn xs := h.small.words
theorem XQ (v : Int) : 0 <= v % pV /\ v % pV < pV := by unfold pV; omega
theorem UA (v k : Int) : (v - k * pV) % pV = v % pV := by
  rw [show v - k * pV = v + (-k) * pV by rw [Int.neg_mul]; rfl, Int.add_mul_emod_self_right]
def Qm (x : List Int) : List Int :=
  [Qb x 0 % 2251799813685248 + Qb x 4 / 2251799813685248 * 19, Qb x 1 % 2251799813685248 + Qb x 0 / 2251799813685248, Qb x 2 % 2251799813685248 + Qb x 1 / 2251799813685248,
   Qb x 3 % 2251799813685248 + Qb x 2 / 2251799813685248, Qb x 4 % 2251799813685248 + Qb x 3 / 2251799813685248]
theorem XD (x : List Int) (hx : Qn x) : QH (Qm x) (X5 x % pV) := by
  have h0 := hx.at 0; have h1 := hx.at 1; have h2 := hx.at 2; have h3 := hx.at 3; have h4 := hx.at 4
  refine ⟨rfl, XO (by omega) (by omega) (by omega) (by omega) (by omega), ?_⟩
  have e : X5 (Qm x) = X5 x - Qb x 4 / 2251799813685248 * pV := by
    unfold pV
    simp only [X5, Qm, Xc, Xd, Int.reducePow]
    omega
  rw [e, UA]
def KN (x y : List Int) : List Int := [Qb x 0 + Qb y 0, Qb x 1 + Qb y 1, Qb x 2 + Qb y 2, Qb x 3 + Qb y 3, Qb x 4 + Qb y 4]
theorem UB {x y : List Int} (hx : QX x) (hy : QX y) : Qn (KN x y) := by
  have h0 := hx 0; have h1 := hx 1; have h2 := hx 2; have h3 := hx 3; have h4 := hx 4
  have g0 := hy 0; have g1 := hy 1; have g2 := hy 2; have g3 := hy 3; have g4 := hy 4
  exact YY (by omega) (by omega) (by omega) (by omega) (by omega)
theorem HY {x y : List Int} {u v : Int} (hx : QH x u) (hy : QH y v) : QH (Qm (KN x y)) ((u + v) % pV) := by
  have h := XD _ (UB hx.small hy.small)
  have e : X5 (KN x y) = X5 x + X5 y := by
    simp only [X5, KN, Xc, Xd, Int.reducePow]
    omega
  rw [e, Int.add_emod, hx.val, hy.val] at h
  exact h
def XU (x y : List Int) : List Int := [Qb x 0 + (4503599627370458 - Qb y 0), Qb x 1 + (4503599627370494 - Qb y 1), Qb x 2 + (4503599627370494 - Qb y 2), Qb x 3 + (4503599627370494 - Qb y 3), Qb x 4 + (4503599627370494 - Qb y 4)]
theorem VN {x y : List Int} (hx : QX x) (hy : QX y) : Qn (XU x y) := by
  have h0 := hx 0; have h1 := hx 1; have h2 := hx 2; have h3 := hx 3; have h4 := hx 4
  have g0 := hy 0; have g1 := hy 1; have g2 := hy 2; have g3 := hy 3; have g4 := hy 4
  exact YY (by omega) (by omega) (by omega) (by omega) (by omega)
theorem Z3 {x y : List Int} {u v : Int} (hx : QH x u) (hy : QH y v) : QH (Qm (XU x y)) ((u - v) % pV) := by
  have h := XD _ (VN hx.small hy.small)
  have e : X5 (XU x y) = X5 x - X5 y + 2 * pV := by
    unfold pV
    simp only [X5, XU, Xc, Xd, Int.reducePow]
    omega
  rw [e, Int.add_mul_emod_self_right, Int.sub_emod, hx.val, hy.val] at h
  exact h
/-- The five sums of products. -/
def QB (x y : List Int) : Nat -> Int
  | 0 => Qb x 0 * Qb y 0 + Qb x 1 * 19 * Qb y 4 + Qb x 2 * 19 * Qb y 3 + Qb x 3 * 19 * Qb y 2 + Qb x 4 * 19 * Qb y 1
  | 1 => Qb x 0 * Qb y 1 + Qb x 1 * Qb y 0 + Qb x 2 * 19 * Qb y 4 + Qb x 3 * 19 * Qb y 3 + Qb x 4 * 19 * Qb y 2
  | 2 => Qb x 0 * Qb y 2 + Qb x 1 * Qb y 1 + Qb x 2 * Qb y 0 + Qb x 3 * 19 * Qb y 4 + Qb x 4 * 19 * Qb y 3
  | 3 => Qb x 0 * Qb y 3 + Qb x 1 * Qb y 2 + Qb x 2 * Qb y 1 + Qb x 3 * Qb y 0 + Qb x 4 * 19 * Qb y 4
  | _ => Qb x 0 * Qb y 4 + Qb x 1 * Qb y 3 + Qb x 2 * Qb y 2 + Qb x 3 * Qb y 1 + Qb x 4 * Qb y 0
theorem Qex (x0 x1 x2 x3 x4 y0 y1 y2 y3 y4 b : Int) :
    (x0 + x1 * b + x2 * (b * b) + x3 * (b * b * b) + x4 * (b * b * b * b)) * (y0 + y1 * b + y2 * (b * b) + y3 * (b * b * b) + y4 * (b * b * b * b)) =
    (x0 * y0 + x1 * 19 * y4 + x2 * 19 * y3 + x3 * 19 * y2 + x4 * 19 * y1) + (x0 * y1 + x1 * y0 + x2 * 19 * y4 + x3 * 19 * y3 + x4 * 19 * y2) * b + (x0 * y2 + x1 * y1 + x2 * y0 + x3 * 19 * y4 + x4 * 19 * y3) * (b * b) +
    (x0 * y3 + x1 * y2 + x2 * y1 + x3 * y0 + x4 * 19 * y4) * (b * b * b) + (x0 * y4 + x1 * y3 + x2 * y2 + x3 * y1 + x4 * y0) * (b * b * b * b) +
    (b * b * b * b * b - 19) * (x1 * y4 + x2 * y3 + x3 * y2 + x4 * y1 + (x2 * y4 + x3 * y3 + x4 * y2) * b + (x3 * y4 + x4 * y3) * (b * b) + x4 * y4 * (b * b * b)) := by grind
def Dz (x y : List Int) : Int := QB x y 0 + QB x y 1 * 2 ^ 51 + QB x y 2 * 2 ^ 102 + QB x y 3 * 2 ^ 153 + QB x y 4 * 2 ^ 204
theorem QaP (x y : List Int) : Dz x y % pV = (X5 x * X5 y) % pV := by
  have h := Qex (Qb x 0) (Qb x 1) (Qb x 2) (Qb x 3) (Qb x 4) (Qb y 0) (Qb y 1) (Qb y 2) (Qb y 3) (Qb y 4) 2251799813685248
  have e1 : (2251799813685248 : Int) * 2251799813685248 = 2 ^ 102 := by decide +kernel
  have e2 : (2251799813685248 : Int) * 2251799813685248 * 2251799813685248 = 2 ^ 153 := by decide +kernel
  have e3 : (2251799813685248 : Int) * 2251799813685248 * 2251799813685248 * 2251799813685248 = 2 ^ 204 := by decide +kernel
  have e4 : (2251799813685248 : Int) * 2251799813685248 * 2251799813685248 * 2251799813685248 * 2251799813685248 - 19 = pV := by decide +kernel
  rw [e4, e3, e2, e1] at h
  have e : X5 x * X5 y = Dz x y + pV * (Qb x 1 * Qb y 4 + Qb x 2 * Qb y 3 + Qb x 3 * Qb y 2 + Qb x 4 * Qb y 1 + (Qb x 2 * Qb y 4 + Qb x 3 * Qb y 3 + Qb x 4 * Qb y 2) * 2251799813685248 + (Qb x 3 * Qb y 4 + Qb x 4 * Qb y 3) * 2 ^ 102 + Qb x 4 * Qb y 4 * 2 ^ 153) := h
  rw [e, Int.add_mul_emod_self_left]
theorem Qa3 {a b A B : Int} (ha : 0 <= a /\ a < A) (hb : 0 <= b /\ b < B) : 0 <= a * b /\ a * b <= A * B := ⟨Int.mul_nonneg ha.1 hb.1, Int.mul_le_mul (by omega) (by omega) hb.1 (by omega)⟩
theorem Uj {x y : List Int} (hx : QX x) (hy : QX y) (i j : Nat) : 0 <= Qb x i * Qb y j /\ Qb x i * Qb y j <= 5070602403274100847696513335296 := by
  have h := Qa3 (hx i) (hy j)
  refine ⟨h.1, Int.le_trans h.2 (by decide)⟩
/-- The limbs ahead of the carry. -/
def QU (x y : List Int) : List Int :=
  [QB x y 0 % 2251799813685248 + QB x y 4 / 2251799813685248 * 19, QB x y 1 % 2251799813685248 + QB x y 0 / 2251799813685248, QB x y 2 % 2251799813685248 + QB x y 1 / 2251799813685248,
   QB x y 3 % 2251799813685248 + QB x y 2 / 2251799813685248, QB x y 4 % 2251799813685248 + QB x y 3 / 2251799813685248]
theorem QT {x y : List Int} (hx : QX x) (hy : QX y) (k : Nat) : 0 <= QB x y k /\ QB x y k <= 77 * 5070602403274100847696513335296 := by
  have m := Uj hx hy
  have c : ∀ i j, Qb x i * 19 * Qb y j = Qb x i * Qb y j * 19 := fun i j => by rw [Int.mul_right_comm]
  match k with
  | 0 => have := m 0 0; have := m 1 4; have := m 2 3; have := m 3 2; have := m 4 1; simp only [QB, c]; omega
  | 1 => have := m 0 1; have := m 1 0; have := m 2 4; have := m 3 3; have := m 4 2; simp only [QB, c]; omega
  | 2 => have := m 0 2; have := m 1 1; have := m 2 0; have := m 3 4; have := m 4 3; simp only [QB, c]; omega
  | 3 => have := m 0 3; have := m 1 2; have := m 2 1; have := m 3 0; have := m 4 4; simp only [QB, c]; omega
  | k + 4 => have := m 0 4; have := m 1 3; have := m 2 2; have := m 3 1; have := m 4 0; simp only [QB]; omega
theorem VE {x y : List Int} (hx : QX x) (hy : QX y) : QB x y 4 <= 5 * 5070602403274100847696513335296 := by
  have m := Uj hx hy
  have := m 0 4; have := m 1 3; have := m 2 2; have := m 3 1; have := m 4 0; simp only [QB]; omega
theorem Vy {x y : List Int} (hx : QX x) (hy : QX y) : Qn (QU x y) := by
  have h0 := QT hx hy 0; have h1 := QT hx hy 1; have h2 := QT hx hy 2; have h3 := QT hx hy 3; have h4 := QT hx hy 4
  have h5 := VE hx hy
  exact YY (by omega) (by omega) (by omega) (by omega) (by omega)
theorem QZ {x y : List Int} {u v : Int} (hx : QH x u) (hy : QH y v) : QH (Qm (QU x y)) ((u * v) % pV) := by
  have h := XD _ (Vy hx.small hy.small)
  have e : X5 (QU x y) = Dz x y - QB x y 4 / 2251799813685248 * pV := by
    unfold pV Dz
    simp only [X5, QU, Xc, Xd, Int.reducePow]
    generalize QB x y 0 = r0
    generalize QB x y 1 = r1
    generalize QB x y 2 = r2
    generalize QB x y 3 = r3
    generalize QB x y 4 = r4
    omega
  rw [e, UA, QaP, Int.mul_emod, hx.val, hy.val] at h
  exact h
def YT (za : List Int) : List Int :=
  [Qz za 0 8 % 2251799813685248, (Qz za 0 8 / 2251799813685248 + Qz za 1 8 * 8192) % 2251799813685248, (Qz za 1 8 / 274877906944 + Qz za 2 8 * 67108864) % 2251799813685248,
   (Qz za 2 8 / 33554432 + Qz za 3 8 * 549755813888) % 2251799813685248, Qz za 3 8 / 4096]
theorem Q0 (za : List Int) (hb : Qd za) (j : Nat) : 0 <= Qz za j 8 /\ Qz za j 8 < 18446744073709551616 := by
  have := VG za hb j 8 (Nat.le_refl _)
  simp only [Nat.reduceMul, Int.reducePow] at this
  exact this
theorem UD (za : List Int) (hb : Qd za) : Qn (YT za) := by
  have h0 := Q0 za hb 0; have h1 := Q0 za hb 1; have h2 := Q0 za hb 2; have h3 := Q0 za hb 3
  exact YY (by omega) (by omega) (by omega) (by omega) (by omega)
theorem KW (za : List Int) (hb : Qd za) : QH (Qm (YT za)) (Qk za 32 % pV) := by
  have h := XD _ (UD za hb)
  have h0 := Q0 za hb 0; have h1 := Q0 za hb 1; have h2 := Q0 za hb 2; have h3 := Q0 za hb 3
  have e : X5 (YT za) = Qk za 32 := by
    have p3 := ZT za 3 8; have p2 := ZT za 2 8; have p1 := ZT za 1 8; have p0 := ZT za 0 8
    simp only [Nat.reduceMul, Nat.reduceAdd, Int.reducePow] at p0 p1 p2 p3
    have p00 : Qk za 0 = 0 := rfl
    rw [p3, p2, p1, p0, p00]
    simp only [X5, YT, Xc, Xd, Int.reducePow]
    generalize Qz za 0 8 = a at *
    generalize Qz za 1 8 = b at *
    generalize Qz za 2 8 = c at *
    generalize Qz za 3 8 = d at *
    omega
  rw [e] at h
  exact h
theorem Vp (a b : Int) (n : Nat) (hn : n <= 64) (ha : 0 <= a /\ a < 2 ^ n) (hb : 0 <= b) : bits BinOp.or IntKind.u64 a (IntKind.u64.wrap (b * 2 ^ n)) = a + b * 2 ^ n % 18446744073709551616 := by
  rw [YC]
  have hp : (0 : Int) < 2 ^ n := Int.pow_pos (by omega)
  have e64 : (18446744073709551616 : Int) = 2 ^ n * 2 ^ (64 - n) := by rw [<- Int.pow_add, show n + (64 - n) = 64 by omega]; rfl
  have hm : b * 2 ^ n % 18446744073709551616 % 2 ^ n = 0 := by
    rw [e64, Int.emod_emod_of_dvd _ (Int.dvd_mul_right _ _), Int.mul_emod_left]
  have hle : (2 : Int) ^ n <= 18446744073709551616 := by
    have h1 : (0 : Int) < 2 ^ (64 - n) := Int.pow_pos (by omega)
    have h2 : (2 : Int) ^ n * 1 <= 2 ^ n * 2 ^ (64 - n) := Int.mul_le_mul_of_nonneg_left (by omega) (by omega)
    omega
  have h := Yb (b * 2 ^ n % 18446744073709551616) a n (by omega) (by omega) hm ha.1 ha.2 (by omega)
  rw [show bits BinOp.or IntKind.u64 a (b * 2 ^ n % 18446744073709551616) = bits BinOp.or IntKind.u64 (b * 2 ^ n % 18446744073709551616) a from by simp only [bits, BitVec.or_comm], h]
  omega
/-- A sum of 128 bits. -/
def wv (v : Int) : Value := Xa .u64 [v / 18446744073709551616, v % 18446744073709551616]
/-- What runs over, with 19 more. -/
def Ki (cs : List Int) : Nat -> Int
  | 0 => (Qb cs 0 + 19) / 2251799813685248
  | k + 1 => (Qb cs (k + 1) + Ki cs k) / 2251799813685248
/-- The limbs, with what is carried into them. -/
def yS (cs : List Int) : Nat -> Int
  | 0 => Qb cs 0 + 19 * Ki cs 4
  | k + 1 => Qb cs (k + 1) + yS cs k / 2251799813685248
def dS (cs : List Int) (k : Nat) : Int := yS cs k % 2251799813685248
def Kg (cs : List Int) : List Int := [dS cs 0 + dS cs 1 * 2251799813685248 % 18446744073709551616, dS cs 1 / 8192 + dS cs 2 * 274877906944 % 18446744073709551616, dS cs 2 / 67108864 + dS cs 3 * 33554432 % 18446744073709551616, dS cs 3 / 549755813888 + dS cs 4 * 4096 % 18446744073709551616]
theorem Fd {cs : List Int} (hc : QX cs) (k : Nat) : 0 <= Ki cs k /\ Ki cs k <= 1 := by
  induction k with
  | zero => have := hc 0; simp only [Ki]; omega
  | succ k ih => have := hc (k + 1); simp only [Ki]; omega
theorem Xk {cs : List Int} (hc : QX cs) (k : Nat) : 0 <= yS cs k /\ yS cs k < 4503599627370496 := by
  have ho := Fd hc 4
  induction k with
  | zero => have := hc 0; simp only [yS]; omega
  | succ k ih => have := hc (k + 1); simp only [yS]; omega
theorem Xo (cs : List Int) (k : Nat) : 0 <= dS cs k /\ dS cs k < 2251799813685248 := by unfold dS; omega
theorem QdZ {cs : List Int} (hc : QX cs) : Kg cs = Qc 4 (X5 cs % pV) := by
  have h0 := hc 0; have h1 := hc 1; have h2 := hc 2; have h3 := hc 3; have h4 := hc 4
  have d0 := Xo cs 0; have d1 := Xo cs 1; have d2 := Xo cs 2; have d3 := Xo cs 3; have d4 := Xo cs 4
  have hD : dS cs 0 + dS cs 1 * 2251799813685248 + dS cs 2 * 5070602400912917605986812821504 + dS cs 3 * 11417981541647679048466287755595961091061972992 + dS cs 4 * 25711008708143844408671393477458601640355247900524685364822016 = X5 cs % pV := by
    have ho := Fd hc 4
    have e0 : Ki cs 0 = (Qb cs 0 + 19) / 2251799813685248 := rfl
    have e1 : Ki cs 1 = (Qb cs 1 + Ki cs 0) / 2251799813685248 := rfl
    have e2 : Ki cs 2 = (Qb cs 2 + Ki cs 1) / 2251799813685248 := rfl
    have e3 : Ki cs 3 = (Qb cs 3 + Ki cs 2) / 2251799813685248 := rfl
    have e4 : Ki cs 4 = (Qb cs 4 + Ki cs 3) / 2251799813685248 := rfl
    have g0 : yS cs 0 = Qb cs 0 + 19 * Ki cs 4 := rfl
    have g1 : yS cs 1 = Qb cs 1 + yS cs 0 / 2251799813685248 := rfl
    have g2 : yS cs 2 = Qb cs 2 + yS cs 1 / 2251799813685248 := rfl
    have g3 : yS cs 3 = Qb cs 3 + yS cs 2 / 2251799813685248 := rfl
    have g4 : yS cs 4 = Qb cs 4 + yS cs 3 / 2251799813685248 := rfl
    unfold dS pV
    simp only [X5, Int.reducePow]
    generalize Ki cs 0 = o0 at *
    generalize Ki cs 1 = o1 at *
    generalize Ki cs 2 = o2 at *
    generalize Ki cs 3 = o3 at *
    generalize Ki cs 4 = o4 at *
    generalize yS cs 0 = y0 at *
    generalize yS cs 1 = y1 at *
    generalize yS cs 2 = y2 at *
    generalize yS cs 3 = y3 at *
    generalize yS cs 4 = y4 at *
    generalize Qb cs 0 = x0 at *
    generalize Qb cs 1 = x1 at *
    generalize Qb cs 2 = x2 at *
    generalize Qb cs 3 = x3 at *
    generalize Qb cs 4 = x4 at *
    have r1 : 57896044618658097711785492504343953926634992332820282019728792003956564819968 * o4 <= x0 + x1 * 2251799813685248 + x2 * 5070602400912917605986812821504 + x3 * 11417981541647679048466287755595961091061972992 + x4 * 25711008708143844408671393477458601640355247900524685364822016 + 19 /\
        x0 + x1 * 2251799813685248 + x2 * 5070602400912917605986812821504 + x3 * 11417981541647679048466287755595961091061972992 + x4 * 25711008708143844408671393477458601640355247900524685364822016 + 19 < 57896044618658097711785492504343953926634992332820282019728792003956564819968 * (o4 + 1) := by
      clear g0 g1 g2 g3 g4
      omega
    have r2 : y0 % 2251799813685248 + y1 % 2251799813685248 * 2251799813685248 + y2 % 2251799813685248 * 5070602400912917605986812821504 + y3 % 2251799813685248 * 11417981541647679048466287755595961091061972992 + y4 % 2251799813685248 * 25711008708143844408671393477458601640355247900524685364822016 + 57896044618658097711785492504343953926634992332820282019728792003956564819968 * (y4 / 2251799813685248) =
        x0 + x1 * 2251799813685248 + x2 * 5070602400912917605986812821504 + x3 * 11417981541647679048466287755595961091061972992 + x4 * 25711008708143844408671393477458601640355247900524685364822016 + 19 * o4 := by
      clear r1 e0 e1 e2 e3 e4
      omega
    have r3 : 0 <= y0 % 2251799813685248 + y1 % 2251799813685248 * 2251799813685248 + y2 % 2251799813685248 * 5070602400912917605986812821504 + y3 % 2251799813685248 * 11417981541647679048466287755595961091061972992 + y4 % 2251799813685248 * 25711008708143844408671393477458601640355247900524685364822016 /\
        y0 % 2251799813685248 + y1 % 2251799813685248 * 2251799813685248 + y2 % 2251799813685248 * 5070602400912917605986812821504 + y3 % 2251799813685248 * 11417981541647679048466287755595961091061972992 + y4 % 2251799813685248 * 25711008708143844408671393477458601640355247900524685364822016 < 57896044618658097711785492504343953926634992332820282019728792003956564819968 := by
      clear r1 r2 e0 e1 e2 e3 e4 g0 g1 g2 g3 g4
      omega
    have r4 : 0 <= x0 + x1 * 2251799813685248 + x2 * 5070602400912917605986812821504 + x3 * 11417981541647679048466287755595961091061972992 + x4 * 25711008708143844408671393477458601640355247900524685364822016 /\
        x0 + x1 * 2251799813685248 + x2 * 5070602400912917605986812821504 + x3 * 11417981541647679048466287755595961091061972992 + x4 * 25711008708143844408671393477458601640355247900524685364822016 < 57896044618658097711785492504343953926634992332820282019728792003956564819968 + 1725436586697640946858688965569256363112777243042596638790631055949824 := by
      clear r1 r2 r3 e0 e1 e2 e3 e4 g0 g1 g2 g3 g4
      omega
    clear e0 e1 e2 e3 e4 g0 g1 g2 g3 g4 h0 h1 h2 h3 h4
    generalize y0 % 2251799813685248 + y1 % 2251799813685248 * 2251799813685248 + y2 % 2251799813685248 * 5070602400912917605986812821504 + y3 % 2251799813685248 * 11417981541647679048466287755595961091061972992 + y4 % 2251799813685248 * 25711008708143844408671393477458601640355247900524685364822016 = D at *
    generalize x0 + x1 * 2251799813685248 + x2 * 5070602400912917605986812821504 + x3 * 11417981541647679048466287755595961091061972992 + x4 * 25711008708143844408671393477458601640355247900524685364822016 = V at *
    generalize y4 / 2251799813685248 = q at *
    have ho2 : o4 = 0 \/ o4 = 1 := by omega
    rcases ho2 with rfl | rfl <;> omega
  have hw : Qn (Kg cs) := by
    intro x hx
    simp only [Kg, List.mem_cons, List.not_mem_nil, or_false] at hx
    rcases hx with rfl | rfl | rfl | rfl <;> omega
  refine Y2 hw rfl ?_
  rw [<- hD]
  simp only [Qf, Kg, Xc, Xd, Nat.reduceMul, Int.reducePow]
  generalize dS cs 0 = a at *
  generalize dS cs 1 = b at *
  generalize dS cs 2 = c at *
  generalize dS cs 3 = d at *
  generalize dS cs 4 = e at *
  omega
theorem VI : QH [1, 0, 0, 0, 0] 1 := ⟨rfl, XO (by omega) (by omega) (by omega) (by omega) (by omega), by decide +kernel⟩
/-- A number of 1 bits, but for two bytes. -/
def ZM (lo hi : Int) : List Int := ((List.replicate 32 (255 : Int)).set 0 lo).set 31 hi
/-- A power, behind so many of the exponent's bits. -/
def Zd (xs nb : List Int) : Nat -> List Int
  | 0 => [1, 0, 0, 0, 0]
  | k + 1 => if Uy nb (255 - k) = 1 then Qm (QU (Qm (QU (Zd xs nb k) (Zd xs nb k))) xs) else Qm (QU (Zd xs nb k) (Zd xs nb k))
theorem Jt (u : Int) (e : Nat) : ((u ^ e % pV) * (u ^ e % pV)) % pV = u ^ (2 * e) % pV := by
  rw [<- Int.mul_emod, <- Int.pow_add, show e + e = 2 * e by omega]
theorem KJ (u v : Int) (e : Nat) (hv : v % pV = u % pV) : ((u ^ (2 * e) % pV) * v) % pV = u ^ (2 * e + 1) % pV := by
  rw [Int.mul_emod, Int.emod_emod_of_dvd _ (Int.dvd_refl _), hv, <- Int.mul_emod, Int.pow_succ]
theorem Jv (xs nb : List Int) (u : Int) (hx : QH xs u) (hn : Qd nb) : ∀ k, k <= 256 -> QH (Zd xs nb k) (u ^ (Qk nb 32 / 2 ^ (256 - k)).toNat % pV)
  | 0, _ => by
    have h := Xw nb hn
    rw [Nat.sub_zero, Int.ediv_eq_zero_of_lt h.1 h.2, show u ^ Int.toNat 0 % pV = 1 by rw [show Int.toNat 0 = 0 from rfl, Int.pow_zero]; decide +kernel]
    exact VI
  | k + 1, hk => by
    have ih := Jv xs nb u hx hn k (by omega)
    have h2 := QZ ih ih
    rw [Jt] at h2
    have hb := FX nb hn 32 (255 - k) (by omega)
    have hh := VV (Qk nb 32) (255 - k)
    rw [show 255 - k + 1 = 256 - k by omega, <- hb] at hh
    have h0 := (Xw nb hn).1
    have hy : 0 <= Qk nb 32 / 2 ^ (256 - k) := Int.ediv_nonneg h0 (Int.le_of_lt (QI _))
    rw [show 256 - (k + 1) = 255 - k by omega]
    have hbit := QdD nb (255 - k)
    unfold Zd
    split
    . next h1 =>
      rw [h1] at hh
      have e : (Qk nb 32 / 2 ^ (255 - k)).toNat = 2 * (Qk nb 32 / 2 ^ (256 - k)).toNat + 1 := by omega
      rw [e]
      have h3 := QZ h2 hx
      have hu : u % pV = u % pV := rfl
      rw [KJ u u _ rfl] at h3
      exact h3
    . next h1 =>
      have h10 : Uy nb (255 - k) = 0 := by omega
      rw [h10] at hh
      have e : (Qk nb 32 / 2 ^ (255 - k)).toNat = 2 * (Qk nb 32 / 2 ^ (256 - k)).toNat := by omega
      rw [e]
      exact h2
theorem D1 {xs : List Int} {u : Int} (h : QH xs u) : 0 <= u /\ u < pV := by rw [<- h.val]; exact XQ _
theorem Fb : (0 : Int) <= pV /\ pV < 2 ^ 256 := by decide +kernel
theorem Qa0 {u v : Int} (hu : 0 <= u /\ u < pV) (hv : 0 <= v /\ v < pV) : decide (QE u = QE v) = decide (u = v) := by
  have := Fb
  exact decide_eq_decide.2 ⟨fun h => Fi ⟨hu.1, by omega⟩ ⟨hv.1, by omega⟩ h, fun h => by rw [h]⟩
theorem ZS : QH [0, 0, 0, 0, 0] 0 := ⟨rfl, XO (by omega) (by omega) (by omega) (by omega) (by omega), by decide +kernel⟩
theorem KS {xb : List Int} (hb : Qd xb) (hl : xb.length = 32) : QE (Qk xb 32) = xb := by
  apply XC (by rw [Qw, hl])
  intro j hj
  rw [Qw] at hj
  rw [Ua _ j hj]
  have key : ∀ n, j < n -> Qk xb n / 2 ^ (8 * j) % 256 = Qb xb j := by
    intro n
    induction n with
    | zero => omega
    | succ n ih =>
      intro hn
      have hp := QI (8 * j)
      by_cases e : j = n
      . have h1 := UT xb hb n
        have h2 := hb.at n
        subst e
        simp only [Qk]
        rw [Int.add_mul_ediv_right _ _ (by omega), Int.ediv_eq_zero_of_lt h1.1 h1.2, Int.zero_add, Int.emod_eq_of_lt h2.1 (by omega)]
      . rw [<- ih (by omega)]
        simp only [Qk]
        obtain ⟨d, hd⟩ : ∃ d, n = j + 1 + d := ⟨n - j - 1, by omega⟩
        have e2 : (2 : Int) ^ (8 * n) = 2 ^ (8 * j) * (256 * 2 ^ (8 * d)) := by
          rw [show (256 : Int) = 2 ^ 8 from rfl, <- Int.pow_add, <- Int.pow_add]; congr 1; omega
        rw [e2]
        generalize Qb xb n = x
        generalize (2 : Int) ^ (8 * d) = q
        generalize (2 : Int) ^ (8 * j) = p at *
        rw [show x * (p * (256 * q)) = (x * q * 256) * p by grind, Int.add_mul_ediv_right _ _ (by omega), Int.add_mul_emod_self_right]
  exact key 32 hj
theorem Gu {xb : List Int} (hb : Qd xb) (hl : xb.length = 32) : decide (QE (Qk xb 32 % pV) = xb) = decide (Qk xb 32 < pV) := by
  have hv := Xw xb hb
  have hm := XQ (Qk xb 32)
  have hp := Fb
  refine decide_eq_decide.2 ⟨fun h => ?_, fun h => ?_⟩
  . have h2 : Qk xb 32 % pV = Qk xb 32 := Fi ⟨hm.1, by omega⟩ hv (by rw [h, KS hb hl])
    omega
  . rw [Int.emod_eq_of_lt hv.1 h, KS hb hl]
theorem KL {xs nb : List Int} {u : Int} (hx : QH xs u) (hn : Qd nb) : QH (Zd xs nb 256) (u ^ (Qk nb 32).toNat % pV) := by
  have h := Jv xs nb u hx hn 256 (Nat.le_refl _)
  rw [Nat.sub_self, Int.pow_zero, Int.ediv_one] at h
  exact h
theorem HX : Qd (ZM 235 127) := by intro x hx; revert x; decide
theorem KM : Qd (ZM 254 15) := by intro x hx; revert x; decide
theorem Qgp : Qc 4 pV = [18446744073709551597, 18446744073709551615, 18446744073709551615, 9223372036854775807] := by decide +kernel
theorem Qcp : (2 : Int) ^ 256 < 3 * pV := by decide +kernel
def Dv : List Int := [1718705420411056, 234908883556509, 2233514472574048, 2117202627021982, 765476049583133]
/-- The root of -1. -/
def iV : Int := X5 Dv % pV
theorem KD : QH Dv iV := ⟨rfl, XO (by omega) (by omega) (by omega) (by omega) (by omega), rfl⟩
def Zh (u : Int) : Int := u ^ (Qk (ZM 254 15) 32).toNat % pV
def Yh (u : Int) : Int := Zh u * iV % pV
def Hg (u : Int) : Bool := decide (Zh u * Zh u % pV = u)
def HG (u : Int) : Bool := decide (Yh u * Yh u % pV = u)
/-- Is there a root? -/
def okV (u : Int) : Bool := Hg u || HG u
/-- The even one of a number and its negative. -/
def X7 (c : Int) : Int := if c % 2 = 1 then (0 - c) % pV else c
def rV (u : Int) : Int := if Hg u then X7 (Zh u) else if HG u then X7 (Yh u) else 0
def pN : Nat := 57896044618658097711785492504343953926634992332820282019728792003956564819949
theorem Zr : pV = (pN : Int) := by decide +kernel
theorem QbW : (Qk (ZM 254 15) 32).toNat = 7237005577332262213973186563042994240829374041602535252466099000494570602494 := by decide +kernel
/-- A prime. -/
def ZA (p : Nat) : Prop := 2 <= p /\ ∀ d, d ∣ p -> d = 1 \/ d = p
theorem ZA.cop {p a : Nat} (h : ZA p) (ha : ¬ p ∣ a) : Nat.gcd p a = 1 := by
  rcases h.2 (Nat.gcd p a) (Nat.gcd_dvd_left p a) with e | e
  . exact e
  . exact absurd (e ▸ Nat.gcd_dvd_right p a) ha
theorem ZA.euclid {p a b : Nat} (h : ZA p) (hab : p ∣ a * b) : p ∣ a \/ p ∣ b := by
  by_cases ha : p ∣ a
  . exact .inl ha
  . exact .inr (Nat.Coprime.dvd_of_dvd_mul_left (h.cop ha) hab)
/-- Binomials. -/
def bin : Nat -> Nat -> Nat
  | _, 0 => 1
  | 0, _ + 1 => 0
  | n + 1, k + 1 => bin n k + bin n (k + 1)
theorem YX (n : Nat) : bin n 0 = 1 := by cases n <;> rfl
theorem Z8 (n k : Nat) : bin (n + 1) (k + 1) = bin n k + bin n (k + 1) := rfl
theorem Jc : ∀ n k, (k + 1) * bin (n + 1) (k + 1) = (n + 1) * bin n k
  | 0, 0 => rfl
  | 0, k + 1 => by simp [bin]
  | n + 1, 0 => by
    have h := Jc n 0
    rw [Z8 (n + 1) 0, YX]
    rw [YX] at h
    omega
  | n + 1, j + 1 => by
    have h1 := Jc n (j + 1)
    have h2 := Jc n j
    have h3 := Z8 n j
    rw [Z8 (n + 1) (j + 1)]
    have e1 : (j + 1 + 1) * (bin (n + 1) (j + 1) + bin (n + 1) (j + 1 + 1)) = (j + 1) * bin (n + 1) (j + 1) + bin (n + 1) (j + 1) + (j + 1 + 1) * bin (n + 1) (j + 1 + 1) := by
      rw [Nat.mul_add, Nat.add_mul (j + 1) 1, Nat.one_mul]
    rw [e1, h1, h2, Nat.add_mul (n + 1) 1, Nat.one_mul]
    have e2 : (n + 1) * bin (n + 1) (j + 1) = (n + 1) * bin n j + (n + 1) * bin n (j + 1) := by rw [h3, Nat.mul_add]
    omega
theorem V5 : ∀ n k, n < k -> bin n k = 0
  | 0, 0, h => by omega
  | 0, k + 1, _ => rfl
  | n + 1, 0, h => by omega
  | n + 1, k + 1, h => by rw [Z8, V5 n k (by omega), V5 n (k + 1) (by omega)]
theorem FY : ∀ n, bin n n = 1
  | 0 => rfl
  | n + 1 => by rw [Z8, FY n, V5 n (n + 1) (by omega)]
/-- A sum of so many. -/
def XG (f : Nat -> Nat) : Nat -> Nat
  | 0 => 0
  | n + 1 => XG f n + f n
theorem Yd (f : Nat -> Nat) : ∀ n, XG f (n + 1) = f 0 + XG (fun k => f (k + 1)) n
  | 0 => by simp [XG]
  | n + 1 => by
    rw [XG, Yd f n]
    show _ = f 0 + (XG (fun k => f (k + 1)) n + f (n + 1))
    omega
theorem HE (f g : Nat -> Nat) : ∀ n, XG (fun k => f k + g k) n = XG f n + XG g n
  | 0 => rfl
  | n + 1 => by simp only [XG, HE f g n]; omega
theorem Hz (c : Nat) (f : Nat -> Nat) : ∀ n, XG (fun k => c * f k) n = c * XG f n
  | 0 => rfl
  | n + 1 => by simp only [XG, Hz c f n, Nat.mul_add]
theorem Jo {f g : Nat -> Nat} : ∀ n, (∀ k, k < n -> f k = g k) -> XG f n = XG g n
  | 0, _ => rfl
  | n + 1, h => by rw [XG, XG, Jo n (fun k hk => h k (by omega)), h n (by omega)]
theorem HD {p : Nat} {f : Nat -> Nat} : ∀ n, (∀ k, k < n -> p ∣ f k) -> p ∣ XG f n
  | 0, _ => Nat.dvd_zero p
  | n + 1, h => Nat.dvd_add (HD n (fun k hk => h k (by omega))) (h n (by omega))
theorem QfX (a : Nat) : ∀ n, (a + 1) ^ n = XG (fun k => bin n k * a ^ k) (n + 1)
  | 0 => rfl
  | n + 1 => by
    have ih := QfX a n
    rw [Yd, YX]
    have e1 : XG (fun k => bin (n + 1) (k + 1) * a ^ (k + 1)) (n + 1) = XG (fun k => a * (bin n k * a ^ k) + bin n (k + 1) * a ^ (k + 1)) (n + 1) := by
      refine Jo _ fun k _ => ?_
      rw [Z8, Nat.add_mul, Nat.pow_succ]
      congr 1
      rw [<- Nat.mul_assoc, Nat.mul_comm a]
    have e2 : XG (fun k => bin n k * a ^ k) (n + 1 + 1) = 1 * a ^ 0 + XG (fun k => bin n (k + 1) * a ^ (k + 1)) (n + 1) := by
      rw [Yd, YX]
    have e3 : XG (fun k => bin n k * a ^ k) (n + 1 + 1) = XG (fun k => bin n k * a ^ k) (n + 1) := by
      rw [XG, V5 n (n + 1) (by omega)]; omega
    rw [e1, HE, Hz, Nat.pow_succ, ih, Nat.mul_add, Nat.mul_one, Nat.mul_comm _ a]
    omega
theorem ZA.bin {p k : Nat} (h : ZA p) (hk : k + 1 < p) : p ∣ Go.Proofs.YtbiboamaigedjaaDoor.bin p (k + 1) := by
  obtain ⟨n, rfl⟩ : ∃ n, p = n + 1 := ⟨p - 1, by have := h.1; omega⟩
  have e := Jc n k
  rcases h.euclid (a := k + 1) (b := Go.Proofs.YtbiboamaigedjaaDoor.bin (n + 1) (k + 1)) ⟨_, e⟩ with d | d
  . exact absurd (Nat.le_of_dvd (by omega) d) (by omega)
  . exact d
theorem ZA.fresh {p : Nat} (h : ZA p) (a : Nat) : (a + 1) ^ p % p = (a ^ p + 1) % p := by
  have hp := h.1
  rw [QfX, Yd, YX]
  obtain ⟨n, hn⟩ : ∃ n, p = n + 1 := ⟨p - 1, by omega⟩
  have e : XG (fun k => Go.Proofs.YtbiboamaigedjaaDoor.bin p (k + 1) * a ^ (k + 1)) p = XG (fun k => Go.Proofs.YtbiboamaigedjaaDoor.bin p (k + 1) * a ^ (k + 1)) n + a ^ p := by
    conv => lhs; rw [hn]
    rw [XG, <- hn, FY, Nat.one_mul]
  rw [e]
  obtain ⟨c, hc⟩ := HD (p := p) (f := fun k => Go.Proofs.YtbiboamaigedjaaDoor.bin p (k + 1) * a ^ (k + 1)) n (fun k hk => Nat.dvd_trans (h.bin (by omega)) (Nat.dvd_mul_right _ _))
  rw [hc]
  have : 1 * a ^ 0 + (p * c + a ^ p) = a ^ p + 1 + p * c := by simp; omega
  rw [this, Nat.add_mul_mod_self_left]
theorem ZA.fermat0 {p : Nat} (h : ZA p) : ∀ a, a ^ p % p = a % p
  | 0 => by
    have hp := h.1
    rw [Nat.zero_pow (by omega)]
  | a + 1 => by
    rw [h.fresh, Nat.add_mod, h.fermat0 a, <- Nat.add_mod]
theorem Vr {n a b : Nat} (hab : b <= a) : a % n = b % n ↔ n ∣ a - b := by
  constructor
  . intro h
    have ha := Nat.div_add_mod a n
    have hb := Nat.div_add_mod b n
    refine ⟨a / n - b / n, ?_⟩
    rw [Nat.mul_sub]; omega
  . rintro ⟨c, hc⟩
    have : a = b + n * c := by omega
    rw [this, Nat.add_mul_mod_self_left]
theorem ZA.fermat {p a : Nat} (h : ZA p) (ha : ¬ p ∣ a) : a ^ (p - 1) % p = 1 % p := by
  have hp := h.1
  have h0 := h.fermat0 a
  have ha0 : 0 < a := Nat.pos_of_ne_zero fun e => ha (e ▸ Nat.dvd_zero p)
  have e : a ^ p = a * a ^ (p - 1) := by
    conv => lhs; rw [show p = p - 1 + 1 by omega]
    rw [Nat.pow_succ, Nat.mul_comm]
  have h1 : 1 <= a ^ (p - 1) := Nat.pow_pos ha0
  have h2 : a <= a ^ p := by rw [e]; exact Nat.le_mul_of_pos_right _ h1
  have h3 := (Vr h2).1 h0
  rw [e, show a * a ^ (p - 1) - a = a * (a ^ (p - 1) - 1) by rw [Nat.mul_sub, Nat.mul_one]] at h3
  rcases h.euclid h3 with d | d
  . exact absurd d ha
  . exact (Vr h1).2 d
theorem HW {r b m : Nat} (hm : b ^ m % r = 1 % r) (k : Nat) : b ^ (m * k) % r = 1 % r := by
  rw [Nat.pow_mul, Nat.pow_mod, hm, <- Nat.pow_mod, Nat.one_pow]
theorem Qez {r b : Nat} (m n : Nat) (hm : b ^ m % r = 1 % r) (hn : b ^ n % r = 1 % r) : b ^ (Nat.gcd m n) % r = 1 % r := by
  revert hm hn
  refine Nat.gcd.induction (P := fun m n => b ^ m % r = 1 % r -> b ^ n % r = 1 % r -> b ^ (Nat.gcd m n) % r = 1 % r) m n ?_ ?_
  . intro n h1 h2; rw [Nat.gcd_zero_left]; exact h2
  . intro m n hm ih h1 h2
    rw [Nat.gcd_rec]
    refine ih ?_ h1
    have e := Nat.div_add_mod n m
    rw [<- e, Nat.pow_add, Nat.mul_mod, HW h1, <- Nat.mul_mod, Nat.one_mul] at h2
    exact h2
theorem Qci : ∀ n, 2 <= n -> ∃ r, ZA r /\ r ∣ n := by
  intro n
  refine Nat.strongRecOn (motive := fun n => 2 <= n -> ∃ r, ZA r /\ r ∣ n) n ?_
  intro n ih hn
  by_cases hp : ZA n
  . exact ⟨n, hp, Nat.dvd_refl n⟩
  . have : ∃ d, d ∣ n /\ d ≠ 1 /\ d ≠ n := by
      refine Classical.byContradiction fun hno => hp ⟨hn, fun d hd => ?_⟩
      refine Classical.byContradiction fun hd2 => hno ⟨d, hd, ?_, ?_⟩
      . exact fun e => hd2 (.inl e)
      . exact fun e => hd2 (.inr e)
    obtain ⟨d, hd, h1, h2⟩ := this
    have hle := Nat.le_of_dvd (by omega) hd
    have h0 : d ≠ 0 := by rintro rfl; obtain ⟨c, hc⟩ := hd; omega
    obtain ⟨r, hr, hrd⟩ := ih d (by omega) (by omega)
    exact ⟨r, hr, Nat.dvd_trans hrd hd⟩
theorem QeA {N F : Nat} (hN : 2 <= N) (h : N < (F + 1) * (F + 1)) (hF : ∀ r, ZA r -> r ∣ N -> F ∣ r - 1) : ZA N := by
  refine Classical.byContradiction fun hp => ?_
  have : ∃ d, d ∣ N /\ d ≠ 1 /\ d ≠ N := by
    refine Classical.byContradiction fun hno => hp ⟨hN, fun d hd => ?_⟩
    refine Classical.byContradiction fun hd2 => hno ⟨d, hd, fun e => hd2 (.inl e), fun e => hd2 (.inr e)⟩
  obtain ⟨d, ⟨e, he⟩, h1, h2⟩ := this
  have hd0 : d ≠ 0 := by rintro rfl; simp at he; omega
  have he0 : e ≠ 0 := by rintro rfl; simp at he; omega
  have he1 : e ≠ 1 := by rintro rfl; simp at he; omega
  have big : ∀ x, 2 <= x -> x ∣ N -> F + 1 <= x := by
    intro x hx hxN
    obtain ⟨r, hr, hrx⟩ := Qci x hx
    have hle := Nat.le_of_dvd (by omega) hrx
    have h3 := hF r hr (Nat.dvd_trans hrx hxN)
    have h4 := Nat.le_of_dvd (by have := hr.1; omega) h3
    omega
  have b1 := big d (by omega) ⟨e, he⟩
  have b2 := big e (by omega) ⟨d, by rw [he, Nat.mul_comm]⟩
  have := Nat.mul_le_mul b1 b2
  omega
/-- A prime q that each prime in N lies above, by a number b of the order q. -/
theorem Qct {N q b : Nat} (hq : ZA q) (hb : b ^ q % N = 1 % N) (hg : Nat.gcd (b - 1) N = 1) (hb1 : 1 <= b) : ∀ r, ZA r -> r ∣ N -> q ∣ r - 1 := by
  intro r hr hrN
  have h1 : b ^ q % r = 1 % r := by
    rw [<- Nat.mod_mod_of_dvd (b ^ q) hrN, hb, Nat.mod_mod_of_dvd _ hrN]
  have hrb : ¬ r ∣ b := by
    intro hd
    have h0 : b ^ q % r = 0 := Nat.mod_eq_zero_of_dvd (Nat.dvd_trans hd (by
      have := hq.1
      rw [show q = q - 1 + 1 by omega, Nat.pow_succ]; exact Nat.dvd_mul_left _ _))
    have := hr.1
    rw [h0, Nat.mod_eq_of_lt (by omega)] at h1
    omega
  have h2 := hr.fermat hrb
  have h3 := Qez q (r - 1) h1 h2
  rcases hq.2 _ (Nat.gcd_dvd_left q (r - 1)) with e | e
  . rw [e, Nat.pow_one] at h3
    have h4 := (Vr hb1).1 h3
    have h5 := Nat.dvd_gcd h4 hrN
    rw [hg] at h5
    have := Nat.le_of_dvd (by omega) h5
    have := hr.1
    omega
  . exact e ▸ Nat.gcd_dvd_right q (r - 1)
theorem F9 {q s m : Nat} (hq : ZA q) (hs : ZA s) (hne : q ≠ s) (h1 : q ∣ m) (h2 : s ∣ m) : q * s ∣ m := by
  obtain ⟨c, rfl⟩ := h1
  rcases hs.euclid h2 with d | d
  . rcases hq.2 s d with e | e
    . have := hs.1; omega
    . exact absurd e.symm hne
  . exact Nat.mul_dvd_mul_left q d
/-- No divisor from d on, as far as the square goes. -/
def chk (n : Nat) : Nat -> Nat -> Bool
  | 0, _ => false
  | f + 1, d => if n < d * d then true else if n % d = 0 then false else chk n f (d + 1)
theorem Uu (n : Nat) : ∀ f d, chk n f d = true -> ∀ e, d <= e -> e * e <= n -> ¬ e ∣ n
  | 0, _, h => by simp [chk] at h
  | f + 1, d, h => by
    intro e hde he hdv
    unfold chk at h
    split at h
    . rename_i hlt
      have := Nat.mul_le_mul hde hde
      omega
    . split at h
      . simp at h
      . rename_i h0
        by_cases hed : e = d
        . subst hed; exact h0 (Nat.mod_eq_zero_of_dvd hdv)
        . exact Uu n f (d + 1) h e (by omega) he hdv
theorem ZA.small {n f : Nat} (hn : 2 <= n) (h : chk n f 2 = true) : ZA n := by
  refine ⟨hn, fun d hd => ?_⟩
  obtain ⟨e, he⟩ := hd
  refine Classical.byContradiction fun hno => ?_
  have hd0 : d ≠ 0 := by rintro rfl; simp at he; omega
  have he0 : e ≠ 0 := by rintro rfl; simp at he; omega
  have he1 : e ≠ 1 := by rintro rfl; simp at he; omega
  have hd1 : d ≠ 1 := fun e => hno (.inl e)
  rcases Nat.le_total d e with hle | hle
  . exact Uu n f 2 h d (by omega) (by rw [he]; exact Nat.mul_le_mul_left d hle) ⟨e, he⟩
  . exact Uu n f 2 h e (by omega) (by rw [he]; exact Nat.mul_le_mul_right e hle) ⟨d, by rw [he, Nat.mul_comm]⟩
/-- A power modulo p by squaring. -/
def pmo (p u : Nat) : Nat -> Nat -> Nat
  | 0, _ => 1 % p
  | f + 1, e => (match e % 2 with | 0 => 1 | _ => u) * (pmo p u f (e / 2) * pmo p u f (e / 2) % p) % p
theorem Gy (p u : Nat) : ∀ f e, e < 2 ^ f -> pmo p u f e = u ^ e % p
  | 0, e, h => by
    obtain rfl : e = 0 := by simpa using h
    rfl
  | f + 1, e, h => by
    have ih := Gy p u f (e / 2) (by rw [Nat.pow_succ] at h; omega)
    have h2 : e = e / 2 + e / 2 + e % 2 := by omega
    unfold pmo
    rw [ih]
    generalize hk : e / 2 = k at *
    have hm : e % 2 = 0 \/ e % 2 = 1 := by omega
    have key : u ^ k % p * (u ^ k % p) % p = u ^ (k + k) % p := by rw [<- Nat.mul_mod, <- Nat.pow_add]
    rw [key]
    rcases hm with h0 | h1
    . rw [h0] at h2 ⊢
      subst h2
      simp only [Nat.add_zero]
      rw [Nat.one_mul, Nat.mod_mod]
    . rw [h1] at h2 ⊢
      subst h2
      show u * (u ^ (k + k) % p) % p = u ^ (k + k + 1) % p
      rw [Nat.mul_mod, Nat.mod_mod, <- Nat.mul_mod, Nat.pow_succ, Nat.mul_comm]
theorem ZA.certify {N q b f : Nat} (hq : ZA q) (hf : q < 2 ^ f) (h : (decide (pmo N b f q = 1 % N) && decide (Nat.gcd (b - 1) N = 1) && decide (1 <= b)) = true) : ∀ r, ZA r -> r ∣ N -> q ∣ r - 1 := by
  simp only [Bool.and_eq_true, decide_eq_true_eq] at h
  exact Qct hq (by rw [<- Gy N b f q hf]; exact h.1.1) h.1.2 h.2
theorem Qcf : ZA 8574133 := ZA.small (f := 2931) (by decide) (by decide +kernel)
theorem Qce : ZA 127 := ZA.small (f := 14) (by decide) (by decide +kernel)
theorem Qcd : ZA 75707 := ZA.small (f := 278) (by decide) (by decide +kernel)
theorem Qcc : ZA 1923133 := ZA.small (f := 1389) (by decide) (by decide +kernel)
theorem Qcg : ZA 1919519569386763 := by
  refine QeA (F := 8574133 * 127) (by decide) (by decide +kernel) fun r hr hd => ?_
  refine F9 Qcf Qce (by decide) ?_ ?_
  . exact ZA.certify (b := 1059928654987441) (f := 24) Qcf (by decide +kernel) (by decide +kernel) r hr hd
  . exact ZA.certify (b := 576774792492622) (f := 7) Qce (by decide +kernel) (by decide +kernel) r hr hd
theorem Qch : ZA 75445702479781427272750846543864801 := by
  refine QeA (F := 1919519569386763 * 75707) (by decide) (by decide +kernel) fun r hr hd => ?_
  refine F9 Qcg Qcd (by decide) ?_ ?_
  . exact ZA.certify (b := 56747016255153332959347766392083459) (f := 51) Qcg (by decide +kernel) (by decide +kernel) r hr hd
  . exact ZA.certify (b := 58781699294900834553279248901967638) (f := 17) Qcd (by decide +kernel) (by decide +kernel) r hr hd
theorem Qgl : ZA 74058212732561358302231226437062788676166966415465897661863160754340907 := by
  refine QeA (F := 75445702479781427272750846543864801 * 1923133) (by decide) (by decide +kernel) fun r hr hd => ?_
  refine F9 Qch Qcc (by decide) ?_ ?_
  . exact ZA.certify (b := 69490809710348678725736597923071784769591275419387514694139338586948360) (f := 116) Qch (by decide +kernel) (by decide +kernel) r hr hd
  . exact ZA.certify (b := 52266576830164329332527201090776533817489900267135412990654516667243924) (f := 21) Qcc (by decide +kernel) (by decide +kernel) r hr hd
theorem QhE : ZA 57896044618658097711785492504343953926634992332820282019728792003956564819949 := by
  refine QeA (F := 74058212732561358302231226437062788676166966415465897661863160754340907) (by decide) (by decide +kernel) ?_
  exact ZA.certify (b := 427094198651976259540344842774561673889945192655078505504941250475370961481) (f := 236) Qgl (by decide +kernel) (by decide +kernel)
theorem mm1 (x y p : Int) : (x % p * y) % p = x * y % p := by rw [Int.mul_emod, Int.emod_emod_of_dvd _ (Int.dvd_refl _), <- Int.mul_emod]
theorem mm2 (x y p : Int) : (x * (y % p)) % p = x * y % p := by rw [Int.mul_emod, Int.emod_emod_of_dvd _ (Int.dvd_refl _), <- Int.mul_emod]
theorem Ju (u p : Int) : ∀ n : Nat, (u % p) ^ n % p = u ^ n % p
  | 0 => by rw [Int.pow_zero, Int.pow_zero]
  | n + 1 => by rw [Int.pow_succ, Int.pow_succ, mm2, <- mm1, Ju u p n, mm1]
theorem YP : ZA pN := QhE
/-- Fermat, for whole numbers. -/
theorem Qbc (u : Int) (h : u % pV ≠ 0) : u ^ (pN - 1) % pV = 1 := by
  have hu := XQ u
  have e : u ^ (pN - 1) % pV = (u % pV) ^ (pN - 1) % pV := (Ju u pV _).symm
  rw [e]
  generalize u % pV = v at *
  obtain ⟨n, rfl⟩ := Int.eq_ofNat_of_zero_le hu.1
  rw [Zr] at hu ⊢
  have hn : ¬ pN ∣ n := fun hd => by
    have := Nat.le_of_dvd (by omega) hd
    omega
  have hf := YP.fermat hn
  rw [<- Int.natCast_pow, <- Int.natCast_emod, hf]
  decide +kernel
theorem DX : (Qk (ZM 235 127) 32).toNat = pN - 2 := by decide +kernel
theorem Y5 {a b : Int} (h : a * b % pV = 0) : a % pV = 0 \/ b % pV = 0 := by
  have hd := Int.natAbs_dvd_natAbs.2 (Int.dvd_of_emod_eq_zero h)
  rw [Int.natAbs_mul, Zr, Int.natAbs_natCast] at hd
  rcases YP.euclid hd with d | d
  . left
    rw [Zr]
    exact Int.emod_eq_zero_of_dvd (Int.natAbs_dvd_natAbs.1 (by rw [Int.natAbs_natCast]; exact d))
  . right
    rw [Zr]
    exact Int.emod_eq_zero_of_dvd (Int.natAbs_dvd_natAbs.1 (by rw [Int.natAbs_natCast]; exact d))
theorem Ye (a b p : Int) : a % p = b % p ↔ (a - b) % p = 0 := Int.emod_eq_emod_iff_emod_sub_eq_zero
/-- (p - 1) / 4. -/
def kN : Nat := 14474011154664524427946373126085988481658748083205070504932198000989141204987
theorem QhP : (Qk (ZM 254 15) 32).toNat + (Qk (ZM 254 15) 32).toNat = kN + 1 := by rw [QbW]; decide +kernel
theorem QiD : kN + kN + (kN + kN) = pN - 1 := by decide +kernel
theorem QhQ : iV * iV % pV = (-1) % pV := by decide +kernel
theorem QbX (u : Int) : Zh u * Zh u % pV = u ^ kN * u % pV := by
  unfold Zh
  rw [<- Int.mul_emod, <- Int.pow_add, QhP, Int.pow_succ]
theorem Qgd (u : Int) : Yh u * Yh u % pV = -(u ^ kN * u) % pV := by
  have h : Yh u * Yh u % pV = (Zh u * Zh u % pV) * (iV * iV % pV) % pV := by
    unfold Yh
    rw [<- Int.mul_emod, <- Int.mul_emod]
    congr 1
    grind
  rw [h, QbX, QhQ, <- Int.mul_emod]
  congr 1
  grind
theorem Qd9 {u : Int} (hu : 0 <= u /\ u < pV) (h0 : u ≠ 0) : Hg u = true ↔ (u ^ kN - 1) % pV = 0 := by
  unfold Hg
  rw [decide_eq_true_iff, QbX]
  conv => lhs; rhs; rw [<- Int.emod_eq_of_lt hu.1 hu.2]
  rw [Ye, show u ^ kN * u - u = (u ^ kN - 1) * u by grind]
  constructor
  . intro h
    rcases Y5 h with h | h
    . exact h
    . rw [Int.emod_eq_of_lt hu.1 hu.2] at h; exact absurd h h0
  . intro h
    rw [<- mm1, h, Int.zero_mul]; rfl
theorem Qd8 {u : Int} (hu : 0 <= u /\ u < pV) (h0 : u ≠ 0) : HG u = true ↔ (u ^ kN + 1) % pV = 0 := by
  unfold HG
  rw [decide_eq_true_iff, Qgd]
  conv => lhs; rhs; rw [<- Int.emod_eq_of_lt hu.1 hu.2]
  rw [eq_comm, Ye, show u - -(u ^ kN * u) = (u ^ kN + 1) * u by grind]
  constructor
  . intro h
    rcases Y5 h with h | h
    . exact h
    . rw [Int.emod_eq_of_lt hu.1 hu.2] at h; exact absurd h h0
  . intro h
    rw [<- mm1, h, Int.zero_mul]; rfl
theorem QeG {u : Int} (hu : 0 <= u /\ u < pV) (h0 : u ≠ 0) : okV u = true ↔ u ^ (kN + kN) % pV = 1 := by
  have e1 : (1 : Int) = 1 % pV := by decide +kernel
  unfold okV
  rw [Bool.or_eq_true, Qd9 hu h0, Qd8 hu h0]
  conv => rhs; rhs; rw [e1]
  rw [Ye, Int.pow_add, show u ^ kN * u ^ kN - 1 = (u ^ kN - 1) * (u ^ kN + 1) by grind]
  constructor
  . rintro (h | h)
    . rw [<- mm1, h, Int.zero_mul]; rfl
    . rw [<- mm2, h, Int.mul_zero]; rfl
  . exact Y5
theorem Qcz : okV 0 = true := by
  unfold okV Hg Zh
  rw [QbW, Int.zero_pow (by decide +kernel)]
  decide +kernel
theorem D3 (c : Int) : X7 c = c \/ X7 c = (0 - c) % pV := by unfold X7; split <;> simp
theorem D2 {c : Int} : X7 c * X7 c % pV = c * c % pV := by
  rcases D3 c with h | h
  . rw [h]
  . rw [h, mm1, mm2]; congr 1; grind
theorem QhA {u : Int} (hok : okV u = true) : rV u * rV u % pV = u := by
  unfold rV
  unfold okV at hok
  by_cases h : Hg u = true
  . rw [if_pos h, D2]; simpa [Hg] using h
  . rw [if_neg h]
    have h1 : HG u = true := by simpa [h] using hok
    rw [if_pos h1, D2]; simpa [HG] using h1
theorem Ep (u : Int) : 0 <= Zh u /\ Zh u < pV := XQ _
theorem Eo (u : Int) : 0 <= Yh u /\ Yh u < pV := XQ _
theorem D4 {c : Int} (h : 0 <= c /\ c < pV) : 0 <= X7 c /\ X7 c < pV := by
  rcases D3 c with e | e
  . rw [e]; exact h
  . rw [e]; exact XQ _
theorem K4 {c : Int} (h : 0 <= c /\ c < pV) : X7 c % 2 = 0 := by
  unfold X7
  split
  . next h1 =>
    have hp : pV % 2 = 1 := by decide +kernel
    have e : (0 - c) % pV = 0 - c + pV := by rw [<- Int.add_emod_right (0 - c) pV, Int.emod_eq_of_lt (by omega) (by omega)]
    rw [e]; omega
  . omega
theorem QhB (u : Int) : 0 <= rV u /\ rV u < pV := by
  unfold rV
  split
  . exact D4 (Ep u)
  . split
    . exact D4 (Eo u)
    . decide +kernel
theorem Qeu (u : Int) : rV u % 2 = 0 := by
  unfold rV
  split
  . exact K4 (Ep u)
  . split
    . exact K4 (Eo u)
    . rfl
/-- A square has a root. -/
theorem QaY (u : Int) : okV (u * u % pV) = true := by
  by_cases h : u % pV = 0
  . have : u * u % pV = 0 := by rw [<- mm1, h, Int.zero_mul]; rfl
    rw [this]; exact Qcz
  . have h2 : u * u % pV ≠ 0 := fun e => by
      rcases Y5 e with e | e <;> exact h e
    refine (QeG (XQ _) h2).2 ?_
    rw [Ju, Int.mul_pow, <- Int.pow_add, QiD]
    exact Qbc u h
def UO (xs : List Int) (b : Int) : List Int :=
  [Qb xs 0 * 2 % 18446744073709551616 + b, Qb xs 1 * 2 % 18446744073709551616 + Qb xs 0 / 9223372036854775808, Qb xs 2 * 2 % 18446744073709551616 + Qb xs 1 / 9223372036854775808, Qb xs 3 * 2 % 18446744073709551616 + Qb xs 2 / 9223372036854775808]
theorem GY (x b : Int) (hb : 0 <= b /\ b <= 1) : bits BinOp.or IntKind.u64 (IntKind.u64.wrap (x * 2)) b = x * 2 % 18446744073709551616 + b := by
  rw [YC]
  exact Yb _ b 1 (by omega) (by omega) (by omega) hb.1 (by omega) (by omega)
theorem Vu (xs : List Int) (hx : Qn xs) (b : Int) (hb : 0 <= b /\ b <= 1) : Qn (UO xs b) := by
  have x0 := hx.at 0; have x1 := hx.at 1; have x2 := hx.at 2; have x3 := hx.at 3
  intro x hx
  simp only [UO, List.mem_cons, List.not_mem_nil, or_false] at hx
  omega
theorem Qby (xs : List Int) (hx : Qn xs) (b : Int) (hb : 0 <= b /\ b <= 1) (hs : Qf xs 4 < 2 ^ 255) : Qf (UO xs b) 4 = 2 * Qf xs 4 + b := by
  have x0 := hx.at 0; have x1 := hx.at 1; have x2 := hx.at 2; have x3 := hx.at 3
  have e0 : Qb (UO xs b) 0 = Qb xs 0 * 2 % 18446744073709551616 + b := rfl
  have e1 : Qb (UO xs b) 1 = Qb xs 1 * 2 % 18446744073709551616 + Qb xs 0 / 9223372036854775808 := rfl
  have e2 : Qb (UO xs b) 2 = Qb xs 2 * 2 % 18446744073709551616 + Qb xs 1 / 9223372036854775808 := rfl
  have e3 : Qb (UO xs b) 3 = Qb xs 3 * 2 % 18446744073709551616 + Qb xs 2 / 9223372036854775808 := rfl
  simp only [Qf, Nat.reduceMul, Int.reducePow, e0, e1, e2, e3] at hs ⊢
  omega
/-- A number, or what is left of it without the order, if it isn't below it. -/
def J1 (xs : List Int) : List Int := if Qf xs 4 < Qf Z0 4 then xs else Zm xs Z0 4
theorem EZ {xs : List Int} (hx : Qn xs) : Qn (J1 xs) := by
  unfold J1
  split
  . exact hx
  . exact Jp _ _ _
theorem FO {xs : List Int} (hl : xs.length = 4) : (J1 xs).length = 4 := by
  unfold J1
  split
  . exact hl
  . simp [Zm]
theorem Qdv {xs : List Int} (hx : Qn xs) : Qf (J1 xs) 4 = if Qf xs 4 < Qf Z0 4 then Qf xs 4 else Qf xs 4 - Qf Z0 4 := by
  unfold J1
  split
  . rfl
  . next h =>
    have hb := Ja xs Z0 hx XR 4
    rw [if_neg h] at hb
    rw [Jl xs Z0 hx XR 4 4 (Nat.le_refl _), hb]
    omega
/-- The order. -/
def QD : Int := 7237005577332262213973186563042994240857116359379907606001950938285454250989
theorem Kv : Qf Z0 4 = QD := by decide +kernel
theorem Qb2 (xs : List Int) (hx : Qn xs) (rs : List Int) (hrw : Qn rs) (n k : Nat) (hlt : k < 64 * n) (hrv : Qf rs 4 = Qf xs n / 2 ^ (64 * n - k) % QD) :
    Qf (J1 (UO rs (J6 xs (64 * n - 1 - k)))) 4 = Qf xs n / 2 ^ (64 * n - (k + 1)) % QD := by
  have hb := J5 xs (64 * n - 1 - k)
  have hbv := FW xs hx n (64 * n - 1 - k) (by omega)
  have hh := VV (Qf xs n) (64 * n - 1 - k)
  rw [show 64 * n - 1 - k + 1 = 64 * n - k by omega, <- hbv] at hh
  rw [show 64 * n - (k + 1) = 64 * n - 1 - k by omega, hh]
  have hlo : 0 <= Qf rs 4 /\ Qf rs 4 < QD := by rw [hrv]; unfold QD; omega
  have hd := Qby rs hrw _ hb (by have := hlo.2; unfold QD at this; omega)
  rw [Qdv (Vu rs hrw _ hb), hd, Kv, hrv]
  generalize Qf xs n / 2 ^ (64 * n - k) = y
  generalize J6 xs (64 * n - 1 - k) = b at *
  unfold QD
  split <;> omega
theorem Hm (zs : List Int) (k : Nat) (x : Int) (hk : k < zs.length) (n : Nat) : Qf (zs.set k x) n = Qf zs n + (if k < n then (x - Qb zs k) * 2 ^ (64 * k) else 0) := by
  induction n with
  | zero => simp [Qf]
  | succ n ih =>
    simp only [Qf, ih, V8 zs k n x hk]
    by_cases e : n = k
    . subst e
      rw [if_neg (Nat.lt_irrefl _), if_pos rfl, if_pos (by omega)]
      generalize (2 : Int) ^ (64 * n) = p
      grind
    . rw [if_neg e]
      by_cases h : k < n
      . rw [if_pos h, if_pos (by omega)]; omega
      . rw [if_neg h, if_neg (by omega)]; omega
theorem Qn.set {zs : List Int} (h : Qn zs) (k : Nat) {x : Int} (hx : 0 <= x /\ x < 18446744073709551616) : Qn (zs.set k x) := fun y hy => by
  rcases List.mem_or_eq_of_mem_set hy with h1 | h1
  . exact h y h1
  . exact h1 ▸ hx
/-- A product of words, and two words more. -/
theorem KT {x y p c : Int} (hx : 0 <= x /\ x < 18446744073709551616) (hy : 0 <= y /\ y < 18446744073709551616) : 0 <= x * y /\ x * y <= 340282366920938463426481119284349108225 := by
  refine ⟨Int.mul_nonneg hx.1 hy.1, ?_⟩
  have h1 : x * y <= 18446744073709551615 * y := Int.mul_le_mul_of_nonneg_right (by omega) hy.1
  omega
/-- One step of a row: its word, and what is carried. -/
theorem HK (ps xs ys : List Int) (k j : Nat) (p0 c l c2 : Int) (hl : ps.length = 8) (hk : k < 4) (hj : j < 4)
    (h : Qf ps 8 + c * 2 ^ (64 * (k + j)) = p0 + Qb xs k * Qf ys j * 2 ^ (64 * k)) (he : l + c2 * 18446744073709551616 = Qb xs k * Qb ys j + Qb ps (k + j) + c) :
    Qf (ps.set (k + j) l) 8 + c2 * 2 ^ (64 * (k + (j + 1))) = p0 + Qb xs k * Qf ys (j + 1) * 2 ^ (64 * k) := by
  rw [Hm ps (k + j) l (by omega), if_pos (by omega), show k + (j + 1) = k + j + 1 by omega, ZY, Qf.eq_2 ys j]
  rw [show 64 * (k + j) = 64 * k + 64 * j by omega, Int.pow_add] at *
  generalize (2 : Int) ^ (64 * k) = p at *
  generalize (2 : Int) ^ (64 * j) = q at *
  generalize Qf ps 8 = v at *
  generalize Qf ys j = u at *
  generalize Qb ps (k + j) = a at *
  generalize Qb ys j = b at *
  generalize Qb xs k = x at *
  clear hl hk hj
  grind
theorem Kx (ps : List Int) (k : Nat) (T c l c2 : Int) (hl : ps.length = 8) (hk : k < 8) (h : Qf ps 8 + c * 2 ^ (64 * k) = T) (he : l + c2 * 18446744073709551616 = Qb ps k + c) :
    Qf (ps.set k l) 8 + c2 * 2 ^ (64 * (k + 1)) = T := by
  rw [Hm ps k l (by omega), if_pos (by omega), ZY]
  generalize (2 : Int) ^ (64 * k) = p at *
  generalize Qf ps 8 = v at *
  generalize Qb ps k = a at *
  clear hl hk
  grind
theorem Qem (ps xs ys cs : List Int) (hx : Qn xs) (hy : Qn ys) (hc : Qn cs) (hp : Qn ps) (k : Nat) (hk : k < 4) (c : Int) (hc0 : 0 <= c)
    (h : Qf ps 8 + c * 2 ^ (64 * 8) = Qf cs 4 + Qf xs k * Qf ys 4 + Qb xs k * Qf ys 4 * 2 ^ (64 * k)) : Qf ps 8 = Qf cs 4 + Qf xs (k + 1) * Qf ys 4 := by
  have e : Qf cs 4 + Qf xs k * Qf ys 4 + Qb xs k * Qf ys 4 * 2 ^ (64 * k) = Qf cs 4 + Qf xs (k + 1) * Qf ys 4 := by
    simp only [Qf.eq_2 xs k]
    generalize (2 : Int) ^ (64 * k) = p
    grind
  rw [e] at h
  have h1 := Xl xs hx (k + 1)
  have h2 := Xl ys hy 4
  have h3 := Xl cs hc 4
  have h4 := Xl ps hp 8
  have h5 : (2 : Int) ^ (64 * (k + 1)) <= 2 ^ (64 * 4) := by
    obtain rfl | rfl | rfl | rfl : k = 0 \/ k = 1 \/ k = 2 \/ k = 3 := by omega
    all_goals decide +kernel
  have h6 : Qf xs (k + 1) * Qf ys 4 <= (2 ^ (64 * 4) - 1) * (2 ^ (64 * 4) - 1) := Int.mul_le_mul (by omega) (by omega) h2.1 (by decide +kernel)
  have h8 : (2 : Int) ^ (64 * 8) = 2 ^ (64 * 4) * 2 ^ (64 * 4) := by rw [<- Int.pow_add]
  rw [h8] at h h4
  clear h8
  simp only [Nat.reduceMul, Int.reducePow] at *
  have h7 : 0 <= Qf xs (k + 1) * Qf ys 4 := Int.mul_nonneg h1.1 h2.1
  generalize Qf xs (k + 1) * Qf ys 4 = m at *
  have : c = 0 := by omega
  subst this
  omega
theorem Ho (cs zs : List Int) (n : Nat) (h : n <= cs.length) : Qf (cs ++ zs) n = Qf cs n := by
  induction n with
  | zero => rfl
  | succ n ih =>
    have e : Qb (cs ++ zs) n = Qb cs n := by simp [Qb, List.getElem?_append_left (show n < cs.length by omega)]
    simp only [Qf, ih (by omega), e]
theorem QbA (cs : List Int) (h : cs.length = 4) : Qf (cs ++ [0, 0, 0, 0]) 8 = Qf cs 4 := by
  have e : ∀ j, 4 <= j -> j < 8 -> Qb (cs ++ [0, 0, 0, 0]) j = 0 := by
    intro j h1 h2
    simp only [Qb, List.getElem?_append_right (show cs.length <= j by omega), h]
    obtain rfl | rfl | rfl | rfl : j = 4 \/ j = 5 \/ j = 6 \/ j = 7 := by omega
    all_goals rfl
  rw [Qf, e 7 (by omega) (by omega), Qf, e 6 (by omega) (by omega), Qf, e 5 (by omega) (by omega), Qf, e 4 (by omega) (by omega), Ho cs _ 4 (by omega)]
  omega
theorem QaS {cs : List Int} (h : Qn cs) : Qn (cs ++ [0, 0, 0, 0]) := fun x hx => by
  rcases List.mem_append.1 hx with h1 | h1
  . exact h x h1
  . simp at h1; omega
theorem Qd1 (za : List Int) (hz : Qd za) : 0 <= Qk za 64 /\ Qk za 64 < 2 ^ 256 * 2 ^ 256 := by
  have h := UT za hz 64
  rw [show (2 : Int) ^ (8 * 64) = 2 ^ 256 * 2 ^ 256 by rw [<- Int.pow_add]] at h
  exact h
/-- Which operations an operation waits for. -/
def Qq (md : Region.Mode) (o : Oper) : List Nat := (o.after.toList.filter (Region.binds md)).map (·.on)
def QY (md : Region.Mode) (ops : Array Oper) (i : Nat) : List Nat := ((ops[i]?).map (Qq md)).getD []
def QL (ops : Array Oper) (i : Nat) : Option Tmp := (ops[i]?).bind (·.dst)
/-- What was yielded by some operations alone. -/
def Zn (f : Nat -> Value) (l : List Nat) (k : Nat) : Value := if l.contains k then f k else undef
def Zg {α : Type} (f : Nat -> α) (i : Nat) (v : α) (k : Nat) : α := if k = i then v else f k
/-- The act, with what these operations have yielded. -/
def Q4 (ops : Array Oper) (f : Nat -> Value) : List Nat -> Act -> Act
  | [], a => a
  | j :: l, a => Q4 ops f l (a.put (QL ops j) (f j))
/-- No two operations write one slot; an operation looks at a slot that another one writes just if it waits for it, or the other way round. -/
def Kk (md : Region.Mode) (ops : Array Oper) : Bool :=
  (List.range ops.size).all fun i => match ops[i]? with
    | none => true
    | some o => (match o.op with | .select .. => false | _ => true) && (Qq md o).all (fun j => decide (j < i)) &&
      (List.range ops.size).all fun j => match QL ops j with
        | none => true
        | some t => (j == i || QL ops i != some t) && (!(o.looksAt ops).contains t || j == i || (Qq md o).contains j || (QY md ops j).contains i) && !((Qq md o).contains j && (QY md ops j).contains i)

/-- An act that is another one with what some operations have yielded. -/
structure QG (ops : Array Oper) (L : Nat -> Prop) (f : Nat -> Value) (a a' : Act) : Prop where
  defers : a'.defers = a.defers
  size : a'.tmps.size = a.tmps.size
  put : ∀ j t, L j -> QL ops j = some t -> t < a.tmps.size -> a'.tmps[t]? = some (f j)
  same : ∀ t, (∀ j, L j -> QL ops j ≠ some t) -> a'.tmps[t]? = a.tmps[t]?

theorem QG.start {ops : Array Oper} {f : Nat -> Value} {a : Act} {L : Nat -> Prop} (h : ∀ j, ¬ L j) : QG ops L f a a :=
  ⟨rfl, rfl, fun j t hj => absurd hj (h j), fun t _ => rfl⟩
theorem HO (a : Act) (d : Option Tmp) (v : Value) : (a.put d v).tmps.size = a.tmps.size := by cases d <;> simp [Act.put]
theorem Vm (a : Act) (d : Option Tmp) (v : Value) : (a.put d v).defers = a.defers := by cases d <;> rfl
theorem VC (a : Act) (d : Option Tmp) (v : Value) (t : Nat) : (a.put d v).tmps[t]? = if d = some t /\ t < a.tmps.size then some v else a.tmps[t]? := by
  cases d with
  | none => simp [Act.put]
  | some d =>
    simp only [Act.put, Option.some.injEq]
    by_cases h : d = t
    . subst h
      by_cases hs : d < a.tmps.size
      . simp [hs]
      . simp [hs]
    . simp [h, Array.getElem?_setIfInBounds_ne h]

/-- No two of these write one slot. -/
def Own (ops : Array Oper) : Prop := ∀ i j t, QL ops i = some t -> QL ops j = some t -> i = j
theorem QG.step {ops : Array Oper} (ho : Own ops) {L L' : Nat -> Prop} {f f' : Nat -> Value} {a a' : Act} (h : QG ops L f a a') (i : Nat) (v : Value)
    (hL : ∀ j, L' j ↔ (j = i \/ L j)) (hf : ∀ j, j ≠ i -> L j -> f' j = f j) (hi : f' i = v) : QG ops L' f' a (a'.put (QL ops i) v) := by
  refine ⟨by rw [Vm]; exact h.defers, by rw [HO]; exact h.size, fun j t hj hd ht => ?_, fun t hn => ?_⟩
  . rw [VC]
    by_cases e : QL ops i = some t
    . have hij := ho i j t e hd
      subst hij
      rw [if_pos ⟨e, by rw [h.size]; exact ht⟩, hi]
    . rw [if_neg (fun x => e x.1)]
      have hji : j ≠ i := fun e2 => e (e2 ▸ hd)
      have hLj := ((hL j).1 hj).resolve_left hji
      rw [h.put j t hLj hd ht, hf j hji hLj]
  . rw [VC, if_neg (fun x => hn i ((hL i).2 (.inl rfl)) x.1)]
    exact h.same t fun j hj => hn j ((hL j).2 (.inr hj))
theorem QG.congr {ops : Array Oper} {L L' : Nat -> Prop} {f f' : Nat -> Value} {a a' : Act} (h : QG ops L f a a') (hL : ∀ j, L j ↔ L' j) (hf : ∀ j, L j -> f j = f' j) : QG ops L' f' a a' :=
  ⟨h.defers, h.size, fun j t hj hd ht => by rw [<- hf j ((hL j).2 hj)]; exact h.put j t ((hL j).2 hj) hd ht, fun t hn => h.same t fun j hj => hn j ((hL j).1 hj)⟩
theorem QG.puts {ops : Array Oper} (ho : Own ops) {f : Nat -> Value} {a : Act} : ∀ (l : List Nat) {L : Nat -> Prop} {a' : Act}, QG ops L f a a' -> QG ops (fun j => j ∈ l \/ L j) f a (Q4 ops f l a')
  | [], L, a', h => h.congr (by simp) (fun _ _ => rfl)
  | i :: l, L, a', h => by
    have h1 := h.step ho (L' := fun j => j = i \/ L j) (f' := f) i (f i) (fun j => Iff.rfl) (fun _ _ _ => rfl) rfl
    have h2 := QG.puts ho l h1
    exact h2.congr (fun j => by simp only [List.mem_cons]; exact ⟨fun h => h.elim (fun h => .inl (.inr h)) (fun h => h.elim (fun h => .inl (.inl h)) .inr), fun h => h.elim (fun h => h.elim (fun h => .inr (.inl h)) .inl) (fun h => .inr (.inr h))⟩) (fun _ _ => rfl)
theorem QG.of {ops : Array Oper} (ho : Own ops) (f : Nat -> Value) (a : Act) (l : List Nat) : QG ops (· ∈ l) f a (Q4 ops f l a) :=
  (QG.puts ho l (QG.start (L := fun _ => False) (fun _ h => h))).congr (by simp) (fun _ _ => rfl)
theorem QG.unique {ops : Array Oper} {L : Nat -> Prop} {f : Nat -> Value} {a a' a'' : Act} (h : QG ops L f a a') (k : QG ops L f a a'') : a' = a'' := by
  have ht : a'.tmps = a''.tmps := by
    apply Array.ext_getElem?
    intro t
    by_cases ht : t < a.tmps.size
    . by_cases e : ∃ j, L j /\ QL ops j = some t
      . obtain ⟨j, hj, hd⟩ := e
        rw [h.put j t hj hd ht, k.put j t hj hd ht]
      . have hn : ∀ j, L j -> QL ops j ≠ some t := fun j hj hd => e ⟨j, hj, hd⟩
        rw [h.same t hn, k.same t hn]
    . rw [Array.getElem?_eq_none (by rw [h.size]; omega), Array.getElem?_eq_none (by rw [k.size]; omega)]
  have hd : a'.defers = a''.defers := by rw [h.defers, k.defers]
  cases a'; cases a''
  simp only at ht hd
  rw [ht, hd]

theorem ES {a a' : Act} {x : Operand} (h : ∀ t, x = .tmp t -> a'.tmps[t]? = a.tmps[t]?) : a'.eval x = a.eval x := by
  cases x with
  | tmp t => have := h t rfl; simp [Act.eval, Array.getD_eq_getD_getElem?, this]
  | _ => rfl
theorem Gh {ops : Array Oper} {o : Oper} {a a' : Act} (h : ∀ t, t ∈ o.looksAt ops -> a'.tmps[t]? = a.tmps[t]?) : Region.wanted o (yielded ops a'.tmps) = Region.wanted o (yielded ops a.tmps) := by
  unfold Region.wanted
  cases hg : o.guard with
  | none => rfl
  | some gw =>
    obtain ⟨g, want⟩ := gw
    have hy : yielded ops a'.tmps g = yielded ops a.tmps g := by
      unfold yielded
      cases ht : (ops[g]?).bind (·.dst) with
      | none => rfl
      | some t =>
        have := h t (by simp [Oper.looksAt, hg, ht])
        simp [this]
    simp only [hy]
theorem ER {ops : Array Oper} {o : Oper} {a a' : Act} (hs : ∀ cs b, o.op ≠ .select cs b) (h : ∀ t, t ∈ o.looksAt ops -> a'.tmps[t]? = a.tmps[t]?) : execOp a'.eval o = execOp a.eval o :=
  execOp_congr o hs fun x hx => ES fun t ht => h t (by subst ht; exact List.mem_append_left _ (List.mem_filterMap.2 ⟨.tmp t, by simpa using hx, rfl⟩))

section
variable {P : Program} {ops : Array Oper} {md : Region.Mode}

/-- What is shown of one operation: from the act with what it waits for. -/
def Qi (P : Program) (ops : Array Oper) (o : Oper) (a : Act) (w : World) (R : Value -> World -> Prop) : Prop :=
  ∀ K : Act -> World -> Prop, (∀ v w', R v w' -> K (a.put o.dst v) w') -> if Region.wanted o (yielded ops a.tmps) then Oper.wp P o a w K (fun _ _ _ => False) else K (a.put o.dst undef) w

theorem VB {a a' : Act} {d : Option Tmp} {u v : Value} (hs : a'.tmps.size = a.tmps.size) (h : a.put d u = a.put d v) : a'.put d u = a'.put d v := by
  cases d with
  | none => rfl
  | some d =>
    by_cases hd : d < a.tmps.size
    . have h1 := congrArg (fun x : Act => x.tmps[d]?) h
      simp only [VC, hd, and_self, if_true, Option.some.injEq] at h1
      rw [h1]
    . simp only [Act.put]
      rw [Array.setIfInBounds_eq_of_size_le (by rw [hs]; exact Nat.le_of_not_lt hd), Array.setIfInBounds_eq_of_size_le (by rw [hs]; exact Nat.le_of_not_lt hd)]

theorem Qi.wpOp {Q : Exit -> Act -> World -> Prop} {i : Nat} {o : Oper} (hi : ops[i]? = some o) (hs : ∀ cs b, o.op ≠ .select cs b) {a a' : Act} {w : World} {R : Value -> World -> Prop} (hsz : a'.tmps.size = a.tmps.size)
    (hl : ∀ t, t ∈ o.looksAt ops -> a'.tmps[t]? = a.tmps[t]?) (h : Qi P ops o a w R) {K : Act -> World -> Prop} (hK : ∀ v w', R v w' -> K (a'.put o.dst v) w') : wpOp P ops Q i K a' w := by
  unfold Go.wpOp
  simp only [hi]
  have h := h (fun a1 w1 => ∃ v, a1 = a.put o.dst v /\ R v w1) (fun v w' hr => ⟨v, rfl, hr⟩)
  rw [Gh hl]
  by_cases hw : Region.wanted o (yielded ops a.tmps) = true
  . rw [if_pos hw] at h ⊢
    refine .inl ?_
    unfold Oper.wp at *
    rw [ER hs hl]
    generalize (execOp a.eval o).run P w = r at *
    cases r with
    | ok n w' =>
      cases n <;> simp only [Oper.upon] at h ⊢
      case value u => obtain ⟨v, he, hr⟩ := h; rw [VB hsz he]; exact hK v _ hr
      case skip => obtain ⟨v, he, hr⟩ := h; rw [VB hsz he]; exact hK v _ hr
      case defer d =>
        obtain ⟨v, he, hr⟩ := h
        have h1 := congrArg (fun x : Act => x.defers.length) he
        simp [Vm] at h1
      case enter f args =>
        refine Calls.mono h fun e w'' he => ?_
        cases e with
        | returned u => obtain ⟨v, he, hr⟩ := he; show K (a'.put o.dst u) w''; rw [VB hsz he]; exact hK v _ hr
        | panicked c => exact False.elim he
        | outgrown => obtain ⟨_, _, hf⟩ := he; exact False.elim hf
      case row row args => exact Rows.mono h fun u w'' he => by obtain ⟨v, he, hr⟩ := he; rw [VB hsz he]; exact hK v _ hr
    | halt x w' =>
      cases x <;> simp only [Oper.upon] at h ⊢
  . rw [if_neg hw] at h ⊢
    obtain ⟨v, he, hr⟩ := h
    rw [VB hsz he]
    exact hK v _ hr

theorem KE {f : Nat -> Value} {l : List Nat} {i : Nat} {v : Value} (h : l.contains i = false) : Zn (Zg f i v) l = Zn f l := by
  funext k
  unfold Zn Zg
  by_cases e : k = i
  . subst e; rw [h]; simp
  . simp [e]

/-- What holds of an operation that has run. -/
abbrev Qat := Nat -> (Nat -> Value) -> World -> Prop

theorem Fe (h : Kk md ops = true) : Own ops := by
  intro i j t hi hj
  by_cases hij : i = j
  . exact hij
  . exfalso
    have hi' : i < ops.size := by
      rcases Nat.lt_or_ge i ops.size with h | h
      . exact h
      . simp [QL, Array.getElem?_eq_none h] at hi
    have hj' : j < ops.size := by
      rcases Nat.lt_or_ge j ops.size with h | h
      . exact h
      . simp [QL, Array.getElem?_eq_none h] at hj
    have h1 := List.all_eq_true.1 h i (List.mem_range.2 hi')
    rw [Array.getElem?_eq_getElem hi'] at h1
    simp only [Bool.and_eq_true] at h1
    have h2 := List.all_eq_true.1 h1.2 j (List.mem_range.2 hj')
    rw [hj] at h2
    simp only [Bool.and_eq_true] at h2
    have h3 := h2.1.1
    simp [hi] at h3
    exact hij h3.symm

theorem Y1 (h : Kk md ops = true) {i : Nat} {o : Oper} (hi : ops[i]? = some o) : (∀ cs b, o.op ≠ .select cs b) /\ (∀ j ∈ Qq md o, j < i) /\
    ∀ j t, j < ops.size -> QL ops j = some t -> (t ∈ o.looksAt ops -> j = i \/ j ∈ Qq md o \/ i ∈ QY md ops j) /\ ¬ (j ∈ Qq md o /\ i ∈ QY md ops j) := by
  have hi' : i < ops.size := (Array.getElem?_eq_some_iff.1 hi).1
  have h1 := List.all_eq_true.1 h i (List.mem_range.2 hi')
  rw [hi] at h1
  simp only [Bool.and_eq_true] at h1
  refine ⟨fun cs b e => ?_, fun j hj => ?_, fun j t hj hd => ?_⟩
  . have := h1.1.1
    rw [e] at this
    simp at this
  . have := List.all_eq_true.1 h1.1.2 j hj
    simpa using this
  . have h2 := List.all_eq_true.1 h1.2 j (List.mem_range.2 hj)
    rw [hd] at h2
    simp only [Bool.and_eq_true] at h2
    refine ⟨fun ht => ?_, fun hx => ?_⟩
    . have h3 := h2.1.2
      simp only [Bool.or_eq_true, Bool.not_eq_true', List.contains_iff_mem, beq_iff_eq] at h3
      rcases h3 with ((h3 | h3) | h3) | h3
      . rw [<- List.contains_iff_mem] at ht; rw [ht] at h3; cases h3
      . exact .inl h3
      . exact .inr (.inl h3)
      . exact .inr (.inr h3)
    . have h3 := h2.2
      simp only [Bool.not_eq_true', Bool.and_eq_false_iff] at h3
      rcases h3 with h3 | h3
      . have := List.contains_iff_mem.2 hx.1; rw [this] at h3; cases h3
      . have := List.contains_iff_mem.2 hx.2; rw [this] at h3; cases h3

theorem Kc (hb : Kk md ops = true) {listed : Array Bool} (hsz : listed.size = ops.size) (hr : Region.ready md ops listed = []) : ∀ j, j < ops.size -> listed.getD j false = true := by
  intro j
  induction j using Nat.strongRecOn with
  | _ j ih =>
    intro hj
    by_cases hl : listed.getD j false = true
    . exact hl
    . exfalso
      have ho : ops[j]? = some ops[j] := Array.getElem?_eq_getElem hj
      have hd := (Y1 hb ho).2.1
      have : j ∈ Region.ready md ops listed := by
        refine mem_ready.2 ⟨?_, _, ho, fun e he hbd => ?_⟩
        . rw [Array.getD_eq_getD_getElem?, Array.getElem?_eq_getElem (by omega)] at hl ⊢
          simpa using hl
        . have hm : e.on ∈ Qq md ops[j] := List.mem_map.2 ⟨e, List.mem_filter.2 ⟨by simpa using he, hbd⟩, rfl⟩
          have := hd _ hm
          exact ih _ this (by omega)
      rw [hr] at this
      cases this

theorem Y7 {i : Nat} {o : Oper} (hi : ops[i]? = some o) : QY md ops i = Qq md o := by simp [QY, hi]
theorem Qi.mono {o : Oper} {a : Act} {w : World} {R R' : Value -> World -> Prop} (h : Qi P ops o a w R) (hr : ∀ v w', R v w' -> R' v w') : Qi P ops o a w R' := fun K hK => h K fun v w' hv => hK v w' (hr v w' hv)

end
section
variable {P : Program} {ops : Array Oper} {o : Oper} {a : Act} {w : World} {R : Value -> World -> Prop}

theorem Qi.of_wp (hw : Region.wanted o (yielded ops a.tmps) = true) (h : ∀ K : Act -> World -> Prop, (∀ v w', R v w' -> K (a.put o.dst v) w') -> Oper.wp P o a w K (fun _ _ _ => False)) : Qi P ops o a w R := fun K hK => by
  rw [if_pos hw]; exact h K hK
/-- An operation that yields, and leaves the world alone. -/
theorem Qi.pure (hw : Region.wanted o (yielded ops a.tmps) = true) (v : Value) (hx : (execOp a.eval o).run P w = .ok (.value v) w) (hR : R v w) : Qi P ops o a w R :=
  Qi.of_wp hw fun K hK => by unfold Oper.wp; rw [hx]; exact hK v w hR
/-- A guarded operation that isn't wanted. -/
theorem Qi.off (hw : Region.wanted o (yielded ops a.tmps) = false) (hR : R undef w) : Qi P ops o a w R := fun K hK => by
  rw [if_neg (by rw [hw]; simp)]; exact hK _ _ hR
/-- A call of a Go function. -/
theorem Qi.call (hw : Region.wanted o (yielded ops a.tmps) = true) (f : FuncId) (args : Array Value) (hx : (execOp a.eval o).run P w = .ok (.enter f args) w) (hc : Calls P f args w fun e w' => ∃ v, e = .returned v /\ R v w') : Qi P ops o a w R :=
  Qi.of_wp hw fun K hK => by
    unfold Oper.wp
    rw [hx]
    refine Calls.mono hc fun e w' he => ?_
    obtain ⟨v, rfl, hr⟩ := he
    exact hK v w' hr
theorem Oper.wp_weaken {K : Act -> World -> Prop} {Q' Q : Exit -> Act -> World -> Prop} (hq : ∀ e a w, Q' e a w -> Q e a w) (h : Oper.wp P o a w K Q') : Oper.wp P o a w K Q := by
  unfold Oper.wp at *
  generalize (execOp a.eval o).run P w = r at *
  cases r with
  | ok n w' =>
    cases n <;> simp only [Oper.upon] at h ⊢ <;>
      first
        | exact h
        | exact Calls.mono h (fun e w'' he => by
            cases e with
            | returned u => exact he
            | panicked c => exact hq _ _ _ he
            | outgrown => obtain ⟨x, y, hxy⟩ := he; exact ⟨x, y, hq _ _ _ hxy⟩)
  | halt x w' =>
    cases x <;> simp only [Oper.upon] at h ⊢
    case panic u => exact hq _ _ _ h
/-- What is shown of one operation, in a region whose order is fixed. -/
theorem X4 {rest : List Oper} {Q : Exit -> Act -> World -> Prop} (h : Qi P ops o a w R) (hk : ∀ v w', R v w' -> wpList P ops Q rest (a.put o.dst v) w') : wpList P ops Q (o :: rest) a w := by
  refine wpList_step fun K hK => ?_
  have h' := h K fun v w' hr => hK _ _ (hk v w' hr)
  split
  . next hw => rw [if_pos hw] at h'; exact Oper.wp_weaken (fun _ _ _ hf => hf.elim) h'
  . next hw => rw [if_neg hw] at h'; exact h'
/-- A guard that is met. -/
theorem Qaz {g t : Nat} {b : Bool} (hg : o.guard = some (g, b)) (hd : QL ops g = some t) (hv : a.eval (.tmp t) = .bool b) : Region.wanted o (yielded ops a.tmps) = true := by
  have h : a.tmps[t]? = some (.bool b) := by
    simp only [Act.eval, Array.getD_eq_getD_getElem?] at hv
    cases hq : a.tmps[t]? with
    | none => rw [hq] at hv; simp [undef] at hv
    | some x => rw [hq] at hv; simp at hv; rw [hv]
  have hy : yielded ops a.tmps g = some b := by
    unfold yielded
    unfold QL at hd
    rw [hd]
    simp [h]
  unfold Region.wanted
  simp [hg, hy]
variable {ds : List (Option Tmp)} {dl : List (List Nat)} {s : Nat} {G : Bool -> World -> Prop} {F : Qat} {S : (Nat -> Value) -> World -> World -> Prop}
end
/-- A frame of so many slots, nothing deferred. -/
def Fm (n : Nat) (a : Act) : Prop := a.tmps.size = n /\ a.defers = []
/-- What the other slots hold stays. -/
def QiQ (a a' : Act) (d : Nat) : Prop := ∀ t u, decide (t = d) = false -> a.eval (.tmp t) = u -> a'.eval (.tmp t) = u
theorem Zj (a : Act) (t : Nat) : a.eval (.tmp t) = a.tmps[t]?.getD undef := by simp [Act.eval, Array.getD_eq_getD_getElem?]
theorem Fm.put {n : Nat} {a : Act} (h : Fm n a) (d : Option Tmp) (v : Value) : Fm n (a.put d v) := ⟨by rw [HO]; exact h.1, by rw [Vm]; exact h.2⟩
theorem Qcb {n d : Nat} {a : Act} (h : Fm n a) (hd : decide (d < n) = true) (v : Value) : (a.put (some d) v).eval (.tmp d) = v := by
  rw [Zj, VC, if_pos ⟨rfl, by rw [h.1]; exact of_decide_eq_true hd⟩]
  rfl
theorem Qca {a : Act} {d : Nat} (v : Value) : QiQ a (a.put (some d) v) d := fun t u ht hu => by
  rw [Zj, VC, if_neg (fun h => by have := of_decide_eq_false ht; cases h.1; exact this rfl), <- Zj, hu]

section
variable {P : Program} {ops : Array Oper} {o : Oper} {a : Act} {w : World} {R : Value -> World -> Prop} {rest : List Oper} {Q : Exit -> Act -> World -> Prop} {n : Nat}

theorem Hp {g t : Nat} {b c : Bool} (hg : o.guard = some (g, b)) (hd : QL ops g = some t) (hv : a.eval (.tmp t) = .bool c) (hbc : (c == b) = false) : Region.wanted o (yielded ops a.tmps) = false := by
  have h : a.tmps[t]? = some (.bool c) := by
    rw [Zj] at hv
    cases hq : a.tmps[t]? with
    | none => rw [hq] at hv; simp [undef] at hv
    | some x => rw [hq] at hv; simp at hv; rw [hv]
  have hy : yielded ops a.tmps g = some c := by
    unfold QL at hd
    unfold yielded
    rw [hd]
    simp [h]
  unfold Region.wanted
  rw [hg]
  simp only [hy]
  cases b <;> cases c <;> simp_all
theorem Qi.move (hw : Region.wanted o (yielded ops a.tmps) = true) {x : Operand} (ho : o.op = .move x) {v : Value} (hx : a.eval x = v) (hR : R v w) : Qi P ops o a w R :=
  Qi.pure hw v (by unfold execOp; simp only [ho, hx]; rfl) hR
theorem Qi.assign (hw : Region.wanted o (yielded ops a.tmps) = true) {x : Operand} (ho : o.op = .assign x) {v : Value} (hx : a.eval x = v) (hR : R v w) : Qi P ops o a w R :=
  Qi.pure hw v (by unfold execOp; simp only [ho, hx]; rfl) hR
theorem Qi.pick (hw : Region.wanted o (yielded ops a.tmps) = true) {c x y : Operand} (ho : o.op = .pick c x y) {b : Bool} (hc : a.eval c = .bool b) {v : Value} (hv : (if b then a.eval x else a.eval y) = v) (hR : R v w) : Qi P ops o a w R :=
  Qi.pure hw v (by unfold execOp; simp only [ho, hc, asBool, Sem.run_bind, Sem.run_pure, Result.andThen_ok]; rw [<- hv]) hR
theorem Qi.not (hw : Region.wanted o (yielded ops a.tmps) = true) {t : TypeId} {x : Operand} (ho : o.op = .unOp .not t x) {b : Bool} (hx : a.eval x = .bool b) {c : Bool} (hc : (!b) = c) (hR : R (.bool c) w) : Qi P ops o a w R :=
  Qi.pure hw _ (by unfold execOp; simp only [ho, hx]; simp [Op.unary, hc]) hR
theorem Qi.add (hw : Region.wanted o (yielded ops a.tmps) = true) {t t' : TypeId} {x y : Operand} (ho : o.op = .binOp .add t x y t') {K : IntKind} {m n : Int} (hx : a.eval x = .int K m) (hy : a.eval y = .int K n) {r : Int} (hr : K.wrap (m + n) = r) (hR : R (.int K r) w) : Qi P ops o a w R :=
  Qi.pure hw _ (by unfold execOp; simp only [ho, hx, hy, eqGuard, Sem.run_bind, Sem.run_pure, Result.andThen_ok]; simp [binOp, Op.intArith, hr]) hR
theorem Qi.sub (hw : Region.wanted o (yielded ops a.tmps) = true) {t t' : TypeId} {x y : Operand} (ho : o.op = .binOp .sub t x y t') {K : IntKind} {m n : Int} (hx : a.eval x = .int K m) (hy : a.eval y = .int K n) {r : Int} (hr : K.wrap (m - n) = r) (hR : R (.int K r) w) : Qi P ops o a w R :=
  Qi.pure hw _ (by unfold execOp; simp only [ho, hx, hy, eqGuard, Sem.run_bind, Sem.run_pure, Result.andThen_ok]; simp [binOp, Op.intArith, hr]) hR
theorem Qi.mul (hw : Region.wanted o (yielded ops a.tmps) = true) {t t' : TypeId} {x y : Operand} (ho : o.op = .binOp .mul t x y t') {K : IntKind} {m n : Int} (hx : a.eval x = .int K m) (hy : a.eval y = .int K n) {r : Int} (hr : K.wrap (m * n) = r) (hR : R (.int K r) w) : Qi P ops o a w R :=
  Qi.pure hw _ (by unfold execOp; simp only [ho, hx, hy, eqGuard, Sem.run_bind, Sem.run_pure, Result.andThen_ok]; simp [binOp, Op.intArith, hr]) hR
theorem Qi.quo (hw : Region.wanted o (yielded ops a.tmps) = true) {t t' : TypeId} {x y : Operand} (ho : o.op = .binOp .quo t x y t') {K : IntKind} {m n : Int} (hx : a.eval x = .int K m) (hy : a.eval y = .int K n) (hn : n ≠ 0) {r : Int} (hr : K.wrap (m.tdiv n) = r) (hR : R (.int K r) w) : Qi P ops o a w R :=
  Qi.pure hw _ (by unfold execOp; simp only [ho, hx, hy, eqGuard, Sem.run_bind, Sem.run_pure, Result.andThen_ok]; simp [binOp, Op.intDiv, hn, hr]) hR
theorem Qi.rem (hw : Region.wanted o (yielded ops a.tmps) = true) {t t' : TypeId} {x y : Operand} (ho : o.op = .binOp .rem t x y t') {K : IntKind} {m n : Int} (hx : a.eval x = .int K m) (hy : a.eval y = .int K n) (hn : n ≠ 0) {r : Int} (hr : m.tmod n = r) (hR : R (.int K r) w) : Qi P ops o a w R :=
  Qi.pure hw _ (by unfold execOp; simp only [ho, hx, hy, eqGuard, Sem.run_bind, Sem.run_pure, Result.andThen_ok]; simp [binOp, Op.intDiv, hn, hr]) hR
theorem Qi.and (hw : Region.wanted o (yielded ops a.tmps) = true) {t t' : TypeId} {x y : Operand} (ho : o.op = .binOp .and t x y t') {K : IntKind} {m n : Int} (hx : a.eval x = .int K m) (hy : a.eval y = .int K n) {r : Int} (hr : bits .and K m n = r) (hR : R (.int K r) w) : Qi P ops o a w R :=
  Qi.pure hw _ (by unfold execOp; simp only [ho, hx, hy, eqGuard, Sem.run_bind, Sem.run_pure, Result.andThen_ok]; simp [binOp, Op.intBits, <- hr, bits]) hR
theorem Qi.or (hw : Region.wanted o (yielded ops a.tmps) = true) {t t' : TypeId} {x y : Operand} (ho : o.op = .binOp .or t x y t') {K : IntKind} {m n : Int} (hx : a.eval x = .int K m) (hy : a.eval y = .int K n) {r : Int} (hr : bits .or K m n = r) (hR : R (.int K r) w) : Qi P ops o a w R :=
  Qi.pure hw _ (by unfold execOp; simp only [ho, hx, hy, eqGuard, Sem.run_bind, Sem.run_pure, Result.andThen_ok]; simp [binOp, Op.intBits, <- hr, bits]) hR
theorem Qi.xor (hw : Region.wanted o (yielded ops a.tmps) = true) {t t' : TypeId} {x y : Operand} (ho : o.op = .binOp .xor t x y t') {K : IntKind} {m n : Int} (hx : a.eval x = .int K m) (hy : a.eval y = .int K n) {r : Int} (hr : bits .xor K m n = r) (hR : R (.int K r) w) : Qi P ops o a w R :=
  Qi.pure hw _ (by unfold execOp; simp only [ho, hx, hy, eqGuard, Sem.run_bind, Sem.run_pure, Result.andThen_ok]; simp [binOp, Op.intBits, <- hr, bits]) hR
theorem Qi.lss (hw : Region.wanted o (yielded ops a.tmps) = true) {t t' : TypeId} {x y : Operand} (ho : o.op = .binOp .lss t x y t') {K : IntKind} {m n : Int} (hx : a.eval x = .int K m) (hy : a.eval y = .int K n) {b : Bool} (hb : decide (m < n) = b) (hR : R (.bool b) w) : Qi P ops o a w R :=
  Qi.pure hw _ (by unfold execOp; simp only [ho, hx, hy, eqGuard, Sem.run_bind, Sem.run_pure, Result.andThen_ok]; simp [binOp, Op.intCmp, <- hb]) hR
theorem Qi.leq (hw : Region.wanted o (yielded ops a.tmps) = true) {t t' : TypeId} {x y : Operand} (ho : o.op = .binOp .leq t x y t') {K : IntKind} {m n : Int} (hx : a.eval x = .int K m) (hy : a.eval y = .int K n) {b : Bool} (hb : decide (m <= n) = b) (hR : R (.bool b) w) : Qi P ops o a w R :=
  Qi.pure hw _ (by unfold execOp; simp only [ho, hx, hy, eqGuard, Sem.run_bind, Sem.run_pure, Result.andThen_ok]; simp [binOp, Op.intCmp, <- hb]) hR
theorem Qi.gtr (hw : Region.wanted o (yielded ops a.tmps) = true) {t t' : TypeId} {x y : Operand} (ho : o.op = .binOp .gtr t x y t') {K : IntKind} {m n : Int} (hx : a.eval x = .int K m) (hy : a.eval y = .int K n) {b : Bool} (hb : decide (m > n) = b) (hR : R (.bool b) w) : Qi P ops o a w R :=
  Qi.pure hw _ (by unfold execOp; simp only [ho, hx, hy, eqGuard, Sem.run_bind, Sem.run_pure, Result.andThen_ok]; simp [binOp, Op.intCmp, <- hb]) hR
theorem Qi.geq (hw : Region.wanted o (yielded ops a.tmps) = true) {t t' : TypeId} {x y : Operand} (ho : o.op = .binOp .geq t x y t') {K : IntKind} {m n : Int} (hx : a.eval x = .int K m) (hy : a.eval y = .int K n) {b : Bool} (hb : decide (m ≥ n) = b) (hR : R (.bool b) w) : Qi P ops o a w R :=
  Qi.pure hw _ (by unfold execOp; simp only [ho, hx, hy, eqGuard, Sem.run_bind, Sem.run_pure, Result.andThen_ok]; simp [binOp, Op.intCmp, <- hb]) hR
theorem Qi.eqlN (hw : Region.wanted o (yielded ops a.tmps) = true) {t t' : TypeId} {x y : Operand} (ho : o.op = .binOp .eql t x y t') {K : IntKind} {m n : Int} (hx : a.eval x = .int K m) (hy : a.eval y = .int K n) {b : Bool} (hb : (m == n) = b) (hR : R (.bool b) w) : Qi P ops o a w R :=
  Qi.pure hw _ (by unfold execOp; simp only [ho, hx, hy, eqGuard, Sem.run_bind, Sem.run_pure, Result.andThen_ok]; simp [binOp, Op.intCmp, <- hb]) hR
theorem Qi.neqN (hw : Region.wanted o (yielded ops a.tmps) = true) {t t' : TypeId} {x y : Operand} (ho : o.op = .binOp .neq t x y t') {K : IntKind} {m n : Int} (hx : a.eval x = .int K m) (hy : a.eval y = .int K n) {b : Bool} (hb : (m != n) = b) (hR : R (.bool b) w) : Qi P ops o a w R :=
  Qi.pure hw _ (by unfold execOp; simp only [ho, hx, hy, eqGuard, Sem.run_bind, Sem.run_pure, Result.andThen_ok]; simp [binOp, Op.intCmp, <- hb]) hR
theorem Qi.shl (hw : Region.wanted o (yielded ops a.tmps) = true) {t t' : TypeId} {x y : Operand} (ho : o.op = .binOp .shl t x y t') {K K2 : IntKind} {m n : Int} (hx : a.eval x = .int K m) (hy : a.eval y = .int K2 n) (hn : 0 <= n) (hn2 : n <= K.bits) {r : Int} (hr : K.wrap (m * 2 ^ n.toNat) = r) (hR : R (.int K r) w) : Qi P ops o a w R := by
  have e1 : min n.toNat K.bits = n.toNat := Nat.min_eq_left (by omega)
  have e2 : ¬ n < 0 := by omega
  exact Qi.pure hw _ (by unfold execOp; simp only [ho, hx, hy, eqGuard, Sem.run_bind, Sem.run_pure, Result.andThen_ok]; simp [binOp, Op.shift, e1, e2, hr]) hR
theorem Qi.shr (hw : Region.wanted o (yielded ops a.tmps) = true) {t t' : TypeId} {x y : Operand} (ho : o.op = .binOp .shr t x y t') {K K2 : IntKind} {m n : Int} (hx : a.eval x = .int K m) (hy : a.eval y = .int K2 n) (hn : 0 <= n) (hn2 : n <= K.bits) {r : Int} (hr : m / 2 ^ n.toNat = r) (hR : R (.int K r) w) : Qi P ops o a w R := by
  have e1 : min n.toNat K.bits = n.toNat := Nat.min_eq_left (by omega)
  have e2 : ¬ n < 0 := by omega
  have e3 : m.fdiv (2 ^ n.toNat) = m / 2 ^ n.toNat := Int.fdiv_eq_ediv_of_nonneg _ (by rw [show (2 : Int) ^ n.toNat = ((2 ^ n.toNat : Nat) : Int) by simp]; exact Int.natCast_nonneg _)
  exact Qi.pure hw _ (by unfold execOp; simp only [ho, hx, hy, eqGuard, Sem.run_bind, Sem.run_pure, Result.andThen_ok]; simp [binOp, Op.shift, e1, e2, e3, hr]) hR
theorem Qi.conv (hw : Region.wanted o (yielded ops a.tmps) = true) {s d : TypeId} {x : Operand} (ho : o.op = .convert s d x) {K K' : IntKind} {ts : TypeDesc} (hs : P.underlying s = some ts) (hd : P.underlying d = some (.int K')) {m : Int} (hx : a.eval x = .int K m) {r : Int} (hr : K'.wrap m = r) (hR : R (.int K' r) w) : Qi P ops o a w R :=
  Qi.pure hw _ (by unfold execOp; simp only [ho, hx, convert, Sem.run_bind, run_underlying hs, run_underlying hd, Result.andThen_ok]; simp [Conv.intToInt, hr]) hR
theorem Qi.lenS (hw : Region.wanted o (yielded ops a.tmps) = true) {t : TypeId} {x : Operand} (ho : o.op = .call { callee := .builtin .len, args := #[x], argTypes := #[t] }) {e : TypeId} (ht : P.underlying t = some (.slice e)) {p : Option Addr} {l c : Nat} (hx : a.eval x = .slice p l c) (hR : R (.int .i64 (l : Int)) w) : Qi P ops o a w R :=
  Qi.pure hw _ (by unfold execOp; simp only [ho, resolve, invoke, builtin, Sem.run_bind, Sem.run_pure, Result.andThen_ok, List.map_toArray, List.map_cons, List.map_nil, hx]; simp [Builtin.len_, run_underlying ht, goInt]) hR
end
theorem Qaw {x : Int} (h : -9223372036854775808 <= x /\ x <= 9223372036854775807) : IntKind.i64.wrap x = x := by
  simp [IntKind.wrap, IntKind.bits, IntKind.signed]
  omega
theorem F4 {x : Int} (h : 0 <= x /\ x < 18446744073709551616) : IntKind.u64.wrap x = x := by
  rw [IntKind.wrap_u64]; omega
theorem Qav {x : Int} (h : 0 <= x /\ x < 256) : IntKind.u8.wrap x = x := by
  rw [IntKind.wrap_u8']; omega
abbrev Fl := List (Nat × Value)
def ZN : Fl -> Nat -> Option Value
  | [], _ => none
  | (k, v) :: l, t => match Nat.beq k t with
    | true => some v
    | false => ZN l t
def ev (f : Fl) : Operand -> Option Value
  | .tmp t => ZN f t
  | .const v => some v
  | .global g => some (.pointer (some ⟨g, 0, none⟩))
  | .func g => some (.func (.func g) #[] #[])
def evl (f : Fl) : List Operand -> Option (List Value)
  | [] => some []
  | x :: l => match ev f x with
    | none => none
    | some v => match evl f l with
      | none => none
      | some vs => some (v :: vs)
/-- A frame that holds what the list says. -/
def Fr (N : Nat) (a : Act) (f : Fl) : Prop := Fm N a /\ ∀ t v, ZN f t = some v -> a.eval (.tmp t) = v
def Sub : Fl -> Fl -> Prop
  | [], _ => True
  | (t, v) :: l, f => ZN f t = some v /\ Sub l f
theorem Fr.ev {N : Nat} {a : Act} {f : Fl} {x : Operand} {v : Value} (h : Fr N a f) (hx : ev f x = some v) : a.eval x = v := by
  cases x with
  | tmp t => exact h.2 t v hx
  | const u => simpa [Go.Proofs.YtbiboamaigedjaaDoor.ev, Act.eval] using hx
  | global g => simpa [Go.Proofs.YtbiboamaigedjaaDoor.ev, Act.eval] using hx
  | func g => simpa [Go.Proofs.YtbiboamaigedjaaDoor.ev, Act.eval] using hx
theorem Fr.evl {N : Nat} {a : Act} {f : Fl} (h : Fr N a f) : ∀ {xs : List Operand} {vs : List Value}, evl f xs = some vs -> xs.map a.eval = vs
  | [], vs, hx => by simpa [Go.Proofs.YtbiboamaigedjaaDoor.evl] using hx
  | x :: l, vs, hx => by
    unfold Go.Proofs.YtbiboamaigedjaaDoor.evl at hx
    cases h1 : Go.Proofs.YtbiboamaigedjaaDoor.ev f x with
    | none => rw [h1] at hx; cases hx
    | some v =>
      cases h2 : Go.Proofs.YtbiboamaigedjaaDoor.evl f l with
      | none => rw [h1, h2] at hx; cases hx
      | some us =>
        rw [h1, h2] at hx
        cases hx
        rw [List.map_cons, h.ev h1, Fr.evl h h2]
theorem Ft : ∀ {f' f : Fl}, Sub f' f -> ∀ {t v}, ZN f' t = some v -> ZN f t = some v
  | [], _, _, t, v, h => by cases h
  | (k, u) :: l, f, hs, t, v, h => by
    unfold ZN at h
    cases hk : Nat.beq k t with
    | true =>
      rw [hk] at h
      cases h
      have : k = t := Nat.eq_of_beq_eq_true hk
      subst this
      exact hs.1
    | false =>
      rw [hk] at h
      exact Ft hs.2 h
theorem Fr.sub {N : Nat} {a : Act} {f f' : Fl} (h : Fr N a f) (hs : Sub f' f) : Fr N a f' := ⟨h.1, fun t v hv => h.2 t v (Ft hs hv)⟩
theorem Fr.put {N : Nat} {a : Act} {f : Fl} (h : Fr N a f) {d : Nat} (hd : decide (d < N) = true) (v : Value) : Fr N (a.put (some d) v) ((d, v) :: f) := by
  refine ⟨h.1.put _ _, fun t u hu => ?_⟩
  unfold ZN at hu
  cases hk : Nat.beq d t with
  | true =>
    rw [hk] at hu
    cases hu
    have : d = t := Nat.eq_of_beq_eq_true hk
    subst this
    exact Qcb h.1 hd v
  | false =>
    rw [hk] at hu
    exact Qca v t u (by simpa using (fun e : t = d => Nat.ne_of_beq_eq_false hk e.symm)) (h.2 t u hu)
def Qj (ops : Array Oper) (o : Oper) (f : Fl) : Option Bool := match o.guard with
  | none => some true
  | some (g, b) => match QL ops g with
    | none => none
    | some t => match ZN f t with
      | some (.bool c) => some (c == b)
      | some _ => some false
      | none => none
theorem Hq {ops : Array Oper} {o : Oper} {a : Act} {g t : Nat} {b : Bool} {v : Value} (hg : o.guard = some (g, b)) (hd : QL ops g = some t) (hv : a.eval (.tmp t) = v) (hnb : ∀ c, v ≠ .bool c) : Region.wanted o (yielded ops a.tmps) = false := by
  have hy : yielded ops a.tmps g = none := by
    unfold QL at hd
    unfold yielded
    rw [hd]
    rw [Zj] at hv
    cases hq : a.tmps[t]? with
    | none => simp [hq]
    | some x =>
      rw [hq] at hv
      simp only [Option.getD_some] at hv
      subst hv
      cases x <;> simp_all
  unfold Region.wanted
  rw [hg]
  simp [hy]
theorem Qe {ops : Array Oper} {o : Oper} {f : Fl} {N : Nat} {a : Act} (h : Fr N a f) {b : Bool} (hw : Qj ops o f = some b) : Region.wanted o (yielded ops a.tmps) = b := by
  unfold Qj at hw
  cases hg : o.guard with
  | none => rw [hg] at hw; cases hw; unfold Region.wanted; rw [hg]
  | some p =>
    obtain ⟨g, c⟩ := p
    rw [hg] at hw
    simp only at hw
    cases hd : QL ops g with
    | none => rw [hd] at hw; cases hw
    | some t =>
      rw [hd] at hw
      simp only at hw
      split at hw
      . rename_i c' hl
        cases hw
        have hv := h.2 t _ hl
        cases hcc : (c' == c) with
        | true => have : c' = c := by simpa using hcc
                  subst this; exact Qaz hg hd hv
        | false => exact Hp hg hd hv hcc
      . rename_i v hnb hl
        cases hw
        exact Hq hg hd (h.2 t _ hl) (fun c e => hnb c e)
      . cases hw

/-- One operation, over a frame that is a list. -/
def DR (P : Program) (ops : Array Oper) (o : Oper) (N : Nat) (f : Fl) (w : World) (R : Value -> World -> Prop) : Prop := ∀ a, Fr N a f -> Qi P ops o a w R
/-- One that yields this value and leaves the world alone. -/
def DV (P : Program) (ops : Array Oper) (o : Oper) (N : Nat) (f : Fl) (w : World) (v : Value) : Prop := DR P ops o N f w fun v' w' => v' = v /\ w' = w
def WL (P : Program) (ops : Array Oper) (Q : Exit -> Act -> World -> Prop) (N : Nat) (l : List Oper) (f : Fl) (w : World) : Prop := ∀ a, Fr N a f -> wpList P ops Q l a w
def WC (P : Program) (N : Nat) (c : Code) (Q : Exit -> Act -> World -> Prop) (f : Fl) (w : World) : Prop := ∀ a, Fr N a f -> c.wp P Q a w

section
variable {P : Program} {ops : Array Oper} {o : Oper} {N : Nat} {f : Fl} {w : World} {R : Value -> World -> Prop} {rest : List Oper} {Q : Exit -> Act -> World -> Prop}

theorem DR.mono {R' : Value -> World -> Prop} (h : DR P ops o N f w R) (hr : ∀ v w', R v w' -> R' v w') : DR P ops o N f w R' := fun a ha => (h a ha).mono hr
theorem WL.val {d : Nat} {v : Value} (hd : DV P ops o N f w v) (ho : o.dst = some d) (hN : decide (d < N) = true) (k : WL P ops Q N rest ((d, v) :: f) w) : WL P ops Q N (o :: rest) f w := fun a ha =>
  X4 (hd a ha) fun v' w' e => by obtain ⟨rfl, rfl⟩ := e; rw [ho]; exact k _ (ha.put hN _)
theorem WL.get {d : Nat} (hd : DR P ops o N f w R) (ho : o.dst = some d) (hN : decide (d < N) = true) (k : ∀ v w', R v w' -> WL P ops Q N rest ((d, v) :: f) w') : WL P ops Q N (o :: rest) f w := fun a ha =>
  X4 (hd a ha) fun v' w' e => by rw [ho]; exact k v' w' e _ (ha.put hN _)
theorem WL.do (hd : DR P ops o N f w R) (ho : o.dst = none) (k : ∀ v w', R v w' -> WL P ops Q N rest f w') : WL P ops Q N (o :: rest) f w := fun a ha =>
  X4 (hd a ha) fun v' w' e => by rw [ho]; exact k v' w' e _ ha
theorem WL.off {d : Nat} (hw : Qj ops o f = some false) (ho : o.dst = some d) (hN : decide (d < N) = true) (k : WL P ops Q N rest ((d, undef) :: f) w) : WL P ops Q N (o :: rest) f w := fun a ha =>
  X4 (Qi.off (R := fun v' w' => v' = undef /\ w' = w) (Qe ha hw) ⟨rfl, rfl⟩) fun v' w' e => by obtain ⟨rfl, rfl⟩ := e; rw [ho]; exact k _ (ha.put hN _)
theorem WL.offn (hw : Qj ops o f = some false) (ho : o.dst = none) (k : WL P ops Q N rest f w) : WL P ops Q N (o :: rest) f w := fun a ha =>
  X4 (Qi.off (R := fun v' w' => w' = w) (Qe ha hw) rfl) fun v' w' e => by rw [ho, e]; exact k _ ha
theorem Qaj (m n : Int) : (m == n) = decide (m = n) := by
  by_cases h : m = n
  . simp [h]
  . simp [h]
-- operations that yield, and leave the world alone
theorem GU {x : Operand} {v : Value} (ho : o.op = .move x) (hx : ev f x = some v) (hw : Qj ops o f = some true := by rfl) : DV P ops o N f w v := fun a ha => Qi.move (Qe ha hw) ho (ha.ev hx) ⟨rfl, rfl⟩
theorem Ut {x : Operand} {v : Value} (ho : o.op = .assign x) (hx : ev f x = some v) (hw : Qj ops o f = some true := by rfl) : DV P ops o N f w v := fun a ha => Qi.assign (Qe ha hw) ho (ha.ev hx) ⟨rfl, rfl⟩
theorem GT {c x y : Operand} {b : Bool} {v : Value} (ho : o.op = .pick c x y) (hc : ev f c = some (.bool b)) (hv : (bif b then ev f x else ev f y) = some v) (hw : Qj ops o f = some true := by rfl) : DV P ops o N f w v := fun a ha =>
  Qi.pick (Qe ha hw) ho (ha.ev hc) (by cases b <;> simp at hv ⊢ <;> exact ha.ev hv) ⟨rfl, rfl⟩
theorem ET {t : TypeId} {x : Operand} {b : Bool} (ho : o.op = .unOp .not t x) (hx : ev f x = some (.bool b)) (hw : Qj ops o f = some true := by rfl) : DV P ops o N f w (.bool (!b)) := fun a ha =>
  Qi.not (Qe ha hw) ho (ha.ev hx) rfl ⟨rfl, rfl⟩
theorem Qdp {t t' : TypeId} {x y : Operand} {K : IntKind} {m n r : Int} (ho : o.op = .binOp .add t x y t') (hx : ev f x = some (.int K m)) (hy : ev f y = some (.int K n)) (hr : K.wrap (m + n) = r) (hw : Qj ops o f = some true := by rfl) : DV P ops o N f w (.int K r) := fun a ha =>
  Qi.add (Qe ha hw) ho (ha.ev hx) (ha.ev hy) hr ⟨rfl, rfl⟩
theorem Qdd {t t' : TypeId} {x y : Operand} {K : IntKind} {m n r : Int} (ho : o.op = .binOp .sub t x y t') (hx : ev f x = some (.int K m)) (hy : ev f y = some (.int K n)) (hr : K.wrap (m - n) = r) (hw : Qj ops o f = some true := by rfl) : DV P ops o N f w (.int K r) := fun a ha =>
  Qi.sub (Qe ha hw) ho (ha.ev hx) (ha.ev hy) hr ⟨rfl, rfl⟩
theorem Qdh {t t' : TypeId} {x y : Operand} {K : IntKind} {m n r : Int} (ho : o.op = .binOp .mul t x y t') (hx : ev f x = some (.int K m)) (hy : ev f y = some (.int K n)) (hr : K.wrap (m * n) = r) (hw : Qj ops o f = some true := by rfl) : DV P ops o N f w (.int K r) := fun a ha =>
  Qi.mul (Qe ha hw) ho (ha.ev hx) (ha.ev hy) hr ⟨rfl, rfl⟩
theorem QgY {t t' : TypeId} {x y : Operand} {K : IntKind} {m n r : Int} (ho : o.op = .binOp .quo t x y t') (hx : ev f x = some (.int K m)) (hy : ev f y = some (.int K n)) (hn : n ≠ 0) (hr : K.wrap (m.tdiv n) = r) (hw : Qj ops o f = some true := by rfl) : DV P ops o N f w (.int K r) := fun a ha =>
  Qi.quo (Qe ha hw) ho (ha.ev hx) (ha.ev hy) hn hr ⟨rfl, rfl⟩
theorem QgX {t t' : TypeId} {x y : Operand} {K : IntKind} {m n r : Int} (ho : o.op = .binOp .rem t x y t') (hx : ev f x = some (.int K m)) (hy : ev f y = some (.int K n)) (hn : n ≠ 0) (hr : m.tmod n = r) (hw : Qj ops o f = some true := by rfl) : DV P ops o N f w (.int K r) := fun a ha =>
  Qi.rem (Qe ha hw) ho (ha.ev hx) (ha.ev hy) hn hr ⟨rfl, rfl⟩
theorem Qdo {t t' : TypeId} {x y : Operand} {K : IntKind} {m n r : Int} (ho : o.op = .binOp .and t x y t') (hx : ev f x = some (.int K m)) (hy : ev f y = some (.int K n)) (hr : bits .and K m n = r) (hw : Qj ops o f = some true := by rfl) : DV P ops o N f w (.int K r) := fun a ha =>
  Qi.and (Qe ha hw) ho (ha.ev hx) (ha.ev hy) hr ⟨rfl, rfl⟩
theorem Qe5 {t t' : TypeId} {x y : Operand} {K : IntKind} {m n r : Int} (ho : o.op = .binOp .or t x y t') (hx : ev f x = some (.int K m)) (hy : ev f y = some (.int K n)) (hr : bits .or K m n = r) (hw : Qj ops o f = some true := by rfl) : DV P ops o N f w (.int K r) := fun a ha =>
  Qi.or (Qe ha hw) ho (ha.ev hx) (ha.ev hy) hr ⟨rfl, rfl⟩
theorem Qdc {t t' : TypeId} {x y : Operand} {K : IntKind} {m n r : Int} (ho : o.op = .binOp .xor t x y t') (hx : ev f x = some (.int K m)) (hy : ev f y = some (.int K n)) (hr : bits .xor K m n = r) (hw : Qj ops o f = some true := by rfl) : DV P ops o N f w (.int K r) := fun a ha =>
  Qi.xor (Qe ha hw) ho (ha.ev hx) (ha.ev hy) hr ⟨rfl, rfl⟩
theorem Qg2 {t t' : TypeId} {x y : Operand} {K : IntKind} {m n : Int} (ho : o.op = .binOp .lss t x y t') (hx : ev f x = some (.int K m)) (hy : ev f y = some (.int K n)) (hw : Qj ops o f = some true := by rfl) : DV P ops o N f w (.bool (decide (m < n))) := fun a ha =>
  Qi.lss (Qe ha hw) ho (ha.ev hx) (ha.ev hy) rfl ⟨rfl, rfl⟩
theorem Qg3 {t t' : TypeId} {x y : Operand} {K : IntKind} {m n : Int} (ho : o.op = .binOp .leq t x y t') (hx : ev f x = some (.int K m)) (hy : ev f y = some (.int K n)) (hw : Qj ops o f = some true := by rfl) : DV P ops o N f w (.bool (decide (m <= n))) := fun a ha =>
  Qi.leq (Qe ha hw) ho (ha.ev hx) (ha.ev hy) rfl ⟨rfl, rfl⟩
theorem Qg4 {t t' : TypeId} {x y : Operand} {K : IntKind} {m n : Int} (ho : o.op = .binOp .gtr t x y t') (hx : ev f x = some (.int K m)) (hy : ev f y = some (.int K n)) (hw : Qj ops o f = some true := by rfl) : DV P ops o N f w (.bool (decide (n < m))) := fun a ha =>
  Qi.gtr (Qe ha hw) ho (ha.ev hx) (ha.ev hy) rfl ⟨rfl, rfl⟩
theorem Qg5 {t t' : TypeId} {x y : Operand} {K : IntKind} {m n : Int} (ho : o.op = .binOp .geq t x y t') (hx : ev f x = some (.int K m)) (hy : ev f y = some (.int K n)) (hw : Qj ops o f = some true := by rfl) : DV P ops o N f w (.bool (decide (n <= m))) := fun a ha =>
  Qi.geq (Qe ha hw) ho (ha.ev hx) (ha.ev hy) rfl ⟨rfl, rfl⟩
theorem Qg6 {t t' : TypeId} {x y : Operand} {K : IntKind} {m n : Int} (ho : o.op = .binOp .eql t x y t') (hx : ev f x = some (.int K m)) (hy : ev f y = some (.int K n)) (hw : Qj ops o f = some true := by rfl) : DV P ops o N f w (.bool (decide (m = n))) := fun a ha =>
  Qi.eqlN (Qe ha hw) ho (ha.ev hx) (ha.ev hy) (Qaj m n) ⟨rfl, rfl⟩
theorem QgZ {t t' : TypeId} {x y : Operand} {K : IntKind} {m n : Int} (ho : o.op = .binOp .neq t x y t') (hx : ev f x = some (.int K m)) (hy : ev f y = some (.int K n)) (hw : Qj ops o f = some true := by rfl) : DV P ops o N f w (.bool (!decide (m = n))) := fun a ha =>
  Qi.neqN (Qe ha hw) ho (ha.ev hx) (ha.ev hy) (by rw [bne, Qaj m n]) ⟨rfl, rfl⟩
theorem D9 {s d : TypeId} {x : Operand} {K K' : IntKind} {ts : TypeDesc} {m r : Int} (ho : o.op = .convert s d x) (hs : P.underlying s = some ts) (hd : P.underlying d = some (.int K')) (hx : ev f x = some (.int K m)) (hr : K'.wrap m = r) (hw : Qj ops o f = some true := by rfl) : DV P ops o N f w (.int K' r) := fun a ha =>
  Qi.conv (Qe ha hw) ho hs hd (ha.ev hx) hr ⟨rfl, rfl⟩
theorem EU {t e : TypeId} {x : Operand} {p : Option Addr} {l c : Nat} (ho : o.op = .call { callee := .builtin .len, args := #[x], argTypes := #[t] }) (ht : P.underlying t = some (.slice e)) (hx : ev f x = some (.slice p l c)) (hw : Qj ops o f = some true := by rfl) : DV P ops o N f w (.int .i64 (l : Int)) := fun a ha =>
  Qi.lenS (Qe ha hw) ho ht (ha.ev hx) ⟨rfl, rfl⟩
theorem Qfa {t : TypeId} {x : Operand} {s : ByteArray} (ho : o.op = .call { callee := .builtin .len, args := #[x], argTypes := #[t] }) (ht : P.underlying t = some .string) (hx : ev f x = some (.string s)) (hw : Qj ops o f = some true := by rfl) : DV P ops o N f w (.int .i64 (s.size : Int)) := fun a ha => by
  have hx := ha.ev hx
  exact Qi.pure (Qe ha hw) _ (by unfold execOp; simp only [ho, resolve, invoke, builtin, Sem.run_bind, Sem.run_pure, Result.andThen_ok, List.map_toArray, List.map_cons, List.map_nil, hx]; simp [Builtin.len_, run_underlying ht, goInt]) ⟨rfl, rfl⟩
theorem EV {x : Operand} {i : Nat} {vs : Array Value} {v : Value} (ho : o.op = .extract x i) (hx : ev f x = some (.tuple vs)) (hv : vs[i]? = some v) (hw : Qj ops o f = some true := by rfl) : DV P ops o N f w v := fun a ha => by
  have hx := ha.ev hx
  exact Qi.pure (Qe ha hw) _ (by unfold execOp; simp only [ho, hx, Instr.extract, hv, Sem.run_bind, Sem.run_pure, Result.andThen_ok]) ⟨rfl, rfl⟩
theorem Qfd {fn : Fn} {first captured : Array Operand} {cs : List Value} (ho : o.op = .makeFunc fn first captured) (h1 : first = #[]) (hc : evl f captured.toList = some cs) (hw : Qj ops o f = some true := by rfl) : DV P ops o N f w (.func fn #[] cs.toArray) := fun a ha => by
  have hx := ha.evl hc
  exact Qi.pure (Qe ha hw) _ (by unfold execOp; simp only [ho, h1, Instr.makeFunc, Sem.run_bind, Sem.run_pure, Result.andThen_ok]; rw [<- hx]; congr 3 <;> first | (simp; done) | (rw [<- Array.toList_map])) ⟨rfl, rfl⟩
-- strings
theorem Gj (s t : ByteArray) : (s.toList == t.toList) = decide (s = t) := by
  by_cases h : s = t
  . rw [Ed h, decide_eq_true h]
  . rw [QaH h, decide_eq_false h]
def Vz (s t : ByteArray) : Bool := Op.bytesLess s.toList t.toList
theorem Qfe {t t' : TypeId} {x y : Operand} {m n : ByteArray} (ho : o.op = .binOp .eql t x y t') (hx : ev f x = some (.string m)) (hy : ev f y = some (.string n)) (hw : Qj ops o f = some true := by rfl) : DV P ops o N f w (.bool (decide (m = n))) := fun a ha => by
  have hx := ha.ev hx
  have hy := ha.ev hy
  exact Qi.pure (Qe ha hw) _ (by unfold execOp; simp only [ho, hx, hy, eqGuard, Sem.run_bind, Sem.run_pure, Result.andThen_ok]; simp [binOp, Op.stringOp, Gj]) ⟨rfl, rfl⟩
theorem Qe6 {t t' : TypeId} {x y : Operand} {m n : ByteArray} (ho : o.op = .binOp .neq t x y t') (hx : ev f x = some (.string m)) (hy : ev f y = some (.string n)) (hw : Qj ops o f = some true := by rfl) : DV P ops o N f w (.bool (!decide (m = n))) := fun a ha => by
  have hx := ha.ev hx
  have hy := ha.ev hy
  exact Qi.pure (Qe ha hw) _ (by unfold execOp; simp only [ho, hx, hy, eqGuard, Sem.run_bind, Sem.run_pure, Result.andThen_ok]; simp [binOp, Op.stringOp, Gj]) ⟨rfl, rfl⟩
theorem Qe9 {t t' : TypeId} {x y : Operand} {m n : ByteArray} (ho : o.op = .binOp .lss t x y t') (hx : ev f x = some (.string m)) (hy : ev f y = some (.string n)) (hw : Qj ops o f = some true := by rfl) : DV P ops o N f w (.bool (Vz m n)) := fun a ha => by
  have hx := ha.ev hx
  have hy := ha.ev hy
  exact Qi.pure (Qe ha hw) _ (by unfold execOp; simp only [ho, hx, hy, eqGuard, Sem.run_bind, Sem.run_pure, Result.andThen_ok]; simp [binOp, Op.stringOp, Vz]) ⟨rfl, rfl⟩
theorem Qfc {t t' : TypeId} {x y : Operand} {m n : ByteArray} (ho : o.op = .binOp .geq t x y t') (hx : ev f x = some (.string m)) (hy : ev f y = some (.string n)) (hw : Qj ops o f = some true := by rfl) : DV P ops o N f w (.bool (!Vz m n)) := fun a ha => by
  have hx := ha.ev hx
  have hy := ha.ev hy
  exact Qi.pure (Qe ha hw) _ (by unfold execOp; simp only [ho, hx, hy, eqGuard, Sem.run_bind, Sem.run_pure, Result.andThen_ok]; simp [binOp, Op.stringOp, Vz]) ⟨rfl, rfl⟩
theorem Qfb {t t' : TypeId} {x y : Operand} {m n : ByteArray} (ho : o.op = .binOp .gtr t x y t') (hx : ev f x = some (.string m)) (hy : ev f y = some (.string n)) (hw : Qj ops o f = some true := by rfl) : DV P ops o N f w (.bool (!(Vz m n || decide (m = n)))) := fun a ha => by
  have hx := ha.ev hx
  have hy := ha.ev hy
  exact Qi.pure (Qe ha hw) _ (by unfold execOp; simp only [ho, hx, hy, eqGuard, Sem.run_bind, Sem.run_pure, Result.andThen_ok]; simp [binOp, Op.stringOp, Vz, Gj]) ⟨rfl, rfl⟩
theorem Qfg {t t' : TypeId} {x y : Operand} {m n : ByteArray} (ho : o.op = .binOp .add t x y t') (hx : ev f x = some (.string m)) (hy : ev f y = some (.string n)) (hs : m.size + n.size <= 9223372036854775807) (hw : Qj ops o f = some true := by rfl) : DV P ops o N f w (.string (m ++ n)) := fun a ha => by
  have hx := ha.ev hx
  have hy := ha.ev hy
  have hz : ¬ ((m.size + n.size : Nat) : Int) > IntKind.i64.max := by have : IntKind.i64.max = 9223372036854775807 := by decide
                                                                      rw [this]; omega
  exact Qi.pure (Qe ha hw) _ (by unfold execOp; simp only [ho, hx, hy, eqGuard, Sem.run_bind, Sem.run_pure, Result.andThen_ok]; simp only [binOp, Op.stringOp, if_neg hz]; simp) ⟨rfl, rfl⟩
-- a call
theorem FG {a : Act} {xs : List Operand} {vs : List Value} (h : xs.map a.eval = vs) : xs.toArray.map a.eval = vs.toArray := by rw [<- h]; simp
theorem Qff {c : Operand} {F : FuncId} {fn : Func} {xs : List Operand} {ts : Array TypeId} {vs : List Value} {cap : Array Value} (ho : o.op = .call { callee := .value c, args := xs.toArray, argTypes := ts }) (hcv : ev f c = some (.func (.func F) #[] cap)) (hf : P.funcs[F]? = some fn) (hn : (fn.name == "runtime.NumGoroutine") = false) (hb : fn.body.isNone = false)
    (hx : evl f xs = some vs) (hc : Calls P F (vs.toArray ++ cap) w fun e w' => ∃ v, e = .returned v /\ R v w') (hw : Qj ops o f = some true := by rfl) : DR P ops o N f w R := fun a ha => by
  have he := FG (ha.evl hx)
  have hc' := ha.ev hcv
  exact Qi.call (Qe ha hw) F (vs.toArray ++ cap) (by
    unfold execOp
    simp only [ho, resolve, he, hc', Deferred.ofValue, Sem.run_bind, Sem.run_pure, Result.andThen_ok, invoke]
    simp only [Array.empty_append, callFunc, Sem.run_bind, run_program, Result.andThen_ok, hf, hn, hb]
    rfl) hc
end
section
variable {P : Program} {N : Nat} {f : Fl} {w : World} {Q : Exit -> Act -> World -> Prop}
end
theorem QdA {P : Program} {f : FuncId} {fn : Func} {args : Array Value} {body : Code} {w : World} {R : Ending -> World -> Prop} {N : Nat} (hf : P.funcs[f]? = some fn) (hb : fn.body = some body) (hn : fn.ntmps = N) (hN : decide (args.size <= N) = true)
    (h : ∀ a, Fm N a -> (∀ t v, args[t]? = some v -> a.eval (.tmp t) = v) -> body.wp P (bodyPost P fn R) a w) : Calls P f args w R := by
  refine calls_of_wp hf hb ?_
  refine h _ ⟨?_, rfl⟩ fun t v hv => ?_
  . have := of_decide_eq_true hN
    simp [hn]
    omega
  . have ht := (Array.getElem?_eq_some_iff.1 hv).1
    rw [Zj]
    have he := Array.getElem?_eq_getElem ht
    rw [he] at hv
    simp [Array.getElem?_append, ht]
    exact Option.some.inj hv
theorem Qdz {P : Program} {F : FuncId} {fn : Func} {body : Code} {w : World} {R : Ending -> World -> Prop} {N : Nat} (vs : List Value) (f : Fl) (hf : P.funcs[F]? = some fn) (hb : fn.body = some body) (hn : fn.ntmps = N) (hN : decide (vs.length <= N) = true)
    (hfr : f = (vs.zipIdx.map fun p => (p.2, p.1))) (h : WC P N body (bodyPost P fn R) f w) : Calls P F vs.toArray w R := by
  refine QdA hf hb hn (by simpa using hN) fun a hfm harg => h a ⟨hfm, fun t v hv => harg t v ?_⟩
  subst hfr
  have key : ∀ (l : List Value) (k : Nat), ZN ((l.zipIdx k).map fun p => (p.2, p.1)) t = some v -> k <= t /\ l[t - k]? = some v := by
    intro l
    induction l with
    | nil => intro k hk; cases hk
    | cons x l ih =>
      intro k hk
      simp only [List.zipIdx_cons, List.map_cons] at hk
      unfold ZN at hk
      cases hb : Nat.beq k t with
      | true =>
        rw [hb] at hk
        cases hk
        have := Nat.eq_of_beq_eq_true hb
        subst this
        simp
      | false =>
        rw [hb] at hk
        obtain ⟨h1, h2⟩ := ih (k + 1) hk
        refine ⟨by omega, ?_⟩
        rw [show t - k = (t - (k + 1)) + 1 by omega]
        simpa using h2
  have := (key vs 0 hv).2
  simpa using this
/-- The end of a call: results that are slots. -/
def fin (P : Program) (fn : Func) (R : Ending -> World -> Prop) (a : Act) (w : World) : Prop := a.defers = [] /\ ∃ v, (results fn a.tmps).run P w = .ok v w /\ R (.returned v) w
section
variable {P : Program} {fn : Func} {R : Ending -> World -> Prop} {N : Nat} {f : Fl} {w : World}
theorem Gm {a : Act} {t : Nat} {v : Value} (ha : Fr N a f) (h : ZN f t = some v) : a.tmps.getD t undef = v := ha.2 t v h
end
/-- What an operation of a drawn region yields: a value, or what it is like. -/
inductive VS where
  | is (v : Value)
  | by (p : Value -> World -> Prop)
section
variable {P : Program} {ops : Array Oper} {N : Nat} {sd : List (Option Tmp × VS)} {dl : List (List Nat)}
end
/-- One block has been written to, and nothing else has changed. -/
structure Uc (B : Nat) (w w' : World) : Prop where
  os : w'.os = w.os
  tape : w'.tape = w.tape
  output : w'.output = w.output
  size : w'.heap.size = w.heap.size
  block : ∀ k, k ≠ B -> w'.heap[k]? = w.heap[k]?
theorem Uc.below {n0 B : Nat} {w0 w w' : World} (h : Uc B w w') (hb : Below n0 w0 w) (hB : n0 <= B) : Below n0 w0 w' :=
  ⟨by rw [h.os]; exact hb.os, by rw [h.tape]; exact hb.tape, by rw [h.output]; exact hb.output, by rw [h.size]; exact hb.size, fun k hk => by rw [h.block k (by omega)]; exact hb.block k hk⟩
theorem UC (w : World) (B : Nat) (cs : Array Value) : Uc B w (w.setRow B cs) := ⟨rfl, rfl, rfl, by simp [World.setRow], fun k hk => setRow_other w B k cs hk⟩
/-- What lies off these blocks has stayed. -/
def Ud (L : List Nat) (w w' : World) : Prop := w.heap.size <= w'.heap.size /\ ∀ k, k ∉ L -> k < w.heap.size -> w'.heap[k]? = w.heap[k]?
theorem Ud.of_below {L : List Nat} {w w' : World} (h : Below w.heap.size w w') : Ud L w w' := ⟨h.size, fun k _ hk => h.block k hk⟩
theorem Ud.of_only {L : List Nat} {B : Nat} {w w' : World} (h : Uc B w w') (hB : B ∈ L) : Ud L w w' := ⟨by rw [h.size]; exact Nat.le_refl _, fun k hk _ => h.block k (fun e => hk (e ▸ hB))⟩
/-- A block of the call's Xx: it may be written. -/
def X8 (w : World) (B : Nat) (cs : List Value) : Prop := ∃ t, w.heap[B]? = some (.cells cs.toArray t (0, 0))
theorem X8.lt {w : World} {B : Nat} {cs : List Value} (h : X8 w B cs) : B < w.heap.size := by
  obtain ⟨t, h⟩ := h
  exact (Array.getElem?_eq_some_iff.1 h).1
theorem X8.below {w w' : World} {B : Nat} {cs : List Value} (h : X8 w B cs) (hb : Below w.heap.size w w') : X8 w' B cs := by
  obtain ⟨t, h'⟩ := h
  exact ⟨t, by rw [hb.block B (X8.lt ⟨t, h'⟩)]; exact h'⟩
theorem X8.other {w w' : World} {B C : Nat} {cs : List Value} (h : X8 w B cs) (ho : Uc C w w') (hn : B ≠ C) : X8 w' B cs := by
  obtain ⟨t, h'⟩ := h
  exact ⟨t, by rw [ho.block B hn]; exact h'⟩
theorem X8.range {w : World} {B : Nat} {cs : List Value} (h : X8 w B cs) : w.rangeAt B 0 cs := fun j v hj => by
  obtain ⟨t, h⟩ := h
  simp [World.cell?, h, hj]
theorem X8.part {w : World} {B : Nat} {cs : List Value} (h : X8 w B cs) (o n : Nat) : w.rangeAt B o ((cs.drop o).take n) := fun j v hj => by
  rw [List.getElem?_take] at hj
  split at hj
  . rw [List.getElem?_drop] at hj
    have := h.range (o + j) v hj
    simpa using this
  . cases hj
theorem X8.cell {w : World} {B k : Nat} {cs : List Value} {v : Value} (h : X8 w B cs) (hk : cs[k]? = some v) : w.cell? ⟨B, k, none⟩ = some v := by simpa using h.range k v hk
theorem ZF {w w' : World} {L : List Nat} {X o : Nat} {cs : List Value} (h : w.rangeAt X o cs) (ha : Ud L w w') (hX : X ∉ L) : w'.rangeAt X o cs := fun j v hj => by
  have h1 := h j v hj
  have hlt := World.block_lt_of_cell? w _ h1
  rw [<- h1]
  exact World.cell?_of_block (ha.2 X hX hlt)
theorem Zo {w : World} {X o : Nat} {cs : List Value} (h : w.rangeAt X o cs) (hn : 0 < cs.length) : X < w.heap.size :=
  World.block_lt_of_cell? w _ (h 0 _ (List.getElem?_eq_getElem hn))
theorem Vl {w : World} {X o : Nat} {cs : List Value} (h : w.rangeAt X o cs) (p n : Nat) : w.rangeAt X (o + p) ((cs.drop p).take n) := fun j v hj => by
  rw [List.getElem?_take] at hj
  split at hj
  . rw [List.getElem?_drop] at hj
    rw [Nat.add_assoc]
    exact h (p + j) v hj
  . cases hj
/-- A slice whose elements are these rows, off the call's Xx blocks. -/
def Hb (s : Nat) (L : List Nat) (w : World) (v : Value) (rs : List (List Value)) : Prop :=
  0 < s /\ (∀ r ∈ rs, r.length = s) /\ ∃ a cap, v = .slice a rs.length cap /\ rs.length <= cap /\ cap <= maxLen /\ (a = none -> cap = 0) /\ (rs ≠ [] -> ∃ X o, a = some ⟨X, o, none⟩ /\ X ∉ L /\ w.rangeAt X o rs.flatten)
theorem JR {s : Nat} : ∀ {rs : List (List Value)}, (∀ r ∈ rs, r.length = s) -> rs.flatten.length = rs.length * s
  | [], _ => by simp
  | r :: rs, h => by
    rw [List.flatten_cons, List.length_append, JR (fun r hr => h r (List.mem_cons_of_mem _ hr)), h r (by simp), List.length_cons, Nat.succ_mul, Nat.add_comm]
theorem Us {s : Nat} : ∀ {rs : List (List Value)} (i : Nat), (∀ r ∈ rs, r.length = s) -> rs.flatten.drop (i * s) = (rs.drop i).flatten
  | rs, 0, _ => by simp
  | [], i + 1, _ => by simp
  | r :: rs, i + 1, h => by
    have hr := h r (by simp)
    rw [List.flatten_cons, Nat.succ_mul, Nat.add_comm, <- List.drop_drop, <- hr, List.drop_left, hr, Us i (fun r hr => h r (List.mem_cons_of_mem _ hr)), List.drop_succ_cons]
theorem K0 {s : Nat} : ∀ {rs : List (List Value)} (i : Nat), (∀ r ∈ rs, r.length = s) -> rs.flatten.take (i * s) = (rs.take i).flatten
  | rs, 0, _ => by simp
  | [], i + 1, _ => by simp
  | r :: rs, i + 1, h => by
    have hr := h r (by simp)
    rw [List.flatten_cons, Nat.succ_mul, Nat.add_comm, List.take_add, <- hr, List.take_left, List.drop_left, hr, K0 i (fun r hr => h r (List.mem_cons_of_mem _ hr)), List.take_succ_cons, List.flatten_cons]
theorem Qc7 {s : Nat} {rs : List (List Value)} {i : Nat} {r : List Value} (h : ∀ r ∈ rs, r.length = s) (hi : rs[i]? = some r) : (rs.flatten.drop (i * s)).take s = r := by
  obtain ⟨hl, he⟩ := List.getElem?_eq_some_iff.1 hi
  have hr := h r (List.mem_of_getElem? hi)
  rw [Us i h, List.drop_eq_getElem_cons hl, he, List.flatten_cons, <- hr, List.take_left]
theorem Hb.agree {s : Nat} {L : List Nat} {w w' : World} {v : Value} {rs : List (List Value)} (h : Hb s L w v rs) (ha : Ud L w w') : Hb s L w' v rs := by
  obtain ⟨h0, hr, a, cap, h1, h2, h3, h4, h5⟩ := h
  refine ⟨h0, hr, a, cap, h1, h2, h3, h4, fun hn => ?_⟩
  obtain ⟨X, o, e, hX, hc⟩ := h5 hn
  exact ⟨X, o, e, hX, ZF hc ha hX⟩
theorem QcD : ∀ v ∈ ([] : List Value), v.oneCell' = true := fun v h => by cases h
theorem DL {v : Value} {l : List Value} (h : v.oneCell' = true) (t : ∀ u ∈ l, u.oneCell' = true) : ∀ u ∈ v :: l, u.oneCell' = true := fun u hu => by
  cases hu with
  | head => exact h
  | tail _ hu => exact t u hu
theorem EF {v : Value} (h : v.oneCell' = true) : v.cells.toList = [v] := by cases v <;> simp_all [Value.cells, Value.oneCell']
def Qbk (P : Program) (t n : Nat) : Bool := (match P.underlying t with | some (.struct _) => true | some (.array _ _) => true | _ => false) && (match P.info? t with | some i => i.size == n | none => false)
def EC (P : Program) (t : Nat) : Bool := (match P.underlying t with | none => false | some (.struct _) => false | some (.array _ _) => false | some _ => true) && (match P.info? t with | some i => i.size == 1 | none => false)
def Zc (P : Program) (t n : Nat) : Bool := match P.info? t with | some i => i.size == n | none => false
def Ul (P : Program) (t s : Nat) : Bool := match P.underlying t with | some (.slice e) => Zc P e s | _ => false
/-- A struct's field lies so many cells behind its beginning. -/
def Qbb (P : Program) (s : TypeId) (f off : Nat) : Bool := match P.underlying s with
  | some (.struct fs) => match fs[f]? with
    | some fd => fd.offset == off && (match P.info? fd.type with | some i => i.size != 0 | none => false)
    | none => false
  | _ => false
section
variable {P : Program}
theorem YR {t n : Nat} (h : Zc P t n = true) : ∃ i, P.info? t = some i /\ i.size = n := by
  unfold Zc at h
  split at h
  . rename_i i hi; exact ⟨i, hi, by simpa using h⟩
  . cases h
theorem Zs {t n : Nat} (h : Zc P t n = true) : (P.info? t).map (·.size) = some n := by
  obtain ⟨i, hi, hn⟩ := YR h
  rw [hi, <- hn]; rfl
theorem U2 {t n : Nat} (h : Qbk P t n = true) : ∃ d, P.underlying t = some d /\ d.isRow = true /\ (P.info? t).map (·.size) = some n := by
  unfold Qbk at h
  simp only [Bool.and_eq_true] at h
  obtain ⟨h1, h2⟩ := h
  have h3 := Zs (P := P) (t := t) (n := n) h2
  split at h1
  . rename_i fs hu; exact ⟨_, hu, rfl, h3⟩
  . rename_i m e hu; exact ⟨_, hu, rfl, h3⟩
  . cases h1
theorem U1 {t : Nat} (h : EC P t = true) : ∃ d, P.underlying t = some d /\ (match d with | .struct _ | .array _ _ => true | _ => false) = false /\ (P.info? t).map (·.size) = some 1 := by
  unfold EC at h
  simp only [Bool.and_eq_true] at h
  obtain ⟨h1, h2⟩ := h
  have h3 := Zs (P := P) (t := t) (n := 1) h2
  split at h1
  . cases h1
  . cases h1
  . cases h1
  . rename_i d hs ha hu
    exact ⟨_, hu, by cases d <;> simp_all, h3⟩
theorem KR {t s : Nat} (h : Ul P t s = true) : ∃ e, P.underlying t = some (.slice e) /\ (P.info? e).map (·.size) = some s := by
  unfold Ul at h
  split at h
  . rename_i e hu; exact ⟨e, hu, Zs h⟩
  . cases h
theorem Va (b o j : Nat) : (⟨b, o, none⟩ : Addr).add j = ⟨b, o + j, none⟩ := Go.Addr.add_mid b o j
theorem QbV {w : World} {s : TypeId} {f off : Nat} (hf : Qbb P s f off = true) (B o0 : Nat) : (Instr.fieldAt s (.pointer (some ⟨B, o0, none⟩)) f).run P w = .ok (.pointer (some ⟨B, o0 + off, none⟩)) w := by
  unfold Qbb at hf
  cases hu : P.underlying s with
  | none => rw [hu] at hf; cases hf
  | some d =>
    rw [hu] at hf
    cases d <;> simp only [Bool.false_eq_true] at hf
    rename_i fs
    cases hfs : fs[f]? with
    | none => rw [hfs] at hf; cases hf
    | some fd =>
      rw [hfs] at hf
      simp only [Bool.and_eq_true, beq_iff_eq] at hf
      obtain ⟨h1, h2⟩ := hf
      subst h1
      cases hi : P.info? fd.type with
      | none => rw [hi] at h2; cases h2
      | some i =>
        rw [hi] at h2
        have hne : i.size ≠ 0 := by simpa using h2
        simp [Instr.fieldAt, fieldPlace, Instr.sureAddr, Sem.run_bind, run_underlying hu w, hfs, sizeOf, typeInfo, hi, hne, Va]
theorem QbT {w : World} {t e : TypeId} {n c s : Nat} (hu : P.underlying t = some (.slice e)) (hs : (P.info? e).map (·.size) = some s) (X o0 : Nat) (k : IntKind) (i : Int) (h0 : 0 <= i) (h1 : i < n) :
    (Instr.indexAt t (.slice (some ⟨X, o0, none⟩) n c) (.int k i)).run P w = .ok (.pointer (some ⟨X, o0 + i.toNat * s, none⟩)) w := by
  cases hi : P.info? e with
  | none => rw [hi] at hs; cases hs
  | some q =>
    have hq : q.size = s := by simpa [hi] using hs
    simp [Instr.indexAt, asIntOf, Sem.run_bind, run_underlying hu w, h0, h1, sizeOf, typeInfo, hi, hq, Va]
theorem QbU {w : World} {t e : TypeId} {n s : Nat} (hu : P.underlying t = some (.array n e)) (hs : (P.info? e).map (·.size) = some s) (B o0 : Nat) (k : IntKind) (i : Int) (h0 : 0 <= i) (h1 : i < n) :
    (Instr.indexAt t (.pointer (some ⟨B, o0, none⟩)) (.int k i)).run P w = .ok (.pointer (some ⟨B, o0 + i.toNat * s, none⟩)) w := by
  cases hi : P.info? e with
  | none => rw [hi] at hs; cases hs
  | some q =>
    have hq : q.size = s := by simpa [hi] using hs
    simp [Instr.indexAt, asIntOf, Instr.sureAddr, Sem.run_bind, run_underlying hu w, h0, h1, sizeOf, typeInfo, hi, hq, Va]
end
section
variable {P : Program} {ops : Array Oper} {o : Oper} {N : Nat} {f : Fl} {w : World}
/-- What a new block of the call's Xx is. -/
def QfB (w : World) (cs : List Value) (u : Value) (W : World) : Prop := u = .pointer (some ⟨w.heap.size, 0, none⟩) /\ X8 W w.heap.size cs /\ Below w.heap.size w W /\ w.heap.size < W.heap.size
theorem JB (w : World) (t : TypeId) (V : Value) : QfB w V.cells.toList (.pointer (some ⟨w.heap.size, 0, none⟩)) (w.alloc (.cells V.cells t)) :=
  ⟨rfl, ⟨t, by rw [heap_alloc_new]⟩, (Below.refl _ _).alloc (Nat.le_refl _) _, (Array.getElem?_eq_some_iff.1 (heap_alloc_new w _)).1⟩
theorem Qdn {t : TypeId} {x : Operand} {V : Value} {cs : List Value} (ho : o.op = .box t x) (hx : ev f x = some V) (hc : V.cells.toList = cs) (hw : Qj ops o f = some true := by rfl) : DR P ops o N f w (QfB w cs) := fun a ha => by
  have hx := ha.ev hx
  subst hc
  exact Qi.of_wp (Qe ha hw) fun K hK => by
    unfold Oper.wp execOp
    simp only [ho, hx, Sem.run_bind, Instr.box, newVar, newRow, run_newObj_alloc, Sem.run_pure, Result.andThen_ok]
    exact hK _ _ (JB w t V)
theorem FL {t : TypeId} {Z : Value} {cs : List Value} (ho : o.op = .alloc t) (hz : (P.info? t).bind (·.zero) = some Z) (hc : Z.cells.toList = cs) (hw : Qj ops o f = some true := by rfl) : DR P ops o N f w (QfB w cs) := fun a ha => by
  subst hc
  exact Qi.of_wp (Qe ha hw) fun K hK => by
    cases hi : P.info? t with
    | none => rw [hi] at hz; cases hz
    | some i =>
      rw [hi] at hz
      have hz' : i.zero = some Z := hz
      have hti : (typeInfo t).run P w = .ok i w := by simp [typeInfo, hi]
      unfold Oper.wp execOp
      simp only [ho, Sem.run_bind, Instr.alloc, zeroValue, hti, hz', newVar, newRow, run_newObj_alloc, Sem.run_pure, Result.andThen_ok]
      exact hK _ _ (JB w t Z)
theorem Qdk {t : TypeId} {x : Operand} {k off B o0 o1 : Nat} (ho : o.op = .fieldAddr t x k) (hf : Qbb P t k off = true) (hx : ev f x = some (.pointer (some ⟨B, o0, none⟩))) (h1 : o0 + off = o1) (hw : Qj ops o f = some true := by rfl) : DV P ops o N f w (.pointer (some ⟨B, o1, none⟩)) := fun a ha => by
  have hx := ha.ev hx
  exact Qi.pure (Qe ha hw) _ (by unfold execOp; simp only [ho, hx, Sem.run_bind, QbV hf, Result.andThen_ok, h1]; rfl) ⟨rfl, rfl⟩
theorem U7 {t e : TypeId} {x y : Operand} {n s B o0 o1 : Nat} {K : IntKind} {i : Int} (ho : o.op = .indexAddr t x y) (hu : P.underlying t = some (.array n e)) (hs : Zc P e s = true) (hx : ev f x = some (.pointer (some ⟨B, o0, none⟩))) (hy : ev f y = some (.int K i)) (h0 : 0 <= i /\ i < n) (h1 : o0 + i.toNat * s = o1) (hw : Qj ops o f = some true := by rfl) : DV P ops o N f w (.pointer (some ⟨B, o1, none⟩)) := fun a ha => by
  have hx := ha.ev hx
  have hy := ha.ev hy
  exact Qi.pure (Qe ha hw) _ (by unfold execOp; simp only [ho, hx, hy, Sem.run_bind, QbU hu (Zs hs) B o0 K i h0.1 h0.2, Result.andThen_ok, h1]; rfl) ⟨rfl, rfl⟩
theorem GV {t : TypeId} {x : Operand} {B o0 : Nat} {v : Value} (ho : o.op = .load t x) (ht : EC P t = true) (hx : ev f x = some (.pointer (some ⟨B, o0, none⟩))) (hc : w.cell? ⟨B, o0, none⟩ = some v) (hw : Qj ops o f = some true := by rfl) : DV P ops o N f w v := fun a ha => by
  obtain ⟨d, hu, hd, _⟩ := U1 ht
  have hx := ha.ev hx
  have hagg : (isAgg t).run P w = .ok false w := by
    unfold isAgg
    rw [Sem.run_bind, run_underlying hu w]
    cases d <;> simp_all
  exact Qi.pure (Qe ha hw) v (by unfold execOp; simp [ho, hx, Sem.run_bind, Instr.loadAt, Instr.sureAddr, loadVar, hagg, hc]) ⟨rfl, rfl⟩
theorem FK {t : TypeId} {x : Operand} {B o0 n : Nat} {cs : List Value} (ho : o.op = .load t x) (ht : Qbk P t n = true) (hx : ev f x = some (.pointer (some ⟨B, o0, none⟩))) (hc : w.rangeAt B o0 cs) (hn : cs.length = n) (hw : Qj ops o f = some true := by rfl) : DV P ops o N f w (.agg cs.toArray) := fun a ha => by
  obtain ⟨d, hu, hd, hi⟩ := U2 ht
  have hx := ha.ev hx
  exact Qi.of_wp (Qe ha hw) fun K hK => wp_load_mid t x ho B o0 hx cs d hc hu hd (by rw [hi, hn]) (hK _ _ ⟨rfl, rfl⟩)
theorem VY {t : TypeId} {x y : Operand} {B o0 n : Nat} {V : Value} {vs cs cs' : List Value} (ho : o.op = .store t x y) (ht : Zc P t n = true) (hx : ev f x = some (.pointer (some ⟨B, o0, none⟩))) (hy : ev f y = some V) (hv : V.cells.toList = vs) (h1 : ∀ v ∈ vs, v.oneCell' = true)
    (hb : X8 w B cs) (hn : vs.length = n) (hl : o0 + n <= cs.length) (hr : cs.take o0 ++ (vs ++ cs.drop (o0 + n)) = cs') (hw : Qj ops o f = some true := by rfl) : DR P ops o N f w fun _ W => X8 W B cs' /\ Uc B w W := fun a ha => by
  obtain ⟨i, hi, hs⟩ := YR ht
  have hx := ha.ev hx
  have hy := ha.ev hy
  exact Qi.of_wp (Qe ha hw) fun K hK => by
    obtain ⟨tt, hb'⟩ := hb
    have hst := run_storeCells_at P B o0 tt vs 0 _ w hb' (by simp; omega) h1
    simp only [Nat.add_zero] at hst
    have hcs : (cs.toArray.toList.take o0 ++ vs ++ cs.toArray.toList.drop (o0 + vs.length)) = cs' := by rw [<- hr, hn]; simp
    rw [hcs] at hst
    have hsz : V.cells.size = i.size := by rw [<- Array.length_toList, hv, hn, hs]
    unfold Oper.wp execOp
    simp only [ho, hx, hy, Instr.storeAt, Instr.sureAddr, storeVar, sizeOf, typeInfo, Sem.run_bind, Sem.run_pure, Result.andThen_ok, run_program, hi, hsz, hv, ne_eq, not_true_eq_false, if_false, hst]
    exact hK _ _ ⟨⟨tt, setRow_heap w B _ _ tt _ hb'⟩, UC w B _⟩
theorem Qdm {t : TypeId} {parts : Array (Nat × Operand)} {ps : List (Nat × Value)} {cs : List Value} (ho : o.op = .build t parts) (hp : (evl f (parts.toList.map (·.2))).map (fun vs => (parts.toList.map (·.1)).zip vs) = some ps) (hb : P.built t ps = some cs.toArray) (hw : Qj ops o f = some true := by rfl) : DV P ops o N f w (.agg cs.toArray) := fun a ha => by
  have key : (parts.map fun (i, x) => (i, a.eval x)).toList = ps := by
    cases hq : evl f (parts.toList.map (·.2)) with
    | none => rw [hq] at hp; cases hp
    | some vs =>
      rw [hq] at hp
      have h1 := ha.evl hq
      simp only [Option.map_some, Option.some.injEq] at hp
      rw [<- hp, <- h1, Array.toList_map]
      clear hp h1 hq ho
      induction parts.toList with
      | nil => rfl
      | cons p l ih => simp only [List.map_cons, List.zip_cons_cons, List.cons.injEq, true_and]; exact ih
  refine Qi.pure (Qe ha hw) _ ?_ ⟨rfl, rfl⟩
  unfold execOp
  simp only [ho, Sem.run_bind, run_build w t _ _ (by rw [key]; exact hb), Result.andThen_ok]
  rfl
end
/-- The call returns, with this, and leaves the memory that was there. -/
def CV (P : Program) (F : FuncId) (args : List Value) (w : World) (R : Value -> World -> Prop) : Prop := Calls P F args.toArray w fun e w' => ∃ v, e = .returned v /\ R v w' /\ Below w.heap.size w w'
theorem CV.mono {P : Program} {F : FuncId} {args : List Value} {w : World} {R R' : Value -> World -> Prop} (h : CV P F args w R) (hr : ∀ v w', Below w.heap.size w w' -> R v w' -> R' v w') : CV P F args w R' :=
  Calls.mono h fun e w' ⟨v, he, hR, hb⟩ => ⟨v, he, hr v w' hb hR, hb⟩
/-- The end of a call. -/
def QgR (P : Program) (fn : Func) (R : Value -> World -> Prop) (w0 : World) (a : Act) (w : World) : Prop := a.defers = [] /\ ∃ v, (results fn a.tmps).run P w = .ok v w /\ R v w /\ Below w0.heap.size w0 w
/-- The call's Xx blocks lie in the heap. -/
def LL (L : List Nat) (w : World) : Prop := ∀ x ∈ L, x < w.heap.size
theorem LL.nil (w : World) : LL [] w := fun x h => by cases h
theorem LL.below {L : List Nat} {w w' : World} (h : LL L w) (hb : Below w.heap.size w w') : LL L w' := fun x hx => Nat.lt_of_lt_of_le (h x hx) hb.size
theorem LL.only {L : List Nat} {w w' : World} (h : LL L w) {B : Nat} (ho : Uc B w w') : LL L w' := fun x hx => by rw [ho.size]; exact h x hx
section
variable {P : Program} {ops : Array Oper} {o : Oper} {N : Nat} {f : Fl} {w : World} {R : Value -> World -> Prop}
theorem EW {c : Operand} {F : FuncId} {fn : Func} {xs : List Operand} {ts : Array TypeId} {vs cs : List Value} (ho : o.op = .call { callee := .value c, args := xs.toArray, argTypes := ts }) (hcv : ev f c = some (.func (.func F) #[] cs.toArray)) (hf : P.funcs[F]? = some fn) (hn : (fn.name == "runtime.NumGoroutine") = false) (hb : fn.body.isNone = false)
    (hx : evl f xs = some vs) (hc : CV P F (vs ++ cs) w R) (hw : Qj ops o f = some true := by rfl) : DR P ops o N f w fun v W => R v W /\ Below w.heap.size w W :=
  Qff ho hcv hf hn hb hx (by rw [List.append_toArray]; exact Calls.mono hc fun e w' ⟨v, he, h⟩ => ⟨v, he, h⟩) hw
/-- One result. -/
inductive RV (P : Program) (f : Fl) (w : World) : ResultVar -> Value -> Prop
  | tmp {t : Tmp} {v : Value} (h : ZN f t = some v) : RV P f w (.tmp t) v
  | one {t ty B o0 : Nat} {v : Value} (h : ZN f t = some (.pointer (some ⟨B, o0, none⟩))) (ht : EC P ty = true) (hc : w.cell? ⟨B, o0, none⟩ = some v) : RV P f w (.cell t ty) v
  | agg {t ty B o0 n : Nat} {cs : List Value} (h : ZN f t = some (.pointer (some ⟨B, o0, none⟩))) (ht : Qbk P ty n = true) (hc : w.rangeAt B o0 cs) (hn : cs.length = n) : RV P f w (.cell t ty) (.agg cs.toArray)
def Gt (tmps : Array Value) : ResultVar -> Sem Value
  | .tmp t => pure (tmps.getD t undef)
  | .cell p ty => do loadVar ty (<- asAddr (tmps.getD p undef))
theorem Es (fn : Func) (tmps : Array Value) : results fn tmps = (do let vs <- fn.results.mapM (Gt tmps); pure (if h : vs.size = 1 then vs[0] else .tuple vs)) := rfl
theorem RV.run {r : ResultVar} {v : Value} (h : RV P f w r v) {a : Act} (ha : Fr N a f) : (Gt a.tmps r).run P w = .ok v w := by
  unfold Gt
  cases h with
  | tmp h => simp only [Gm ha h]; rfl
  | @one t ty B o0 v h ht hc =>
    obtain ⟨d, hu, hd, _⟩ := U1 ht
    have hagg : (isAgg ty).run P w = .ok false w := by
      unfold isAgg
      rw [Sem.run_bind, run_underlying hu w]
      cases d <;> simp_all
    simp [Gm ha h, asAddr, Sem.run_bind, loadVar, hagg, hc]
  | agg h ht hc hn =>
    obtain ⟨d, hu, hd, hi⟩ := U2 ht
    simp only [Gm ha h, asAddr, Sem.run_bind, Sem.run_pure, Result.andThen_ok]
    exact run_loadVar_mid w _ _ _ _ d hc hu hd (by rw [hi, hn])
variable {fn : Func} {Rr : Ending -> World -> Prop}
end
end Go.Proofs.YtbiboamaigedjaaDoor
namespace Go.Proofs.YtbiboamaigedjaaDoor
open Go.RowKit
set_option linter.unusedVariables false
set_option linter.constructorNameAsVariable false
set_option linter.unusedSimpArgs false

/-- Where the Xx blocks lie, and the data that is read. -/
structure Qy where
  b : Nat -> Nat
  d : Nat -> Nat × Nat
/-- A value by symbols: p an Xx block, x a cell of it at an index, q data that is read, c a test, w what is there just if a test holds. -/
inductive SV where
  | v (x : Value)
  | i (K : IntKind) (n : Int)
  | lit (K : IntKind) (c : Nat)
  | c (p : Prop) (d : Decidable p)
  | l (b : Bool)
  | s (x : ByteArray)
  | p (k o : Nat)
  | x (k o s : Nat) (n : Int)
  | o (a : Option Addr) (len cap : Nat)
  | q (j o : Nat)
  | y (k o len cap : Nat)
  | z (j o len cap : Nat)
  | r (j o s : Nat) (n : Int)
  | t (l : List SV)
  | g (l : List SV)
  | a (K : IntKind) (zs : List Int) (n : Nat)
  | f (F : FuncId) (l : List SV)
  | w (p : Prop) (d : Decidable p) (x : SV)
  | u
/-- The cells that a value takes among others: an array of numbers stands as one. -/
def SV.cs (v : Value) : SV -> List Value
  | .a K zs _ => zs.map (Value.int K)
  | _ => [v]
mutual
def SV.den (ρ : Qy) : SV -> Value
  | .v x => x
  | .i K n => .int K n
  | .lit K c => .int K (c : Int)
  | .c p d => .bool (@decide p d)
  | .l b => .bool b
  | .s x => .string x
  | .p k o => .pointer (some ⟨ρ.b k, o, none⟩)
  | .x k o s n => .pointer (some ⟨ρ.b k, o + n.toNat * s, none⟩)
  | .o a l c => .slice a l c
  | .q j o => .pointer (some ⟨(ρ.d j).1, (ρ.d j).2 + o, none⟩)
  | .y k o l c => .slice (some ⟨ρ.b k, o, none⟩) l c
  | .z j o l c => .slice (some ⟨(ρ.d j).1, (ρ.d j).2 + o, none⟩) l c
  | .r j o s n => .pointer (some ⟨(ρ.d j).1, (ρ.d j).2 + (o + n.toNat * s), none⟩)
  | .t l => .tuple (Qt ρ l).toArray
  | .g l => .agg (Qg ρ l).toArray
  | .a K zs _ => .agg (zs.map (Value.int K)).toArray
  | .f F l => .func (.func F) #[] (Qt ρ l).toArray
  | .w p d x => match d with
    | .isTrue _ => x.den ρ
    | .isFalse _ => undef
  | .u => undef
def Qt (ρ : Qy) : List SV -> List Value
  | [] => []
  | x :: l => x.den ρ :: Qt ρ l
def Qg (ρ : Qy) : List SV -> List Value
  | [] => []
  | x :: l => x.cs (x.den ρ) ++ Qg ρ l
end
/-- So many cells it takes. -/
def SV.wd : SV -> Nat
  | .a _ _ n => n
  | _ => 1
def SV.ok : SV -> Prop
  | .a _ zs n => zs.length = n
  | _ => True
def X3 : List SV -> Prop
  | [] => True
  | x :: l => x.ok /\ X3 l
def X2 : List SV -> Nat
  | [] => 0
  | x :: l => x.wd + X2 l
mutual
/-- It names Xx blocks and data below n alone. -/
def SV.wf (n : Nat) : SV -> Bool
  | .p k _ => Nat.blt k n
  | .x k _ _ _ => Nat.blt k n
  | .o _ _ _ => true
  | .q j _ => Nat.blt j n
  | .y k _ _ _ => Nat.blt k n
  | .z j _ _ _ => Nat.blt j n
  | .r j _ _ _ => Nat.blt j n
  | .t l => ZL n l
  | .g l => ZL n l
  | .f _ l => ZL n l
  | .w _ _ x => x.wf n
  | .v _ => true
  | .i _ _ => true
  | .lit _ _ => true
  | .c _ _ => true
  | .l _ => true
  | .s _ => true
  | .a _ _ _ => true
  | .u => true
def ZL (n : Nat) : List SV -> Bool
  | [] => true
  | x :: l => match x.wf n with
    | true => ZL n l
    | false => false
end
theorem GX (ρ : Qy) : ∀ l : List SV, Qt ρ l = l.map (SV.den ρ)
  | [] => rfl
  | x :: l => by rw [Qt, GX ρ l]; rfl
theorem JZ (ρ : Qy) (l l' : List SV) : Qt ρ (l ++ l') = Qt ρ l ++ Qt ρ l' := by simp [GX]
theorem Xv (ρ : Qy) : ∀ l l' : List SV, Qg ρ (l ++ l') = Qg ρ l ++ Qg ρ l'
  | [], l' => by simp only [List.nil_append, Qg]
  | x :: l, l' => by simp only [List.cons_append, Qg, Xv ρ l l', List.append_assoc]
theorem J4 {x : SV} (h : x.ok) (v : Value) : (x.cs v).length = x.wd := by
  cases x <;> simp_all [SV.cs, SV.ok, SV.wd]
theorem QJ (ρ : Qy) : ∀ {l : List SV}, X3 l -> (Qg ρ l).length = X2 l
  | [], _ => by simp only [Qg, X2, List.length_nil]
  | x :: l, h => by simp only [Qg, X2, List.length_append, J4 h.1, QJ ρ h.2]
theorem Xy : ∀ {l l' : List SV}, X3 (l ++ l') ↔ X3 l /\ X3 l'
  | [], l' => by simp [X3]
  | x :: l, l' => by simp only [List.cons_append, X3, Xy (l := l) (l' := l'), and_assoc]
theorem FM {ρ : Qy} {l : List SV} {k : Nat} {x : SV} (h : l[k]? = some x) : (Qt ρ l)[k]? = some (x.den ρ) := by rw [GX, List.getElem?_map, h]; rfl
/-- The same below n. -/
def Qy.upto (n : Nat) (ρ ρ' : Qy) : Prop := ∀ k, k < n -> ρ.b k = ρ'.b k /\ ρ.d k = ρ'.d k
theorem QA {k n : Nat} (h : Nat.blt k n = true) : k < n := Nat.lt_of_lt_of_le (Nat.lt_succ_self k) (by simpa [Nat.blt] using h)
mutual
theorem SV.den_upto {n : Nat} {ρ ρ' : Qy} (h : Qy.upto n ρ ρ') : ∀ x : SV, x.wf n = true -> x.den ρ = x.den ρ'
  | .v x, _ => by simp only [SV.den]
  | .i K n, _ => by simp only [SV.den]
  | .lit K c, _ => by simp only [SV.den]
  | .c p d, _ => by simp only [SV.den]
  | .l b, _ => by simp only [SV.den]
  | .s x, _ => by simp only [SV.den]
  | .p k o, hw => by have := (h k (QA (by simpa [SV.wf] using hw))).1; simp only [SV.den, this]
  | .o _ _ _, _ => by simp only [SV.den]
  | .x k o s n, hw => by have := (h k (QA (by simpa [SV.wf] using hw))).1; simp only [SV.den, this]
  | .q j o, hw => by have := (h j (QA (by simpa [SV.wf] using hw))).2; simp only [SV.den, this]
  | .y k _ _ _, hw => by have := (h k (QA (by simpa [SV.wf] using hw))).1; simp only [SV.den, this]
  | .z j _ _ _, hw => by have := (h j (QA (by simpa [SV.wf] using hw))).2; simp only [SV.den, this]
  | .r j _ _ _, hw => by have := (h j (QA (by simpa [SV.wf] using hw))).2; simp only [SV.den, this]
  | .t l, hw => by simp only [SV.den, Y8 h l (by simpa [SV.wf] using hw)]
  | .g l, hw => by simp only [SV.den, Q1 h l (by simpa [SV.wf] using hw)]
  | .a K zs _, _ => by simp only [SV.den]
  | .f F l, hw => by simp only [SV.den, Y8 h l (by simpa [SV.wf] using hw)]
  | .w p d x, hw => by
    have := SV.den_upto h x (by simpa [SV.wf] using hw)
    cases d with
    | isTrue hp => simp only [SV.den, this]
    | isFalse hp => simp only [SV.den]
  | .u, _ => by simp only [SV.den]
theorem Y8 {n : Nat} {ρ ρ' : Qy} (h : Qy.upto n ρ ρ') : ∀ l : List SV, ZL n l = true -> Qt ρ l = Qt ρ' l
  | [], _ => by simp only [Qt]
  | x :: l, hw => by
    unfold ZL at hw
    split at hw
    . rename_i hx
      simp only [Qt, SV.den_upto h x hx, Y8 h l hw]
    . cases hw
theorem Q1 {n : Nat} {ρ ρ' : Qy} (h : Qy.upto n ρ ρ') : ∀ l : List SV, ZL n l = true -> Qg ρ l = Qg ρ' l
  | [], _ => by simp only [Qg]
  | x :: l, hw => by
    unfold ZL at hw
    split at hw
    . rename_i hx
      simp only [Qg, SV.den_upto h x hx, Q1 h l hw]
    . cases hw
end
abbrev SF := List (Nat × SV)
def lk : SF -> Nat -> Option SV
  | [], _ => none
  | (k, v) :: l, t => match Nat.beq k t with
    | true => some v
    | false => lk l t
def Qr (ρ : Qy) : SF -> Fl
  | [] => []
  | (k, v) :: l => (k, v.den ρ) :: Qr ρ l
theorem XI {ρ : Qy} : ∀ {f : SF} {t : Nat} {v : SV}, lk f t = some v -> ZN (Qr ρ f) t = some (v.den ρ)
  | [], _, _, h => by cases h
  | (k, u) :: l, t, v, h => by
    unfold lk at h
    unfold Qr ZN
    cases hk : Nat.beq k t with
    | true => rw [hk] at h; cases h; rfl
    | false => rw [hk] at h; exact XI h
def wfF (n : Nat) : SF -> Bool
  | [] => true
  | (_, v) :: l => match v.wf n with
    | true => wfF n l
    | false => false
theorem XY {n : Nat} {ρ ρ' : Qy} (h : Qy.upto n ρ ρ') : ∀ f : SF, wfF n f = true -> Qr ρ f = Qr ρ' f
  | [], _ => rfl
  | (k, v) :: l, hw => by
    unfold wfF at hw
    split at hw
    . rename_i hx
      simp only [Qr, SV.den_upto h v hx, XY h l hw]
    . cases hw
/-- What an Xx block holds. -/
abbrev Cl := List SV
abbrev SM := List (Nat × Cl)
abbrev SD := List (Nat × List SV)
def Ku (n : Nat) : SM -> Bool
  | [] => true
  | (k, c) :: l => match Nat.blt k n with
    | true => match ZL n c with
      | true => Ku n l
      | false => false
    | false => false
def Kf (n : Nat) : SD -> Bool
  | [] => true
  | (k, c) :: l => match Nat.blt k n with
    | true => match ZL n c with
      | true => Kf n l
      | false => false
    | false => false
theorem Ji {n : Nat} : ∀ {m : SM}, Ku n m = true -> ∀ x ∈ m, x.1 < n /\ ZL n x.2 = true
  | [], _, x, hx => by cases hx
  | (k, c) :: l, hw, x, hx => by
    unfold Ku at hw
    split at hw
    . rename_i h1
      split at hw
      . rename_i h2
        cases hx with
        | head => exact ⟨QA h1, h2⟩
        | tail _ hx => exact Ji hw x hx
      . cases hw
    . cases hw
theorem Gg {n : Nat} : ∀ {m : SD}, Kf n m = true -> ∀ x ∈ m, x.1 < n /\ ZL n x.2 = true
  | [], _, x, hx => by cases hx
  | (k, c) :: l, hw, x, hx => by
    unfold Kf at hw
    split at hw
    . rename_i h1
      split at hw
      . rename_i h2
        cases hx with
        | head => exact ⟨QA h1, h2⟩
        | tail _ hx => exact Gg hw x hx
      . cases hw
    . cases hw
/-- The call's Xx blocks, and those that were its caller's. -/
def Xx (ρ : Qy) (m : SM) (L0 : List Nat) : List Nat := m.map (fun x => ρ.b x.1) ++ L0
/-- What the call may have done to the world: nothing to what lay off these blocks. -/
structure Stp (L : List Nat) (w w' : World) : Prop where
  size : w.heap.size <= w'.heap.size
  block : ∀ k, k ∉ L -> k < w.heap.size -> w'.heap[k]? = w.heap[k]?
theorem Stp.refl (L : List Nat) (w : World) : Stp L w w := ⟨Nat.le_refl _, fun _ _ _ => rfl⟩
theorem Stp.of_below {L : List Nat} {w w' : World} (h : Below w.heap.size w w') : Stp L w w' := ⟨h.size, fun k _ hk => h.block k hk⟩
theorem Stp.of_only {L : List Nat} {B : Nat} {w w' : World} (h : Uc B w w') (hB : B ∈ L) : Stp L w w' := ⟨by rw [h.size]; exact Nat.le_refl _, fun k hk _ => h.block k (fun e => hk (e ▸ hB))⟩
theorem Stp.agree {L : List Nat} {w w' : World} (h : Stp L w w') : Ud L w w' := ⟨h.size, fun k hk h' => h.block k hk h'⟩
/-- A fact on memory off the Xx blocks, that outlasts all that the call does. -/
structure Qv where
  h : List Nat -> World -> Prop
  s : ∀ {L L' w w'}, h L w -> Stp L w w' -> (∀ x ∈ L', x ∈ L \/ w.heap.size <= x) -> h L' w'
def Hs : List Qv -> List Nat -> World -> Prop
  | [], _, _ => True
  | φ :: l, L, w => φ.h L w /\ Hs l L w
theorem Hs.stp {L L' : List Nat} {w w' : World} (hs : Stp L w w') (hl : ∀ x ∈ L', x ∈ L \/ w.heap.size <= x) : ∀ {Γ : List Qv}, Hs Γ L w -> Hs Γ L' w'
  | [], _ => trivial
  | φ :: l, h => ⟨φ.s h.1 hs hl, Hs.stp hs hl h.2⟩
theorem Hs.get {L : List Nat} {w : World} {φ : Qv} : ∀ {Γ : List Qv} {i : Nat}, Hs Γ L w -> Γ[i]? = some φ -> φ.h L w
  | [], i, _, h => by simp at h
  | ψ :: l, 0, h, hi => by simp at hi; subst hi; exact h.1
  | ψ :: l, i + 1, h, hi => Hs.get (Γ := l) (i := i) h.2 (by simpa using hi)
theorem Hs.app {L : List Nat} {w : World} : ∀ {Γ Δ : List Qv}, Hs Γ L w -> Hs Δ L w -> Hs (Γ ++ Δ) L w
  | [], _, _, h => h
  | φ :: l, Δ, h, h' => ⟨h.1, Hs.app h.2 h'⟩
theorem Hb.stp {s : Nat} {L L' : List Nat} {w w' : World} {v : Value} {rs : List (List Value)} (h : Hb s L w v rs) (hs : Stp L w w') (hl : ∀ x ∈ L', x ∈ L \/ w.heap.size <= x) : Hb s L' w' v rs := by
  obtain ⟨h0, hr, a, cap, h1, h2, h3, h4, h5⟩ := h.agree hs.agree
  obtain ⟨_, _, a', cap', h1', _, _, _, h5'⟩ := h
  refine ⟨h0, hr, a, cap, h1, h2, h3, h4, fun hn => ?_⟩
  obtain ⟨X, o, e, hX, hc⟩ := h5 hn
  obtain ⟨X', o', e', hX', hc'⟩ := h5' hn
  refine ⟨X, o, e, fun hx => ?_, hc⟩
  have hlen : 0 < rs.flatten.length := by
    rw [JR hr]
    exact Nat.mul_pos (List.length_pos_iff.2 hn) h0
  have hlt := Zo hc' hlen
  have : X = X' := by rw [h1] at h1'; simp only [Value.slice.injEq] at h1'; rw [e, e'] at h1'; simp at h1'; exact h1'.1.1
  rcases hl X hx with h | h
  . exact hX h
  . omega
/-- A slice of rows. -/
def fR (s : Nat) (v : Value) (rs : List (List Value)) : Qv := ⟨fun L w => Hb s L w v rs, Hb.stp⟩
/-- What holds of the world, of what the symbols say. -/
structure WM (ρ : Qy) (L0 : List Nat) (w0 : World) (m : SM) (d : SD) (n : Nat) (Γ : List Qv) (w : World) : Prop where
  mem : ∀ x ∈ m, X8 w (ρ.b x.1) (Qg ρ x.2) /\ X3 x.2
  key : ∀ x ∈ m, x.1 < n
  nod : (m.map fun x => ρ.b x.1).Nodup
  low : ∀ x ∈ m, w0.heap.size <= ρ.b x.1
  bel : Below w0.heap.size w0 w
  dat : ∀ x ∈ d, (ρ.d x.1).1 ∉ Xx ρ m L0 /\ w.rangeAt (ρ.d x.1).1 (ρ.d x.1).2 (Qg ρ x.2) /\ X3 x.2 /\ 0 < X2 x.2
  dky : ∀ x ∈ d, x.1 < n
  ll : LL L0 w
  hs : Hs Γ (Xx ρ m L0) w
theorem WM.lt {ρ : Qy} {L0 : List Nat} {w0 : World} {m : SM} {d : SD} {n : Nat} {Γ : List Qv} {w : World} (h : WM ρ L0 w0 m d n Γ w) : LL (Xx ρ m L0) w := fun x hx => by
  unfold Xx at hx
  rcases List.mem_append.1 hx with h1 | h1
  . obtain ⟨y, hy, rfl⟩ := List.mem_map.1 h1
    exact (h.mem y hy).1.lt
  . exact h.ll x h1
/-- A step that leaves the Xx blocks as they are. -/
theorem WM.below {ρ : Qy} {L0 : List Nat} {w0 : World} {m : SM} {d : SD} {n : Nat} {Γ : List Qv} {w w' : World} (h : WM ρ L0 w0 m d n Γ w) (hb : Below w.heap.size w w') : WM ρ L0 w0 m d n Γ w' :=
  ⟨fun x hx => ⟨(h.mem x hx).1.below hb, (h.mem x hx).2⟩, h.key, h.nod, h.low, Zy h.bel hb, fun x hx => ⟨(h.dat x hx).1, ZF (h.dat x hx).2.1 (Ud.of_below (L := Xx ρ m L0) hb) (h.dat x hx).1, (h.dat x hx).2.2⟩, h.dky, h.ll.below hb, h.hs.stp (.of_below hb) fun x hx => .inl hx⟩
def QbQ {α : Type} (k : Nat) (c : Cl) : SM -> (SM -> α) -> α
  | [], K => K []
  | (j, x) :: l, K => match Nat.beq j k with
    | true => K ((j, c) :: l)
    | false => QbQ k c l fun l' => K ((j, x) :: l')
def Vn (k : Nat) (c : Cl) : SM -> SM
  | [] => []
  | (j, x) :: l => match Nat.beq j k with
    | true => (j, c) :: l
    | false => (j, x) :: Vn k c l
theorem Gp {α : Type} {k : Nat} {c : Cl} : ∀ {m : SM} {K : SM -> α}, QbQ k c m K = K (Vn k c m)
  | [], K => rfl
  | (j, x) :: l, K => by
    unfold QbQ Vn
    cases hk : Nat.beq j k with
    | true => rfl
    | false => exact Gp
def Xr : SM -> Nat -> Option Cl
  | [], _ => none
  | (j, x) :: l, k => match Nat.beq j k with
    | true => some x
    | false => Xr l k
theorem XK : ∀ {m : SM} {k : Nat} {c : Cl}, Xr m k = some c -> (k, c) ∈ m
  | [], _, _, h => by cases h
  | (j, x) :: l, k, c, h => by
    unfold Xr at h
    cases hk : Nat.beq j k with
    | true => rw [hk] at h; cases h; have := Nat.eq_of_beq_eq_true hk; subst this; exact .head _
    | false => rw [hk] at h; exact .tail _ (XK h)
theorem HQ {k : Nat} {c : Cl} : ∀ m : SM, (Vn k c m).map Prod.fst = m.map Prod.fst
  | [] => rfl
  | (j, x) :: l => by
    unfold Vn
    cases hk : Nat.beq j k with
    | true => rfl
    | false => simp only [List.map_cons, HQ l]
theorem Gx {k : Nat} {c : Cl} {ρ : Qy} (m : SM) : (Vn k c m).map (fun x => ρ.b x.1) = m.map fun x => ρ.b x.1 := by
  have h := congrArg (List.map ρ.b) (HQ (k := k) (c := c) m)
  rw [List.map_map, List.map_map] at h
  exact h
theorem Zq {k : Nat} {c : Cl} : ∀ {m : SM} {x : Nat × Cl}, (m.map Prod.fst).Nodup -> x ∈ Vn k c m -> (x.1 = k /\ x.2 = c) \/ (x ∈ m /\ x.1 ≠ k)
  | [], x, _, h => by cases h
  | (j, y) :: l, x, hn, h => by
    unfold Vn at h
    simp only [List.map_cons, List.nodup_cons] at hn
    cases hk : Nat.beq j k with
    | true =>
      rw [hk] at h
      have e := Nat.eq_of_beq_eq_true hk
      subst e
      cases h with
      | head => exact .inl ⟨rfl, rfl⟩
      | tail _ h => exact .inr ⟨.tail _ h, fun e => hn.1 (e ▸ List.mem_map_of_mem h)⟩
    | false =>
      rw [hk] at h
      cases h with
      | head => exact .inr ⟨.head _, Nat.ne_of_beq_eq_false hk⟩
      | tail _ h =>
        rcases Zq hn.2 h with h | h
        . exact .inl h
        . exact .inr ⟨.tail _ h.1, h.2⟩
theorem Xn {ρ : Qy} {m : SM} (h : (m.map fun x => ρ.b x.1).Nodup) : (m.map Prod.fst).Nodup := by
  have : (m.map fun x => ρ.b x.1) = (m.map Prod.fst).map ρ.b := by simp
  rw [this] at h
  exact (List.pairwise_map.1 h).imp fun h e => h (by rw [e])
theorem VK {ρ : Qy} : ∀ {m : SM}, (m.map fun x => ρ.b x.1).Nodup -> ∀ {x y}, x ∈ m -> y ∈ m -> x.1 ≠ y.1 -> ρ.b x.1 ≠ ρ.b y.1
  | [], _, x, y, hx, _, _ => by cases hx
  | z :: l, h, x, y, hx, hy, hn => by
    simp only [List.map_cons, List.nodup_cons] at h
    cases hx with
    | head =>
      cases hy with
      | head => exact absurd rfl hn
      | tail _ hy => exact fun e => h.1 (e ▸ List.mem_map_of_mem (f := fun x => ρ.b x.1) hy)
    | tail _ hx =>
      cases hy with
      | head => exact fun e => h.1 (e ▸ List.mem_map_of_mem (f := fun x => ρ.b x.1) hx)
      | tail _ hy => exact VK h.2 hx hy hn
/-- An Xx block is written. -/
theorem WM.put {ρ : Qy} {L0 : List Nat} {w0 : World} {m : SM} {d : SD} {n : Nat} {Γ : List Qv} {w w' : World} (h : WM ρ L0 w0 m d n Γ w) {k : Nat} {c c' : Cl} (hk : Xr m k = some c) (hb : X8 w' (ρ.b k) (Qg ρ c')) (hc : X3 c') (ho : Uc (ρ.b k) w w') : WM ρ L0 w0 (Vn k c' m) d n Γ w' := by
  have hkm := XK hk
  have hown : Xx ρ (Vn k c' m) L0 = Xx ρ m L0 := by unfold Xx; rw [Gx]
  have hB : ρ.b k ∈ Xx ρ m L0 := List.mem_append_left _ (List.mem_map_of_mem (f := fun x : Nat × Cl => ρ.b x.1) hkm)
  refine ⟨fun x hx => ?_, fun x hx => ?_, by rw [Gx]; exact h.nod, fun x hx => ?_, ho.below h.bel (h.low _ hkm), fun x hx => ?_, h.dky, h.ll.only ho, ?_⟩
  . rcases Zq (Xn h.nod) hx with ⟨e1, e2⟩ | ⟨h1, h2⟩
    . rw [e1, e2]; exact ⟨hb, hc⟩
    . exact ⟨(h.mem x h1).1.other ho (VK h.nod h1 hkm h2), (h.mem x h1).2⟩
  . rcases Zq (Xn h.nod) hx with ⟨e1, e2⟩ | ⟨h1, h2⟩
    . rw [e1]; exact h.key _ hkm
    . exact h.key x h1
  . rcases Zq (Xn h.nod) hx with ⟨e1, e2⟩ | ⟨h1, h2⟩
    . rw [e1]; exact h.low _ hkm
    . exact h.low x h1
  . rw [hown]
    exact ⟨(h.dat x hx).1, ZF (h.dat x hx).2.1 (Ud.of_only ho hB) (h.dat x hx).1, (h.dat x hx).2.2⟩
  . rw [hown]
    exact h.hs.stp (.of_only ho hB) fun x hx => .inl hx
def Qy.setb (ρ : Qy) (n B : Nat) : Qy := ⟨fun k => if k = n then B else ρ.b k, ρ.d⟩
def Qy.setd (ρ : Qy) (n : Nat) (B : Nat × Nat) : Qy := ⟨ρ.b, fun k => if k = n then B else ρ.d k⟩
theorem Qy.setb_upto (ρ : Qy) (n B : Nat) : Qy.upto n ρ (ρ.setb n B) := fun k hk => ⟨by simp only [Qy.setb]; rw [if_neg (by omega)], rfl⟩
theorem Qy.setd_upto (ρ : Qy) (n : Nat) (B : Nat × Nat) : Qy.upto n ρ (ρ.setd n B) := fun k hk => ⟨rfl, by simp only [Qy.setd]; rw [if_neg (by omega)]⟩
theorem Qy.setb_at (ρ : Qy) (n B : Nat) : (ρ.setb n B).b n = B := by simp [Qy.setb]
theorem Qy.setd_at (ρ : Qy) (n : Nat) (B : Nat × Nat) : (ρ.setd n B).d n = B := by simp [Qy.setd]
theorem Fp {n : Nat} {ρ ρ' : Qy} (h : Qy.upto n ρ ρ') {m : SM} (hk : ∀ x ∈ m, x.1 < n) : (m.map fun x => ρ'.b x.1) = m.map fun x => ρ.b x.1 := List.map_congr_left fun x hx => ((h x.1 (hk x hx)).1).symm
/-- Another environment that is the same below n. -/
theorem WM.upto {ρ ρ' : Qy} {L0 : List Nat} {w0 : World} {m : SM} {d : SD} {n : Nat} {Γ : List Qv} {w : World} (h : WM ρ L0 w0 m d n Γ w) (he : Qy.upto n ρ ρ') (hm : Ku n m = true) (hd : Kf n d = true) : WM ρ' L0 w0 m d n Γ w := by
  have e := Fp he h.key
  have hown : Xx ρ' m L0 = Xx ρ m L0 := by unfold Xx; rw [e]
  refine ⟨fun x hx => ?_, h.key, by rw [e]; exact h.nod, fun x hx => ?_, h.bel, fun x hx => ?_, h.dky, h.ll, by rw [hown]; exact h.hs⟩
  . rw [<- (he x.1 (h.key x hx)).1, <- Q1 he x.2 (Ji hm x hx).2]; exact h.mem x hx
  . rw [<- (he x.1 (h.key x hx)).1]; exact h.low x hx
  . rw [hown, <- (he x.1 (h.dky x hx)).2, <- Q1 he x.2 (Gg hd x hx).2]; exact h.dat x hx
/-- A new block. -/
theorem WM.new {ρ : Qy} {L0 : List Nat} {w0 : World} {m : SM} {d : SD} {n : Nat} {Γ : List Qv} {w w' : World} (h : WM ρ L0 w0 m d n Γ w) (hm : Ku n m = true) (hd : Kf n d = true) {c : Cl} (hc : X3 c) (hcw : ZL n c = true) {B : Nat} (hB : w.heap.size <= B) (hb : Below w.heap.size w w') (hk : X8 w' B (Qg ρ c)) :
    WM (ρ.setb n B) L0 w0 ((n, c) :: m) d (n + 1) Γ w' := by
  have h1 := (h.below hb).upto (Qy.setb_upto ρ n B) hm hd
  have hlt := h.lt
  have hown : Xx (ρ.setb n B) ((n, c) :: m) L0 = B :: Xx (ρ.setb n B) m L0 := by unfold Xx; simp [Qy.setb_at]
  have hown2 : Xx (ρ.setb n B) m L0 = Xx ρ m L0 := by unfold Xx; rw [Fp (Qy.setb_upto ρ n B) h.key]
  have hbs := h.bel.size
  refine ⟨fun x hx => ?_, fun x hx => ?_, ?_, fun x hx => ?_, h1.bel, fun x hx => ?_, fun x hx => Nat.lt_succ_of_lt (h.dky x hx), h1.ll, ?_⟩
  . cases hx with
    | head => rw [Qy.setb_at, <- Q1 (Qy.setb_upto ρ n B) c hcw]; exact ⟨hk, hc⟩
    | tail _ hx => exact h1.mem x hx
  . cases hx with
    | head => exact Nat.lt_succ_self _
    | tail _ hx => exact Nat.lt_succ_of_lt (h.key x hx)
  . rw [List.map_cons, List.nodup_cons]
    refine ⟨fun hx => ?_, h1.nod⟩
    rw [Qy.setb_at] at hx
    obtain ⟨y, hy, he⟩ := List.mem_map.1 hx
    rw [<- ((Qy.setb_upto ρ n B) y.1 (h.key y hy)).1] at he
    have := (h.mem y hy).1.lt
    omega
  . cases hx with
    | head => rw [Qy.setb_at]; omega
    | tail _ hx => exact h1.low x hx
  . obtain ⟨h2, h3, h4, h4'⟩ := h1.dat x hx
    refine ⟨?_, h3, h4, h4'⟩
    rw [hown]
    simp only [List.mem_cons, not_or]
    refine ⟨?_, h2⟩
    obtain ⟨_, h5, _⟩ := h.dat x hx
    have := Zo h5 (by rw [QJ _ h4]; exact h4')
    rw [<- ((Qy.setb_upto ρ n B) x.1 (h.dky x hx)).2]
    omega
  . rw [hown, hown2]
    refine h.hs.stp (.of_below hb) fun x hx => ?_
    cases hx with
    | head => exact .inr hB
    | tail _ hx => exact .inl hx
/-- What one reads. -/
theorem WM.cell {ρ : Qy} {L0 : List Nat} {w0 : World} {m : SM} {d : SD} {n : Nat} {Γ : List Qv} {w : World} (h : WM ρ L0 w0 m d n Γ w) {k : Nat} {c : Cl} (hk : Xr m k = some c) : X8 w (ρ.b k) (Qg ρ c) /\ X3 c := h.mem _ (XK hk)
theorem WM.f {ρ : Qy} {L0 : List Nat} {w0 : World} {m : SM} {d : SD} {n : Nat} {Γ : List Qv} {w : World} (h : WM ρ L0 w0 m d n Γ w) (i : Nat) {φ : Qv} (hi : Γ[i]? = some φ := by rfl) : φ.h (Xx ρ m L0) w := h.hs.get hi
end Go.Proofs.YtbiboamaigedjaaDoor
namespace Go.Proofs.YtbiboamaigedjaaDoor
open Go.RowKit
set_option linter.unusedVariables false
set_option linter.unusedSimpArgs false
set_option maxRecDepth 8000
set_option maxHeartbeats 2000000

section
variable {P : Program} {ops pre : Array Oper} {md : Region.Mode} {Q : Exit -> Act -> World -> Prop} {m : Nat}
end
section
variable {P : Program} {N : Nat} {sd : List (Option Tmp × VS)} {dl : List (List Nat)}
end
/-- A block is written to, or another one comes in its place. -/
structure Qi0 (B B' : Nat) (w w' : World) : Prop where
  os : w'.os = w.os
  tape : w'.tape = w.tape
  output : w'.output = w.output
  size : w.heap.size <= w'.heap.size
  block : ∀ k, k < w.heap.size -> k ≠ B -> w'.heap[k]? = w.heap[k]?
  new : B' = B \/ w.heap.size <= B'
section
variable {P : Program} {ops : Array Oper} {o : Oper} {N : Nat} {f : Fl} {w : World}
/-- A slice that is written out. -/
theorem Jq {t e : TypeId} (hu : P.underlying t = some (.slice e)) {i : TypeInfo} (hi : P.info? e = some i) {Z : Value} (hz : i.zero = some Z) (len : Nat) (parts : Array (Nat × Value)) (hlen : len * i.size <= 16777216) {cs : Array Value}
    (hf : Instr.fill (fun k => some (k * i.size, i.size)) (if len * i.size = 0 then #[] else (Array.range (len * i.size)).map (Z.cells[· % Z.cells.size]!)) parts.toList = some cs) :
    (Instr.buildSlice t len parts).run P w = .ok (.slice (some ⟨w.heap.size, 0, none⟩) len len) (w.alloc (.cells cs e)) := by
  have hn : ¬ len * i.size > 2 ^ 24 := by omega
  unfold Instr.buildSlice
  simp only [Sem.run_bind, run_underlying hu, Result.andThen_ok, sizeOf, typeInfo, run_program, hi, Sem.run_pure, if_neg hn]
  by_cases h0 : len * i.size = 0
  . rw [if_pos h0] at hf
    have e0 : Array.map (fun x => (#[] : Array Value)[x % (#[] : Array Value).size]!) (Array.range (len * i.size)) = #[] := by rw [h0]; simp
    simp only [if_pos h0, Sem.run_pure, Result.andThen_ok, e0, hf, newRow, Sem.run_bind, run_newObj_alloc]
  . rw [if_neg h0] at hf
    simp only [if_neg h0, zeroValue, typeInfo, Sem.run_bind, run_program, hi, hz, Sem.run_pure, Result.andThen_ok, hf, newRow, run_newObj_alloc]
theorem Fj (w : World) (t : TypeId) (cs : List Value) : X8 (w.alloc (.cells cs.toArray t)) w.heap.size cs /\ Below w.heap.size w (w.alloc (.cells cs.toArray t)) /\ w.heap.size < (w.alloc (.cells cs.toArray t)).heap.size :=
  ⟨⟨t, by rw [heap_alloc_new]⟩, (Below.refl _ _).alloc (Nat.le_refl _) _, (Array.getElem?_eq_some_iff.1 (heap_alloc_new w _)).1⟩
/-- What is asked of an element's type ahead of an append. -/
def apB (P : Program) (t s bytes : Nat) : Bool := match P.underlying t with
  | some (.slice e) => match P.info? e with
    | some i => i.size == s && i.bytes == bytes && (match i.zero with | some z => z.cells.size == s | none => false)
    | none => false
  | _ => false
theorem Qgt {t s bytes : Nat} (h : apB P t s bytes = true) : ∃ e i Z, P.underlying t = some (.slice e) /\ P.info? e = some i /\ i.zero = some Z /\ i.size = s /\ i.bytes = bytes /\ Z.cells.size = i.size := by
  unfold apB at h
  split at h
  . rename_i e hu
    split at h
    . rename_i i hi
      simp only [Bool.and_eq_true, beq_iff_eq] at h
      obtain ⟨⟨h1, h2⟩, h3⟩ := h
      split at h3
      . rename_i z hz
        exact ⟨e, i, z, hu, hi, hz, h1, h2, by rw [h1]; simpa using h3⟩
      . cases h3
    . cases h
  . cases h
/-- A slice of noughts. -/
theorem KU {Z : Value} {r : List Value} {s : Nat} (hr : Z.cells.toList = r) (hzs : Z.cells.size = s) (hs : 0 < s) (n : Nat) : madeCells Z.cells (n * s) = (List.replicate n r).flatten.toArray := by
  have hrl : r.length = s := by rw [<- hr, Array.length_toList, hzs]
  apply Array.ext
  . rw [size_madeCells, List.size_toArray, JR (s := s) (fun r' hr' => by rw [(List.mem_replicate.1 hr').2]; exact hrl), List.length_replicate]
  . intro j h1 h2
    rw [size_madeCells] at h1
    have hjs : j % s < s := Nat.mod_lt _ hs
    have hjd : j / s < n := (Nat.div_lt_iff_lt_mul hs).2 h1
    have hrow := Qc7 (rs := List.replicate n r) (s := s) (i := j / s) (r := r) (fun r' hr' => by rw [(List.mem_replicate.1 hr').2]; exact hrl) (by rw [List.getElem?_replicate, if_pos hjd])
    have hg : (List.replicate n r).flatten[j]? = r[j % s]? := by
      conv => rhs; rw [<- hrow]
      rw [List.getElem?_take, if_pos hjs, List.getElem?_drop]
      congr 1
      have := Nat.div_add_mod j s
      rw [Nat.mul_comm] at this
      exact this.symm
    have hzj : j % Z.cells.size < Z.cells.size := by rw [hzs]; exact hjs
    simp only [madeCells, Array.getElem_map, Array.getElem_range]
    rw [getElem!_pos Z.cells _ hzj]
    have h3 : (List.replicate n r).flatten.toArray[j]? = some ((List.replicate n r).flatten.toArray[j]) := Array.getElem?_eq_getElem h2
    have h4 : r[j % s]? = some (Z.cells[j % Z.cells.size]) := by
      have h5 : r[j % s]? = Z.cells.toList[j % s]? := by rw [hr]
      rw [h5, Array.getElem?_toList, <- Array.getElem?_eq_getElem hzj, hzs]
    rw [List.getElem?_toArray, hg, h4] at h3
    exact Option.some.inj h3
theorem Qdi {t s bytes : Nat} {x y : Operand} {K : IntKind} {n : Int} {r : List Value} (ho : o.op = .makeSlice t x y) (ht : apB P t s bytes = true) (hz : ∀ e, P.underlying t = some (.slice e) -> (P.info? e).bind (fun i => i.zero.map (·.cells.toList)) = some r) (hx : ev f x = some (.int K n)) (hy : ev f y = some (.int K n)) (h0 : 0 <= n) (hs : 0 < s) (hb : bytes * n <= 140737488355328) (hm : n <= maxLen) (hw : Qj ops o f = some true := by rfl) :
    DR P ops o N f w (fun u W => u = .slice (some ⟨w.heap.size, 0, none⟩) n.toNat n.toNat /\ (∀ r' ∈ List.replicate n.toNat r, r'.length = s) /\ X8 W w.heap.size (List.replicate n.toNat r).flatten /\ Below w.heap.size w W /\ w.heap.size < W.heap.size) := fun a ha => by
  obtain ⟨e, i, Z, hu, hi, hZ, rfl, rfl, hzs⟩ := Qgt ht
  have hx := ha.ev hx
  have hy := ha.ev hy
  have hr := hz e hu
  rw [hi] at hr
  simp only [Option.bind_some, hZ, Option.map_some, Option.some.injEq] at hr
  have hrun := run_make (P := P) w t e i Z hu hi hZ K K n n h0 (Int.le_refl _) (by omega) (by unfold maxLen at hm; omega)
  have hrl : r.length = i.size := by rw [<- hr, Array.length_toList, hzs]
  have hcs : madeCells Z.cells (n.toNat * i.size) = (List.replicate n.toNat r).flatten.toArray := KU hr hzs hs _
  exact Qi.of_wp (Qe ha hw) fun KK hK => by
    unfold Oper.wp execOp
    simp only [ho, hx, hy, Sem.run_bind, hrun, Sem.run_pure, Result.andThen_ok]
    rw [hcs]
    obtain ⟨n1, n2, n3⟩ := Fj w e (List.replicate n.toNat r).flatten
    exact hK _ _ ⟨rfl, (fun r' hr' => by rw [(List.mem_replicate.1 hr').2]; exact hrl), n1, n2, n3⟩
end

section
variable {P : Program} {ops : Array Oper} {o : Oper} {N : Nat} {f : Fl} {w : World}
theorem Qg1 {x y : Operand} {ts : Array TypeId} {K : IntKind} {m n : Int} (ho : o.op = .call { callee := .builtin .max, args := #[x, y], argTypes := ts }) (hx : ev f x = some (.int K m)) (hy : ev f y = some (.int K n)) (hw : Qj ops o f = some true := by rfl) : DV P ops o N f w (.int K (if m < n then n else m)) := fun a ha => by
  have hx := ha.ev hx
  have hy := ha.ev hy
  refine Qi.pure (Qe ha hw) _ ?_ ⟨rfl, rfl⟩
  unfold execOp
  simp only [ho, resolve, invoke, builtin, Sem.run_bind, Sem.run_pure, Result.andThen_ok, List.map_toArray, List.map_cons, List.map_nil, hx, hy, Builtin.max_, List.foldlM_cons, List.foldlM_nil, Builtin.max2]
theorem Qg0 {x y : Operand} {ts : Array TypeId} {K : IntKind} {m n : Int} (ho : o.op = .call { callee := .builtin .min, args := #[x, y], argTypes := ts }) (hx : ev f x = some (.int K m)) (hy : ev f y = some (.int K n)) (hw : Qj ops o f = some true := by rfl) : DV P ops o N f w (.int K (if n < m then n else m)) := fun a ha => by
  have hx := ha.ev hx
  have hy := ha.ev hy
  refine Qi.pure (Qe ha hw) _ ?_ ⟨rfl, rfl⟩
  unfold execOp
  simp only [ho, resolve, invoke, builtin, Sem.run_bind, Sem.run_pure, Result.andThen_ok, List.map_toArray, List.map_cons, List.map_nil, hx, hy, Builtin.min_, List.foldlM_cons, List.foldlM_nil, Builtin.min2]
end
section
variable {P : Program} {ops : Array Oper} {o : Oper} {N : Nat} {f : Fl} {w : World}
theorem KC (e : TypeId) (d : TypeDesc) (he : P.underlying e = some d) (hd : (match d with | .struct _ | .array _ _ => true | _ => false) = false) (K : IntKind) (zs : List Int) (i : Nat) (hi : i < zs.length) :
    (part e (zs.map (Value.int K)).toArray i).run P w = .ok (.int K (Qb zs i)) w := by
  have hagg : (isAgg e).run P w = .ok false w := by
    unfold isAgg
    rw [Sem.run_bind, run_underlying he w]
    cases d <;> simp_all
  simp [part, Sem.run_bind, hagg, hi, Qb]
theorem Yg (d : Nat) (e : TypeId) (K K' : IntKind) (xs ys : List Int) (he : P.underlying e = some (.int K')) : ∀ is : List Nat, (∀ i ∈ is, i < xs.length /\ i < ys.length) ->
    (Op.eqItems (d + 1) e 1 (xs.map (Value.int K)).toArray (ys.map (Value.int K)).toArray is).run P w = .ok (decide (∀ i ∈ is, Qb xs i = Qb ys i)) w
  | [], _ => by simp [Op.eqItems]
  | i :: is, h => by
    have h1 := KC (w := w) e _ he rfl K xs i (h i (by simp)).1
    have h2 := KC (w := w) e _ he rfl K ys i (h i (by simp)).2
    have h3 := Yg d e K K' xs ys he is (fun j hj => h j (by simp [hj]))
    have h4 := run_equalIn_int (P := P) w d e K K' (Qb xs i) (Qb ys i) he
    simp only [Op.eqItems, Sem.run_bind, Nat.mul_one, h1, h2, h4, Result.andThen_ok]
    by_cases hb : Qb xs i = Qb ys i
    . simp [hb, h3]
    . simp [hb]
theorem Qef (t e : TypeId) (n : Nat) (hu : P.underlying t = some (.array n e)) (K K' : IntKind) (he : P.underlying e = some (.int K')) (hc : (P.info? e).map (·.size) = some 1) (hg : P.eqGuardType P.depth t = false) (x y : Operand) (xs ys : List Int) (hx : xs.length = n) (hy : ys.length = n) :
    (do eqGuard .eql t x y (Xa K xs) (Xa K ys); binOp .eql t (Xa K xs) (Xa K ys) : Sem Value).run P w = .ok (.bool (decide (xs = ys))) w := by
  cases hi : P.info? e with
  | none => rw [hi] at hc; cases hc
  | some i =>
    have hcells : P.cellsOf e = 1 := by simp [Program.cellsOf, hc]
    have hq : (eqGuard .eql t x y (Xa K xs) (Xa K ys)).run P w = .ok () w := by
      simp [eqGuard, Xa, Sem.run_bind, hg]
    have hall : (∀ i ∈ List.range n, Qb xs i = Qb ys i) ↔ xs = ys := by
      constructor
      . intro h
        exact XC (by omega) fun j hj => h j (List.mem_range.2 (by omega))
      . rintro rfl _ _; rfl
    simp only [Sem.run_bind, hq, Result.andThen_ok]
    unfold Xa
    rw [run_eql_struct, show (10000 : Nat) = 9999 + 1 from rfl, run_equalIn_array w 9999 _ _ hu hi, hcells, show (9999 : Nat) = 9998 + 1 from rfl, Yg 9998 e K K' xs ys he (List.range n) (fun i hi => by have := List.mem_range.1 hi; omega)]
    simp only [Result.andThen_ok]
    congr 2
    exact decide_eq_decide.2 hall
theorem En (t e : TypeId) (n : Nat) (hu : P.underlying t = some (.array n e)) (K K' : IntKind) (he : P.underlying e = some (.int K')) (hc : (P.info? e).map (·.size) = some 1) (d : Nat) (xs ys : List Int) (hx : xs.length = n) (hy : ys.length = n) :
    (Op.equalIn (d + 2) t (Xa K xs) (Xa K ys)).run P w = .ok (decide (xs = ys)) w := by
  cases hi : P.info? e with
  | none => rw [hi] at hc; cases hc
  | some i =>
    have hcells : P.cellsOf e = 1 := by simp [Program.cellsOf, hc]
    have hall : (∀ i ∈ List.range n, Qb xs i = Qb ys i) ↔ xs = ys := by
      constructor
      . intro h
        exact XC (by omega) fun j hj => h j (List.mem_range.2 (by omega))
      . rintro rfl _ _; rfl
    unfold Xa
    rw [run_equalIn_array w (d + 1) _ _ hu hi, hcells, Yg d e K K' xs ys he (List.range n) (fun i hi => by have := List.mem_range.1 hi; omega)]
    congr 1
    exact decide_eq_decide.2 hall
theorem Qg8 {t t' e : TypeId} {x y : Operand} {n : Nat} {K K' : IntKind} {xs ys : List Int} (ho : o.op = .binOp .eql t x y t') (hu : P.underlying t = some (.array n e)) (he : P.underlying e = some (.int K')) (hc : Zc P e 1 = true) (hg : P.eqGuardType P.depth t = false) (hx : ev f x = some (Xa K xs)) (hy : ev f y = some (Xa K ys)) (hxl : xs.length = n) (hyl : ys.length = n) (hw : Qj ops o f = some true := by rfl) : DV P ops o N f w (.bool (decide (xs = ys))) := fun a ha => by
  have hx := ha.ev hx
  have hy := ha.ev hy
  refine Qi.pure (Qe ha hw) _ ?_ ⟨rfl, rfl⟩
  unfold execOp
  have h := Qef (w := w) t e n hu K K' he (Zs hc) hg x y xs ys hxl hyl
  simp only [ho, hx, hy, Sem.run_bind] at h ⊢
  rw [h]
  rfl
theorem Qe8 {t t' e : TypeId} {x y : Operand} {n : Nat} {K K' : IntKind} {xs ys : List Int} (ho : o.op = .binOp .neq t x y t') (hu : P.underlying t = some (.array n e)) (he : P.underlying e = some (.int K')) (hc : Zc P e 1 = true) (hg : P.eqGuardType P.depth t = false) (hx : ev f x = some (Xa K xs)) (hy : ev f y = some (Xa K ys)) (hxl : xs.length = n) (hyl : ys.length = n) (hw : Qj ops o f = some true := by rfl) : DV P ops o N f w (.bool (!decide (xs = ys))) := fun a ha => by
  have hx := ha.ev hx
  have hy := ha.ev hy
  have hq : (eqGuard .neq t x y (Xa K xs) (Xa K ys)).run P w = .ok () w := by
    simp [eqGuard, Xa, Sem.run_bind, hg]
  have h := En (w := w) t e n hu K K' he (Zs hc) 9998 xs ys hxl hyl
  have e1 : binOp .neq t (Xa K xs) (Xa K ys) = (do pure (.bool (!(<- Op.equal t (Xa K xs) (Xa K ys))))) := rfl
  have e2 : (Op.equal t (Xa K xs) (Xa K ys)).run P w = .ok (decide (xs = ys)) w := h
  exact Qi.pure (Qe ha hw) _ (by unfold execOp; simp only [ho, hx, hy, Sem.run_bind, hq, Result.andThen_ok, e1, e2, Sem.run_pure]) ⟨rfl, rfl⟩
theorem Qg7 {t t' : TypeId} {x y : Operand} {b c : Bool} (ho : o.op = .binOp .eql t x y t') (hu : P.underlying t = some .bool) (hx : ev f x = some (.bool b)) (hy : ev f y = some (.bool c)) (hw : Qj ops o f = some true := by rfl) : DV P ops o N f w (.bool (decide (b = c))) := fun a ha => by
  have hx := ha.ev hx
  have hy := ha.ev hy
  have e1 : binOp .eql t (.bool b) (.bool c) = (do pure (.bool (<- Op.equal t (.bool b) (.bool c)))) := rfl
  have e2 : (Op.equal t (.bool b) (.bool c)).run P w = .ok (b == c) w := run_equalIn_bool' w 9999 t b c hu
  have e3 : (b == c) = decide (b = c) := by cases b <;> cases c <;> rfl
  exact Qi.pure (Qe ha hw) _ (by unfold execOp; simp only [ho, hx, hy, eqGuard, Sem.run_bind, Sem.run_pure, Result.andThen_ok, e1]; simp [e2, e3]) ⟨rfl, rfl⟩
theorem Qe7 {t t' : TypeId} {x y : Operand} {b c : Bool} (ho : o.op = .binOp .neq t x y t') (hu : P.underlying t = some .bool) (hx : ev f x = some (.bool b)) (hy : ev f y = some (.bool c)) (hw : Qj ops o f = some true := by rfl) : DV P ops o N f w (.bool (!decide (b = c))) := fun a ha => by
  have hx := ha.ev hx
  have hy := ha.ev hy
  have e1 : binOp .neq t (.bool b) (.bool c) = (do pure (.bool (!(<- Op.equal t (.bool b) (.bool c))))) := rfl
  have e2 : (Op.equal t (.bool b) (.bool c)).run P w = .ok (b == c) w := run_equalIn_bool' w 9999 t b c hu
  have e3 : (b == c) = decide (b = c) := by cases b <;> cases c <;> rfl
  exact Qi.pure (Qe ha hw) _ (by unfold execOp; simp only [ho, hx, hy, eqGuard, Sem.run_bind, Sem.run_pure, Result.andThen_ok, e1]; simp [e2, e3]) ⟨rfl, rfl⟩
end
end Go.Proofs.YtbiboamaigedjaaDoor
namespace Go.Proofs.YtbiboamaigedjaaDoor
open Go.ChangeShapes Go.WideShapes Go.ChangeAt Go.RowKit
set_option linter.unusedVariables false

section
variable {P : Program} {H : Type} {enc : TypeId × Value -> H} {W : World} {base : Nat} {sp : Nat -> Bool} {held : Bool}
end
end Go.Proofs.YtbiboamaigedjaaDoor
namespace Go.Proofs.YtbiboamaigedjaaDoor
open Go.RowKit
set_option linter.unusedVariables false
set_option linter.unusedSimpArgs false
set_option maxRecDepth 8000
set_option maxHeartbeats 2000000

section
variable {P : Program} {ops : Array Oper} {o : Oper} {N : Nat} {f : Fl} {w : World}
end
section
variable {P : Program} {N : Nat} {sd : List (Option Tmp × VS)} {dl : List (List Nat)}
end
section
variable {P : Program} {ops : Array Oper} {o : Oper} {N : Nat} {f : Fl} {w : World}
end
end Go.Proofs.YtbiboamaigedjaaDoor
namespace Go.Proofs.YtbiboamaigedjaaDoor
open Go.RowKit
set_option linter.unusedVariables false
set_option linter.constructorNameAsVariable false
set_option linter.unusedSimpArgs false
/-- A block of one's Xx as rows, all that there is room for. -/
def RwB (s : Nat) (w : World) (B : Nat) (R : List (List Value)) : Prop := 0 < s /\ (∀ r ∈ R, r.length = s) /\ R.length <= maxLen /\ X8 w B R.flatten
/-- Where a part begins: a part with no room begins where the whole does. -/
def Kl (c l o0 s : Nat) : Nat := if c = l then o0 else o0 + l * s
theorem QeI {c l s B o0 : Nat} : (if c = l then some (⟨B, o0, none⟩ : Addr) else some (if l * s = 0 then ⟨B, o0, none⟩ else ⟨B, o0 + l * s, none⟩)) = some ⟨B, Kl c l o0 s, none⟩ := by
  unfold Kl
  split
  . rfl
  . split
    . rename_i h; rw [h]; rfl
    . rfl
/-- What a part of it reads. -/
theorem RwB.part {s : Nat} {w : World} {B : Nat} {R : List (List Value)} (h : RwB s w B R) {L : List Nat} (hB : B ∉ L) {lo n c o1 : Nat} (ho : n ≠ 0 -> o1 = lo * s) (hn : n <= c) (hc : lo + c <= R.length) : Hb s L w (.slice (some ⟨B, o1, none⟩) n c) ((R.drop lo).take n) := by
  obtain ⟨h0, hr, hm, hb⟩ := h
  have hl : ((R.drop lo).take n).length = n := by rw [List.length_take, List.length_drop]; omega
  refine ⟨h0, fun r hr' => hr r (List.mem_of_mem_drop (List.mem_of_mem_take hr')), _, c, by rw [hl], by rw [hl]; exact hn, by omega, fun h => (by cases h), fun hne => ⟨B, o1, rfl, hB, ?_⟩⟩
  rw [ho (fun e => hne (by rw [e, List.take_zero]))]
  have := Vl hb.range (lo * s) (n * s)
  rw [Us lo hr, K0 n (fun r hr' => hr r (List.mem_of_mem_drop hr')), Nat.zero_add] at this
  exact this
section
variable {P : Program} {ops : Array Oper} {o : Oper} {N : Nat} {f : Fl} {w : World}
end
-- contracts of what writes to a block that it is given
/-- Of what was there just this block may have changed. -/
structure Chg (B : Nat) (w w' : World) : Prop where
  os : w'.os = w.os
  tape : w'.tape = w.tape
  output : w'.output = w.output
  size : w.heap.size <= w'.heap.size
  block : ∀ k, k < w.heap.size -> k ≠ B -> w'.heap[k]? = w.heap[k]?
section
variable {P : Program} {ops : Array Oper} {o : Oper} {N : Nat} {f : Fl} {w : World} {R : Value -> World -> Prop} {fn : Func}
end
end Go.Proofs.YtbiboamaigedjaaDoor
namespace Go.Proofs.YtbiboamaigedjaaDoor
open Go.RowKit
set_option linter.unusedVariables false
set_option linter.unusedSimpArgs false
set_option maxRecDepth 8000
set_option maxHeartbeats 2000000

section
variable {P : Program} {ops : Array Oper} {o : Oper} {N : Nat} {f : Fl} {w : World}
end
section
variable {P : Program} {ops : Array Oper} {o : Oper} {N : Nat} {f : Fl} {w : World} {R : Value -> World -> Prop}
end
/-- A text's byte. -/
def atS (s : ByteArray) (k : Nat) : Int := (s.data[k]?.getD 0).toNat
section
variable {P : Program} {ops : Array Oper} {o : Oper} {N : Nat} {f : Fl} {w : World}
theorem QhW {t : TypeId} {x y : Operand} {s : ByteArray} {K : IntKind} {i : Int} (k : Nat) (ho : o.op = .index t x y) (ht : P.underlying t = some .string) (hx : ev f x = some (.string s)) (hy : ev f y = some (.int K i)) (hi : i = (k : Int)) (hk : k < s.size) (hw : Qj ops o f = some true := by rfl) : DV P ops o N f w (.int .u8 (atS s k)) := fun a ha => by
  subst hi
  have hx := ha.ev hx
  have hy := ha.ev hy
  have hk' : k < s.data.size := hk
  have e : s[k]? = some (s.data[k]?.getD 0) := by
    rw [getElem?_pos s k hk, Array.getElem?_eq_getElem hk']
    rfl
  refine Qi.pure (Qe ha hw) _ ?_ ⟨rfl, rfl⟩
  unfold execOp
  simp only [ho, hx, hy, Instr.index, asIntOf, Sem.run_bind, Sem.run_pure, Result.andThen_ok, run_underlying ht]
  have h0 : (0 : Int) <= (k : Int) := by omega
  simp [h0, e, atS]
end
section
variable {α : Type} {g : α -> Bool} {r : α -> α -> Bool} {n : Nat}
end

end Go.Proofs.YtbiboamaigedjaaDoor
namespace Go.Proofs.YtbiboamaigedjaaDoor
open Go.RowKit Go.Sort
set_option linter.unusedVariables false
set_option linter.unusedSimpArgs false
-- the order of lists of bytes
section
variable {P : Program} {ops : Array Oper} {o : Oper} {N : Nat} {f : Fl} {w : World} {R : Value -> World -> Prop}
end
end Go.Proofs.YtbiboamaigedjaaDoor
namespace Go.Proofs.YtbiboamaigedjaaDoor
open Go.RowKit
set_option linter.unusedVariables false
set_option linter.unusedSimpArgs false
set_option maxRecDepth 8000
set_option maxHeartbeats 2000000

section
variable {P : Program} {N : Nat} {sd : List (Option Tmp × VS)} {dl : List (List Nat)}
end
section
variable {P : Program} {ops : Array Oper} {o : Oper} {N : Nat} {f : Fl} {w : World}
end
section
variable {P : Program} {ops : Array Oper} {md : Region.Mode}
/-- The law of XOrd, where what waits for one is not asked to bear it. G holds throughout, said of which operations have run; what is shown of an operation (F) bears what others do to the world (R). -/
theorem Gf {Q : Exit -> Act -> World -> Prop} (hb : Kk md ops = true) (a : Act) (G : (Nat -> Bool) -> World -> Prop) (F : Qat) (R : Nat -> (Nat -> Value) -> World -> World -> Prop)
    (hF : ∀ i f w w' j g, R i f w w' -> j ≠ i -> i ∉ QY md ops j -> F j g w -> F j g w')
    (hstep : ∀ i o, ops[i]? = some o -> ∀ L f w, L i = false -> (∀ j, i ∈ QY md ops j -> L j = false) -> G L w -> (∀ j ∈ Qq md o, F j (Zn f (j :: QY md ops j)) w) ->
      Qi P ops o (Q4 ops f (Qq md o) a) w fun v w' => R i (Zn f (Qq md o)) w w' /\ G (Zg L i true) w' /\ F i (Zn (Zg f i v) (i :: Qq md o)) w')
    (hend : ∀ L f w, (∀ j, L j = decide (j < ops.size)) -> G L w -> (∀ j, j < ops.size -> F j (Zn f (j :: QY md ops j)) w) -> Q .normal (Q4 ops f (List.range ops.size) a) w) :
    ∀ (fuel : Nat) (listed : Array Bool) (f : Nat -> Value) (a' : Act) (w : World), listed.size = ops.size -> (listed.toList.countP (fun b => !b) <= fuel) ->
      (∀ j, listed.getD j false = true -> ∀ k ∈ QY md ops j, listed.getD k false = true) ->
      QG ops (fun j => listed.getD j false = true) f a a' -> G (fun j => listed.getD j false) w -> (∀ j, listed.getD j false = true -> F j (Zn f (j :: QY md ops j)) w) -> wpAny P md ops Q fuel listed a' w := by
  have ho := Fe hb
  have fin : ∀ (listed : Array Bool) (f : Nat -> Value) (a' : Act) (w : World), listed.size = ops.size -> Region.ready md ops listed = [] ->
      QG ops (fun j => listed.getD j false = true) f a a' -> G (fun j => listed.getD j false) w -> (∀ j, listed.getD j false = true -> F j (Zn f (j :: QY md ops j)) w) -> Q .normal a' w := by
    intro listed f a' w hsz hr hag hg hf
    have hl := Kc hb hsz hr
    have hout : ∀ j, listed.getD j false = true -> j < ops.size := by
      intro j h
      rcases Nat.lt_or_ge j ops.size with h' | h'
      . exact h'
      . simp [Array.getElem?_eq_none (by omega : listed.size <= j)] at h
    have e : a' = Q4 ops f (List.range ops.size) a := by
      refine hag.unique ((QG.of ho f a (List.range ops.size)).congr (fun j => ?_) (fun _ _ => rfl))
      rw [List.mem_range]
      exact ⟨hl j, hout j⟩
    rw [e]
    refine hend _ f w (fun j => ?_) hg fun j hj => hf j (hl j hj)
    by_cases hj : j < ops.size
    . rw [hl j hj]; simp [hj]
    . have : ¬ listed.getD j false = true := fun h => hj (hout j h)
      rw [Bool.not_eq_true] at this
      rw [this]; simp [hj]
  intro fuel
  induction fuel with
  | zero =>
    intro listed f a' w hsz hc hcl hag hg hf
    have hr : Region.ready md ops listed = [] := by
      rw [List.eq_nil_iff_forall_not_mem]
      intro j hj
      obtain ⟨h0, o, hoj, _⟩ := mem_ready.1 hj
      have hjs : j < ops.size := (Array.getElem?_eq_some_iff.1 hoj).1
      have hc0 : listed.toList.countP (fun b => !b) = 0 := by omega
      rw [List.countP_eq_zero] at hc0
      have h1 := hc0 listed[j] (by simp)
      rw [Array.getD_eq_getD_getElem?, Array.getElem?_eq_getElem (by omega)] at h0
      simp only [Option.getD_some] at h0
      rw [h0] at h1
      exact h1 rfl
    exact ⟨hr, fin listed f a' w hsz hr hag hg hf⟩
  | succ fuel ih =>
    intro listed f a' w hsz hc hcl hag hg hf
    refine ⟨fun hr => fin listed f a' w hsz hr hag hg hf, fun i hi => ?_⟩
    obtain ⟨h0, o, hoi, hdep⟩ := mem_ready.1 hi
    have his : i < ops.size := (Array.getElem?_eq_some_iff.1 hoi).1
    obtain ⟨hsel, hlt, hlook⟩ := Y1 hb hoi
    have hdl : ∀ j ∈ Qq md o, listed.getD j false = true := by
      intro j hj
      obtain ⟨e, he, rfl⟩ := List.mem_map.1 hj
      obtain ⟨he1, he2⟩ := List.mem_filter.1 he
      exact hdep e (by simpa using he1) he2
    have hun : ¬ listed.getD i false = true := by
      intro h
      rw [Array.getD_eq_getD_getElem?, Array.getElem?_eq_getElem (by omega)] at h0 h
      simp only [Option.getD_some] at h0 h
      rw [h0] at h
      cases h
    have hA := QG.of ho f a (Qq md o)
    have hdst : o.dst = QL ops i := by simp [QL, hoi]
    have hset : ∀ j, (listed.setIfInBounds i true).getD j false = Zg (fun j => listed.getD j false) i true j := by
      intro j
      unfold Zg
      by_cases e : j = i
      . subst e
        simp [Array.getD_eq_getD_getElem?, hsz, his]
      . rw [getD_set_ne false (fun h => e h.symm), if_neg e]
    refine Qi.wpOp hoi hsel (a := Q4 ops f (Qq md o) a) (by rw [hag.size, hA.size]) (fun t ht => ?_)
      (hstep i o hoi (fun j => listed.getD j false) f w (by simpa using hun) (fun j hj => by
        rw [<- Bool.not_eq_true]
        exact fun h => hun (hcl j h i hj)) hg fun j hj => hf j (hdl j hj)) fun v w' hR => ?_
    . by_cases hts : t < a.tmps.size
      . by_cases e : ∃ j, QL ops j = some t
        . obtain ⟨j, hd⟩ := e
          have hj' : j < ops.size := by
            rcases Nat.lt_or_ge j ops.size with h | h
            . exact h
            . simp [QL, Array.getElem?_eq_none h] at hd
          have hl := hlook j t hj' hd
          by_cases hjd : j ∈ Qq md o
          . rw [hag.put j t (hdl j hjd) hd hts, hA.put j t hjd hd hts]
          . have hjl : ¬ listed.getD j false = true := by
              intro hjl
              rcases hl.1 ht with h | h | h
              . exact hun (h ▸ hjl)
              . exact hjd h
              . exact hun (hcl j hjl i h)
            rw [hag.same t (fun k hk hkd => hjl (ho k j t hkd hd ▸ hk)), hA.same t (fun k hk hkd => hjd (ho k j t hkd hd ▸ hk))]
        . have hn : ∀ j, QL ops j ≠ some t := fun j hj => e ⟨j, hj⟩
          rw [hag.same t (fun j _ => hn j), hA.same t (fun j _ => hn j)]
      . rw [Array.getElem?_eq_none (by rw [hag.size]; exact Nat.le_of_not_lt hts), Array.getElem?_eq_none (by rw [hA.size]; exact Nat.le_of_not_lt hts)]
    . obtain ⟨hR1, hR3, hR2⟩ := hR
      have hset' : ∀ j, (listed.setIfInBounds i true).getD j false = true ↔ (j = i \/ listed.getD j false = true) := by
        intro j
        rw [hset j]
        unfold Zg
        by_cases e : j = i <;> simp [e]
      rw [hdst]
      refine ih (listed.setIfInBounds i true) (Zg f i v) _ w' (by simp [hsz]) ?_ ?_ ?_ (by rw [show (fun j => (listed.setIfInBounds i true).getD j false) = Zg (fun j => listed.getD j false) i true from funext hset]; exact hR3) ?_
      . have hc2 : (listed.setIfInBounds i true).toList.countP (fun b => !b) + 1 <= listed.toList.countP (fun b => !b) := by
          rw [Array.toList_setIfInBounds]
          have hlen : i < listed.toList.length := by simpa [hsz] using his
          have hli : listed.toList[i] = false := by
            rw [Array.getD_eq_getD_getElem?, Array.getElem?_eq_getElem (by omega)] at h0
            simpa using h0
          rw [List.countP_set hlen, hli]
          have : 0 < listed.toList.countP (fun b => !b) := List.countP_pos_iff.2 ⟨false, by rw [<- hli]; exact List.getElem_mem _, rfl⟩
          simp only [Bool.not_false, Bool.not_true, if_true, Bool.false_eq_true, if_false]
          omega
        omega
      . intro j hj k hk
        rw [hset'] at hj ⊢
        rcases hj with rfl | hj
        . rw [Y7 hoi] at hk
          exact .inr (hdl k hk)
        . exact .inr (hcl j hj k hk)
      . exact hag.step ho i v hset' (fun j hji _ => by simp [Zg, hji]) (by simp [Zg])
      . intro j hj
        rw [hset'] at hj
        by_cases e : j = i
        . subst e
          rw [Y7 hoi]
          exact hR2
        . have hjl := hj.resolve_left e
          have hnc : (j :: QY md ops j).contains i = false := by
            rw [<- Bool.not_eq_true, List.contains_iff_mem, List.mem_cons]
            rintro (h | h)
            . exact e h.symm
            . exact hun (hcl j hjl i h)
          rw [KE hnc]
          exact hF i _ w w' j _ hR1 e (fun h => hun (hcl j hjl i h)) (hf j hjl)
end
section
variable {P : Program} {N : Nat} {sd : List (Option Tmp × VS)} {dl : List (List Nat)} {G : Bool -> World -> Prop}
end
section
variable {P : Program} {ops : Array Oper} {o : Oper} {N : Nat} {f : Fl} {w : World}
theorem YU {x : Operand} {a : Addr} (ho : o.op = .nilCheck x) (hx : ev f x = some (.pointer (some a))) (hw : Qj ops o f = some true := by rfl) : DV P ops o N f w (.pointer (some a)) := fun k ha => by
  have hx := ha.ev hx
  exact Qi.pure (Qe ha hw) _ (by unfold execOp; simp [ho, hx, Sem.run_bind, Sem.run_pure]) ⟨rfl, rfl⟩
end
end Go.Proofs.YtbiboamaigedjaaDoor
