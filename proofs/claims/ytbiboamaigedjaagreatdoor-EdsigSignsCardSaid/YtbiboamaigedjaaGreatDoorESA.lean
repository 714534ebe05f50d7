/- Plain words of ours on slices that are read, on worlds that have grown, and on bytes. No program stands here. Laws of ours over the walk: an append to -/
import Derived.Test.YtbiboamaigedjaaGreatDoorRows
import Derived.WalkKit
import Derived.ProofKit
import Derived.OpenShut
import Derived.Handy
import Derived.Lib.Hide
import Derived.Outline
import Derived.Deep.QuietTactic
import Derived.BigQuiet
import Derived.Carry
import Derived.Laws.AppendOwnNone
import Derived.Laws.BytesArg
import Derived.Laws.IdiomStrings
import Derived.Laws.Rows
import Derived.KernelRfl
import Derived.Laws.BitsAllLaws
import Derived.Lib.Mul64
import Derived.RegionTactic
import Derived.Laws.Tables
import Derived.Laws.CopyRow
import Derived.Deep.LoopGhost
import Derived.Deep.MidRow
import Derived.Laws.MakeOwn
namespace Go.Proofs.YtbiboamaigedjaaGreatDoor
open Go.RowKit
set_option linter.unusedVariables false
set_option linter.unusedSimpArgs false
set_option maxRecDepth 8000
set_option maxHeartbeats 2000000

/-- The number at a place, as a word that no rewriting opens. -/
def Qb (l : List Int) (k : Nat) : Int := l[k]?.getD 0
theorem F7 {l : List Int} {k : Nat} (h : k < l.length) : Qb l k = l[k] := by simp [Qb, h]
theorem JY {l : List Int} {k : Nat} (h : k < l.length) : Qb l k ∈ l := by rw [F7 h]; exact List.getElem_mem _
theorem Zq (x : Int) (l : List Int) : Qb (x :: l) 0 = x := rfl
theorem Zb (x : Int) (l : List Int) (k : Nat) : Qb (x :: l) (k + 1) = Qb l k := by simp [Qb]
theorem Qik (l : List Int) (i k : Nat) : Qb (l.drop i) k = Qb l (i + k) := by simp [Qb]
/-- XD are bytes. -/
def Qh (l : List Int) : Prop := ∀ x ∈ l, 0 <= x /\ x <= 255
theorem Qh.at {l : List Int} (h : Qh l) (k : Nat) : 0 <= Qb l k /\ Qb l k <= 255 := by
  by_cases hk : k < l.length
  . exact h _ (JY hk)
  . simp [Qb, hk]
theorem Qh.drop {l : List Int} (h : Qh l) (k : Nat) : Qh (l.drop k) := fun x hx => h x (List.mem_of_mem_drop hx)
theorem QZ {la lb : List Int} (hl : la.length = lb.length) (h : ∀ j, j < la.length -> Qb la j = Qb lb j) : la = lb := by
  apply List.ext_getElem hl
  intro i h1 h2
  have := h i h1
  rwa [F7 h1, F7 h2] at this

/-- A slice value that holds these integers, of one kind. -/
def UF (K : IntKind) (w : World) (v : Value) (zs : List Int) : Prop :=
  ∃ a cap, v = .slice a zs.length cap /\ zs.length <= cap /\ cap <= maxLen /\ (∀ k, k < zs.length -> ∃ x o, a = some ⟨x, o, none⟩ /\ w.cell? ⟨x, o + k, none⟩ = some (.int K (Qb zs k))) /\ (a = none -> cap = 0)

theorem XR {B : Nat} {a w : World} (h : Below B a w) (n : Nat) : Below B a (w.drewN n) := ⟨h.os, h.tape, h.output, h.size, h.block⟩

theorem UF.nil {K : IntKind} {w : World} : UF K w (.slice none 0 0) [] := ⟨none, 0, rfl, Nat.le_refl _, by unfold maxLen; omega, fun k hk => by simp at hk, fun _ => rfl⟩

theorem QgW {w : World} {base e : Nat} {v : Value} {n : Nat} {xs : List Value} (h : w.ownsRow base e 1 v n xs) :
    ∃ a cap, v = .slice a n cap /\ n <= cap /\ cap <= maxLen /\ xs.length = n /\ (∀ k, k < n -> ∃ x, a = some ⟨x, 0, none⟩ /\ base <= x /\ w.cell? ⟨x, k, none⟩ = xs[k]?) /\ (a = none -> cap = 0) := by
  obtain ⟨hl, h2⟩ := h
  rw [Nat.mul_one] at hl
  rcases h2 with ⟨rfl, rfl⟩ | ⟨g, cap, cur, rfl, hb, hh, hn, hm, hs, ht⟩
  . exact ⟨none, 0, rfl, Nat.le_refl _, by unfold maxLen; omega, hl, fun k hk => by omega, fun _ => rfl⟩
  . refine ⟨_, cap, rfl, hn, hm, hl, fun k hk => ⟨g, rfl, hb, ?_⟩, fun h => by cases h⟩
    rw [Nat.mul_one] at ht
    rw [<- ht, List.getElem?_take, if_pos hk]
    simp [World.cell?, hh]

theorem UF.of_own {K : IntKind} {w : World} {base e : Nat} {v : Value} {n : Nat} {zs : List Int} (h : w.ownsRow base e 1 v n (zs.map (Value.int K))) : UF K w v zs := by
  obtain ⟨a, cap, rfl, h1, h2, h3, h4, h5⟩ := QgW h
  have hn : n = zs.length := by simpa using h3.symm
  subst hn
  refine ⟨a, cap, rfl, h1, h2, fun k hk => ?_, h5⟩
  obtain ⟨x, rfl, _, hc⟩ := h4 k hk
  exact ⟨x, 0, rfl, by rw [Nat.zero_add, hc]; simp [hk, Qb]⟩

/-- What is below the heap's size of a later world is below an earlier one's. -/
theorem Qk {a b c : World} (h : Below a.heap.size a b) (k : Below b.heap.size b c) : Below a.heap.size a c := h.trans (k.mono h.size)

theorem JF {a b : World} (h : Below a.heap.size a b) (o : Obj) : Below a.heap.size a (b.alloc o) := h.alloc h.size o
theorem Yo {a b : World} (h : Below a.heap.size a b) (n : Nat) : Below a.heap.size a (b.drewN n) := XR h n

/-- Block B holds these numbers from its head on, and each may be written. -/
def Qis (K : IntKind) (w : World) (B : Nat) (zs : List Int) : Prop :=
  ∃ cur e fz, w.heap[B]? = some (.cells cur e fz) /\ zs.length <= cur.size /\ ∀ j, j < zs.length -> cur[j]? = some (.int K (Qb zs j)) /\ ¬ (fz.1 <= j /\ j < fz.2)

theorem Qis.cell {K : IntKind} {w : World} {B : Nat} {zs : List Int} (h : Qis K w B zs) {k : Nat} (hk : k < zs.length) : w.cell? ⟨B, k, none⟩ = some (.int K (Qb zs k)) := by
  obtain ⟨cur, e, fz, h1, h2, h3⟩ := h
  simp [World.cell?, h1, (h3 k hk).1]
theorem Qis.free {K : IntKind} {w : World} {B : Nat} {zs : List Int} (h : Qis K w B zs) {k : Nat} (hk : k < zs.length) : w.frozen? ⟨B, k, none⟩ = false := by
  obtain ⟨cur, e, ⟨lo, hi⟩, h1, h2, h3⟩ := h
  have := (h3 k hk).2
  simp only [World.frozen?, h1]
  simp at this ⊢
  exact this
theorem Zv (zs : List Int) (k j : Nat) (x : Int) (hk : k < zs.length) : Qb (zs.set k x) j = if j = k then x else Qb zs j := by
  unfold Qb
  by_cases h : j = k
  . subst h; simp [hk]
  . rw [if_neg h, List.getElem?_set_ne (by omega)]
/-- A text's bytes as numbers. -/
def sb (s : ByteArray) : List Int := s.data.toList.map fun c => (c.toNat : Int)
theorem Ul (s : ByteArray) : (sb s).length = s.size := by simp [sb]
theorem QaO (s : ByteArray) : Qh (sb s) := by
  intro x hx
  simp only [sb, List.mem_map] at hx
  obtain ⟨c, _, rfl⟩ := hx
  have := c.toNat_lt
  omega
theorem Qcm {a b : ByteArray} (h : a = b) : (a.toList == b.toList) = true := by subst h; simp
theorem QeU {a b : ByteArray} (h : ¬ a = b) : (a.toList == b.toList) = false := by
  rw [beq_eq_false_iff_ne]
  intro e
  apply h
  rw [ByteArray.toList_eq, ByteArray.toList_eq] at e
  cases a; cases b
  congr 1
  exact Array.toList_inj.1 e
section
variable {P : Program} {w : World} {ops : Array Oper} {rest : List Oper} {o : Oper} {a : Act} {Q : Exit -> Act -> World -> Prop}
end
end Go.Proofs.YtbiboamaigedjaaGreatDoor
--@optional
namespace Go.Proofs.YtbiboamaigedjaaGreatDoor
open Go.ChangeShapes Go.WideShapes Go.ChangeAt Go.RowKit
set_option linter.unusedVariables false

theorem Qnf : ownKnob Tryz.prog.godebug = none := by kernel_rfl
theorem DI : laidOutB Tryz.prog = true := by kernel_rfl

/-- A slice of integers that came in. -/
theorem Qjc {P : Program} {H : Type} {enc : TypeId × Value -> H} {W : World} {base : Nat} {t e : TypeId} {K : IntKind} {v : Value} {d : DataW H} {p : List MemPlace}
    (ht : P.underlying t = some (.slice e)) (he : P.underlying e = some (.int K)) (hc : P.cellsOf e = 1)
    (hval : Value.okWide P W .any base t v) (h0 : DataW.Trod enc P W 0 (fun _ => true) true t v d p) :
    ∃ zs, UF K W v zs /\ ∀ n ∈ zs, (Lit.int K n).wf = true := by
  obtain ⟨a0, len, cap, rfl⟩ := okWide_slice ht hval
  obtain ⟨fuel, hf⟩ := h0
  rcases open_ints ht he hc hf with ⟨hcs, hx⟩ | ⟨a, len', cap', zs, hcs, _, hl, hm, hz, hx, hcell, hwz⟩
  . simp [Value.cells] at hcs
    obtain ⟨rfl, rfl, rfl⟩ := hcs
    exact ⟨[], UF.nil, fun n hn => by cases hn⟩
  . simp [Value.cells] at hcs
    obtain ⟨rfl, rfl, rfl⟩ := hcs
    simp only [if_true] at hz
    have hlen : (zs.take len).length = len := by rw [List.length_take]; omega
    refine ⟨zs.take len, ⟨some a, cap, by rw [hlen], by rw [hlen]; exact hl, hm, fun k hk => ?_, fun h => by cases h⟩, fun n hn => hwz n (List.mem_of_mem_take hn)⟩
    rw [hlen] at hk
    have hck := hcell k (by omega)
    obtain ⟨b, off, spot⟩ := a
    have hspot : spot = none := by
      have h0 := hcell 0 (by omega)
      simpa [Addr.add] using World.cell?_spot h0
    subst hspot
    refine ⟨b, off, rfl, ?_⟩
    rw [<- add_plain, hck]
    simp [Qb, List.getD, hk]

theorem Qaw {zs : List Int} (h : ∀ n ∈ zs, (Lit.int .u8 n).wf = true) : Qh zs := fun x hx => by
  have := h x hx
  simpa [Lit.wf, IntKind.min, IntKind.max, IntKind.signed, IntKind.bits] using this
end Go.Proofs.YtbiboamaigedjaaGreatDoor
namespace Go.Proofs.YtbiboamaigedjaaGreatDoor
open Go.RowKit
set_option linter.unusedVariables false
set_option linter.unusedSimpArgs false
set_option maxRecDepth 8000
set_option maxHeartbeats 2000000

/-- An array of numbers of one kind. -/
def XN (K : IntKind) (zs : List Int) : Value := .agg (zs.map (Value.int K)).toArray
/-- Block B is an array that holds these numbers and nothing else, all of it free. -/
def Y4 (K : IntKind) (w : World) (B : Nat) (zs : List Int) : Prop := ∃ t, w.heap[B]? = some (.cells (zs.map (Value.int K)).toArray t (0, 0))

theorem Y4.row {K : IntKind} {w : World} {B : Nat} {zs : List Int} (h : Y4 K w B zs) : Qis K w B zs := by
  obtain ⟨t, h⟩ := h
  refine ⟨_, t, _, h, by simp, fun j hj => ⟨by simp [hj, Qb], by simp⟩⟩
theorem Y4.below {K : IntKind} {w w' : World} {B : Nat} {zs : List Int} (h : Y4 K w B zs) (hb : Below w.heap.size w w') : Y4 K w' B zs := by
  obtain ⟨t, h⟩ := h
  exact ⟨t, by rw [hb.block B (Array.getElem?_eq_some_iff.1 h).1]; exact h⟩
theorem Y4.lt {K : IntKind} {w : World} {B : Nat} {zs : List Int} (h : Y4 K w B zs) : B < w.heap.size := by
  obtain ⟨t, h⟩ := h
  exact (Array.getElem?_eq_some_iff.1 h).1
theorem Y4.cell {K : IntKind} {w : World} {B : Nat} {zs : List Int} (h : Y4 K w B zs) {k : Nat} (hk : k < zs.length) : w.cell? ⟨B, k, none⟩ = some (.int K (Qb zs k)) := h.row.cell hk
theorem Y4.free {K : IntKind} {w : World} {B : Nat} {zs : List Int} (h : Y4 K w B zs) {k : Nat} (hk : k < zs.length) : w.frozen? ⟨B, k, none⟩ = false := h.row.free hk
theorem Y4.set {K : IntKind} {w : World} {B : Nat} {zs : List Int} (h : Y4 K w B zs) (k : Nat) (x : Int) : Y4 K (w.setCell ⟨B, k, none⟩ (.int K x)) B (zs.set k x) := by
  obtain ⟨t, h⟩ := h
  refine ⟨t, ?_⟩
  simp [World.setCell, Array.getElem?_modify, h, List.map_set]
theorem Y4.setOther {K : IntKind} {w : World} {B : Nat} {zs : List Int} (h : Y4 K w B zs) {B' : Nat} (hne : B ≠ B') (k : Nat) (v : Value) : Y4 K (w.setCell ⟨B', k, none⟩ v) B zs := by
  obtain ⟨t, h⟩ := h
  exact ⟨t, by rw [heap_setCell_other w ⟨B', k, none⟩ B v hne]; exact h⟩
theorem Y4.setRow {K : IntKind} {w : World} {B : Nat} {zs : List Int} (h : Y4 K w B zs) (ys : List Int) : Y4 K (w.setRow B (ys.map (Value.int K)).toArray) B ys := by
  obtain ⟨t, h⟩ := h
  exact ⟨t, setRow_heap w B _ _ t _ h⟩
section
variable {P : Program} {w : World} {ops : Array Oper} {rest : List Oper} {o : Oper} {a : Act} {Q : Exit -> Act -> World -> Prop}

/-- Goes on only where the next operation is of this form. -/
theorem YF (n : Tmp) {b c d e f} (h : wpList P ops Q (⟨some n, b, c, d, e, f⟩ :: rest) a w) : wpList P ops Q (⟨some n, b, c, d, e, f⟩ :: rest) a w := h
theorem Hg (h : wpList P ops Q (o :: rest) a w) : wpList P ops Q (o :: rest) a w := h
theorem VT (hgd : o.guard = none) (t : TypeId) (x : Operand) (ho : o.op = .box t x) (K : IntKind) (zs : List Int) (hx : a.eval x = XN K zs)
    (h : ∀ w1, Y4 K w1 w.heap.size zs -> w.heap.size < w1.heap.size -> Below w.heap.size w w1 -> wpList P ops Q rest (a.put o.dst (.pointer (some ⟨w.heap.size, 0, none⟩))) w1) : wpList P ops Q (o :: rest) a w := by
  refine wpList_plain hgd fun Kq hK => ?_
  unfold Oper.wp execOp
  simp only [ho, hx, XN, Value.cells, Sem.run_bind, Instr.box, newVar, newRow, run_newObj_alloc, Sem.run_pure, Result.andThen_ok]
  exact hK _ _ (h _ ⟨_, heap_alloc_new w _⟩ (Array.getElem?_eq_some_iff.1 (heap_alloc_new w _)).1 ((Below.refl _ _).alloc (Nat.le_refl _) _))

theorem Xk (hgd : o.guard = none) (t : TypeId) (ho : o.op = .alloc t) (K : IntKind) (n : Nat) (hz : (P.info? t).bind (·.zero) = some (.agg (Array.replicate n (Value.int K 0))))
    (h : ∀ w1, Y4 K w1 w.heap.size (List.replicate n 0) -> w.heap.size < w1.heap.size -> Below w.heap.size w w1 -> wpList P ops Q rest (a.put o.dst (.pointer (some ⟨w.heap.size, 0, none⟩))) w1) : wpList P ops Q (o :: rest) a w := by
  refine wpList_plain hgd fun Kq hK => ?_
  cases hi : P.info? t with
  | none => rw [hi] at hz; cases hz
  | some i =>
    rw [hi] at hz
    have hz' : i.zero = some (.agg (Array.replicate n (Value.int K 0))) := hz
    have hti : (typeInfo t).run P w = .ok i w := by simp [typeInfo, hi]
    unfold Oper.wp execOp
    simp only [ho, Sem.run_bind, Instr.alloc, zeroValue, hti, hz', newVar, newRow, run_newObj_alloc, Sem.run_pure, Result.andThen_ok, Value.cells]
    refine hK _ _ (h _ ⟨t, ?_⟩ (Array.getElem?_eq_some_iff.1 (heap_alloc_new w _)).1 ((Below.refl _ _).alloc (Nat.le_refl _) _))
    rw [heap_alloc_new]
    simp

theorem Y7 (hgd : o.guard = none) (ty : TypeId) (x : Operand) (ho : o.op = .load ty x) (n : Nat) (e : TypeId) (hu : P.underlying ty = some (.array n e)) (hi : (P.info? ty).map (·.size) = some n)
    (B : Nat) (hx : a.eval x = .pointer (some ⟨B, 0, none⟩)) (K : IntKind) (zs : List Int) (hz : Y4 K w B zs) (hn : zs.length = n)
    (h : wpList P ops Q rest (a.put o.dst (XN K zs)) w) : wpList P ops Q (o :: rest) a w := by
  obtain ⟨t, hz⟩ := hz
  exact wpList_load_row hgd ty x ho B hx t _ _ _ hz hu rfl (by rw [hi]; simp [hn]) h

theorem Zm (hgd : o.guard = none) (ty : TypeId) (x y : Operand) (ho : o.op = .store ty x y) (n : Nat) (hi : (P.info? ty).map (·.size) = some n)
    (B : Nat) (hx : a.eval x = .pointer (some ⟨B, 0, none⟩)) (K : IntKind) (zs ys : List Int) (hy : a.eval y = XN K ys) (hz : Y4 K w B zs) (hn : zs.length = n) (hm : ys.length = n)
    (h : Y4 K (w.setRow B (ys.map (Value.int K)).toArray) B ys -> wpList P ops Q rest (a.put o.dst undef) (w.setRow B (ys.map (Value.int K)).toArray)) : wpList P ops Q (o :: rest) a w := by
  have h' := h (hz.setRow ys)
  obtain ⟨t, hz⟩ := hz
  refine wpList_store_row hgd ty x y ho B _ hx hy t _ hz (by rw [hi]; simp [hm]) (by simp [hn, hm]) ?_ h'
  simp [Value.oneCell']

theorem Fd (ty : TypeId) (n : Nat) (e : TypeId) (hu : P.underlying ty = some (.array n e)) (d : TypeDesc) (he : P.underlying e = some d) (hd : (match d with | .struct _ | .array _ _ => true | _ => false) = false)
    (hi : (P.info? e).map (·.size) = some 1) (K : IntKind) (zs : List Int) (hn : zs.length = n) (i : Int) (h0 : 0 <= i) (h1 : i < n) :
    (Instr.index ty (XN K zs) (.int .i64 i)).run P w = .ok (.int K (Qb zs i.toNat)) w := by
  cases hq : P.info? e with
  | none => rw [hq] at hi; cases hi
  | some q =>
    have hs : q.size = 1 := by simpa [hq] using hi
    have hlt : i.toNat < zs.length := by omega
    have hagg : (isAgg e).run P w = .ok false w := by
      unfold isAgg
      rw [Sem.run_bind, run_underlying he w]
      cases d <;> simp_all
    simp [Instr.index, XN, asIntOf, Sem.run_bind, run_underlying hu w, h0, h1, sizeOf, typeInfo, hq, hs, part, hagg, hlt, Qb]

theorem YW {fn : Func} {p : Tmp} {ty : TypeId} (h : fn.results = #[.cell p ty]) (tmps : Array Value) (n : Nat) (e : TypeId) (hu : P.underlying ty = some (.array n e)) (hi : (P.info? ty).map (·.size) = some n)
    (B : Nat) (hp : tmps.getD p undef = .pointer (some ⟨B, 0, none⟩)) (K : IntKind) (zs : List Int) (hz : Y4 K w B zs) (hn : zs.length = n) : (results fn tmps).run P w = .ok (XN K zs) w := by
  obtain ⟨t, hz⟩ := hz
  exact results_cell_row h tmps w B t _ _ _ hp hz hu rfl (by rw [hi]; simp [hn])
end
end Go.Proofs.YtbiboamaigedjaaGreatDoor
namespace Go.Proofs.YtbiboamaigedjaaGreatDoor
open Go.ChangeShapes Go.WideShapes Go.ChangeAt Go.RowKit
set_option linter.unusedVariables false

theorem Gk : ∀ (n : Nat) (K : IntKind) (cs : List Value), cs.length = n -> (∀ i, i < n -> ∃ x, (cs.drop i).take 1 = [.int K x] /\ (Lit.int K x).wf = true) -> ∃ zs : List Int, cs = zs.map (Value.int K) /\ zs.length = n /\ ∀ x ∈ zs, (Lit.int K x).wf = true
  | 0, K, cs, hl, _ => ⟨[], by simpa using List.eq_nil_of_length_eq_zero hl, rfl, fun x hx => by cases hx⟩
  | n + 1, K, [], hl, _ => by simp at hl
  | n + 1, K, c :: cs, hl, h => by
    obtain ⟨x, hx, hw⟩ := h 0 (by omega)
    obtain ⟨zs, h1, h2, h3⟩ := Gk n K cs (by simpa using hl) fun i hi => by simpa using h (i + 1) (by omega)
    simp at hx
    refine ⟨x :: zs, by simp [hx, h1], by simp [h2], fun y hy => ?_⟩
    rcases List.mem_cons.1 hy with rfl | hy
    . exact hw
    . exact h3 y hy
/-- An array of numbers that came in. -/
theorem Qfg {P : Program} {H : Type} {enc : TypeId × Value -> H} {W : World} {t e : TypeId} {K : IntKind} {n : Nat} {v : Value} {d : DataW H} {p : List MemPlace}
    (ht : P.underlying t = some (.array n e)) (he : P.underlying e = some (.int K)) (hc : P.cellsOf e = 1) (hct : P.cellsOf t = n) (hn : n ≠ 1) (h0 : DataW.Trod enc P W 0 (fun _ => true) true t v d p) :
    ∃ zs, v = XN K zs /\ zs.length = n /\ p = [] /\ ∀ x ∈ zs, (Lit.int K x).wf = true := by
  obtain ⟨fuel, hf⟩ := h0
  obtain ⟨xs, m, rfl, hx, hl, hxl, hi⟩ := DataW.trod_array ht hf
  rw [hct] at hl
  rw [hc] at hi
  have hone : ∀ i, i < n -> ∃ x, ((v.cells.toList).drop i).take 1 = [.int K x] /\ (Lit.int K x).wf = true := fun i hin => by
    have h := hi i hin
    rw [Nat.mul_one] at h
    have hsome : xs[i]? = some xs[i] := List.getElem?_eq_getElem (by omega)
    rw [hsome] at h
    obtain ⟨x, h1, h2, h3⟩ := DataW.trod_int he h
    exact ⟨x, h1, h3⟩
  have hp : ∀ y ∈ xs, y.2 = [] := fun y hy => by
    obtain ⟨i, hil, hiy⟩ := List.getElem_of_mem hy
    have h := hi i (by omega)
    have hsome : xs[i]? = some xs[i] := List.getElem?_eq_getElem hil
    rw [hsome] at h
    obtain ⟨x, h1, h2, h3⟩ := DataW.trod_int he h
    rw [<- hiy, h2]
  obtain ⟨zs, h1, h2, h3⟩ := Gk n K v.cells.toList hl hone
  refine ⟨zs, ?_, h2, ?_, h3⟩
  . cases v with
    | agg cs =>
      simp only [Value.cells] at h1
      rw [XN, <- h1]
    | _ => simp [Value.cells] at hl; omega
  . simp only [Prod.mk.injEq] at hx
    rw [hx.2]
    exact List.flatMap_eq_nil_iff.2 hp
end Go.Proofs.YtbiboamaigedjaaGreatDoor
namespace Go.Proofs.YtbiboamaigedjaaGreatDoor
open Go.RowKit
set_option linter.unusedVariables false
set_option linter.unusedSimpArgs false
set_option maxRecDepth 8000
set_option maxHeartbeats 2000000

theorem Kr (x y n : Nat) (hx : x % 2 ^ n = 0) (hy : y < 2 ^ n) : x ||| y = x + y := by
  have hx' : x = (x / 2 ^ n) <<< n := by
    rw [Nat.shiftLeft_eq]
    have := Nat.div_add_mod x (2 ^ n)
    rw [hx, Nat.add_zero, Nat.mul_comm] at this
    exact this.symm
  rw [hx', <- Nat.shiftLeft_add_eq_or_of_lt hy]
theorem UH (x y : Int) (n : Nat) (hx0 : 0 <= x) (hx1 : x < 18446744073709551616) (hx : x % 2 ^ n = 0) (hy0 : 0 <= y) (hy1 : y < 2 ^ n) (hy2 : y < 18446744073709551616) : bits .or .u64 x y = x + y := by
  obtain ⟨a, rfl⟩ := Int.eq_ofNat_of_zero_le hx0
  obtain ⟨b, rfl⟩ := Int.eq_ofNat_of_zero_le hy0
  rw [u64_or_nat a b (by omega) (by omega), Kr a b n (by exact_mod_cast hx) (by exact_mod_cast hy1)]
  rfl
theorem Y8 (x : Int) (n m : Nat) (hm : m = 2 ^ n - 1) (hn : m < 18446744073709551616) (hx0 : 0 <= x) (hx1 : x < 18446744073709551616) : bits .and .u64 x (m : Int) = x % 2 ^ n := by
  obtain ⟨a, rfl⟩ := Int.eq_ofNat_of_zero_le hx0
  rw [u64_and_nat a m (by omega) hn, hm, Nat.and_two_pow_sub_one_eq_mod]
  clear hx0 hx1 hn hm
  rw [Int.natCast_emod, Int.natCast_pow]
  rfl
theorem Yf (x : Int) : IntKind.u64.wrap x = x % 18446744073709551616 := IntKind.wrap_u64 x
theorem V6 {p : Int -> Prop} (h : ∀ n, n < 256 -> p (n : Nat)) {x : Int} (hx : 0 <= x /\ x <= 255) : p x := by
  obtain ⟨n, rfl⟩ := Int.eq_ofNat_of_zero_le hx.1
  exact h n (by omega)
theorem Qh6 {x : Int} (hx : 0 <= x /\ x <= 255) : bits BinOp.and IntKind.u8 x 248 = x / 8 * 8 :=
  V6 (p := fun x => bits BinOp.and IntKind.u8 x 248 = x / 8 * 8) (by decide +kernel) hx
theorem Qh7 {x : Int} (hx : 0 <= x /\ x <= 255) : bits BinOp.or IntKind.u8 (bits BinOp.and IntKind.u8 x 127) 64 = x % 64 + 64 :=
  V6 (p := fun x => bits BinOp.or IntKind.u8 (bits BinOp.and IntKind.u8 x 127) 64 = x % 64 + 64) (by decide +kernel) hx
/-- XD are words of 64 bits. -/
def QC (l : List Int) : Prop := ∀ x ∈ l, 0 <= x /\ x < 18446744073709551616
theorem QC.at {l : List Int} (h : QC l) (k : Nat) : 0 <= Qb l k /\ Qb l k < 18446744073709551616 := by
  by_cases hk : k < l.length
  . exact h _ (JY hk)
  . simp [Qb, hk]
/-- The i-th byte of words, the lowest first. -/
def HW (zs : List Int) (i : Nat) : Int := Qb zs (i / 8) / 2 ^ (8 * (i % 8)) % 256
def VK (zs : List Int) (n : Nat) : List Int := (List.range n).map (HW zs)
/-- The first m bytes of the j-th word, the lowest first. -/
def Q0 (za : List Int) (j : Nat) : Nat -> Int
  | 0 => 0
  | m + 1 => Q0 za j m + Qb za (8 * j + m) * 2 ^ (8 * m)
def Ue (za : List Int) (n : Nat) : List Int := (List.range n).map fun j => Q0 za j 8
theorem KS (za : List Int) (hb : Qh za) (j m : Nat) (hm : m <= 8) : 0 <= Q0 za j m /\ Q0 za j m < 2 ^ (8 * m) := by
  induction m with
  | zero => exact ⟨by simp [Q0], by simp [Q0]⟩
  | succ m ih =>
    have := ih (by omega)
    have hx := hb.at (8 * j + m)
    simp only [Q0]
    rw [show 8 * (m + 1) = 8 * m + 8 by omega, Int.pow_add]
    generalize hp : (2 : Int) ^ (8 * m) = p at *
    generalize Qb za (8 * j + m) = x at *
    have hp0 : 0 < p := by rw [<- hp]; exact Int.pow_pos (by omega)
    have h1 : 0 <= x * p := Int.mul_nonneg hx.1 (by omega)
    have h2 : x * p <= 255 * p := Int.mul_le_mul_of_nonneg_right hx.2 (by omega)
    constructor
    . omega
    . have : p * 2 ^ 8 = 255 * p + p := by omega
      omega
theorem QdT (p c : Int) (m : Nat) (hm : m < 8) (hp : 0 <= p /\ p < 2 ^ (8 * m)) (hc : 0 <= c /\ c <= 255) :
    bits BinOp.or IntKind.u64 p (IntKind.u64.wrap (c * 2 ^ (8 * m))) = p + c * 2 ^ (8 * m) := by
  have e : IntKind.u64.wrap (c * 2 ^ (8 * m)) = c * 2 ^ (8 * m) /\ 0 <= c * 2 ^ (8 * m) /\ c * 2 ^ (8 * m) < 18446744073709551616 /\ (2 : Int) ^ (8 * m) <= 18446744073709551616 := by
    rw [Yf]
    obtain rfl | rfl | rfl | rfl | rfl | rfl | rfl | rfl : m = 0 \/ m = 1 \/ m = 2 \/ m = 3 \/ m = 4 \/ m = 5 \/ m = 6 \/ m = 7 := by omega
    all_goals
      simp only [Nat.reduceMul, Int.reducePow]
      omega
  obtain ⟨e1, e2, e3, e4⟩ := e
  rw [e1]
  have := UH (c * 2 ^ (8 * m)) p (8 * m) e2 e3 (Int.mul_emod_left _ _) hp.1 hp.2 (by omega)
  rw [show bits BinOp.or IntKind.u64 p (c * 2 ^ (8 * m)) = bits BinOp.or IntKind.u64 (c * 2 ^ (8 * m)) p from by simp only [bits, BitVec.or_comm], this]
  omega
/-- What is borrowed. -/
def bor (x y b : Int) : Int := if x < y + b then 1 else 0
theorem QjW (x y b : Int) : bor x y b = 0 \/ bor x y b = 1 := by unfold bor; split <;> omega
/-- The borrow behind m words. -/
def KB (xs ys : List Int) : Nat -> Int
  | 0 => 0
  | m + 1 => bor (Qb xs m) (Qb ys m) (KB xs ys m)
theorem HI (xs ys : List Int) (m : Nat) : 0 <= KB xs ys m /\ KB xs ys m <= 1 := by
  cases m with
  | zero => simp [KB]
  | succ m => have := QjW (Qb xs m) (Qb ys m) (KB xs ys m); simp only [KB]; omega
def Qcl (xs ys : List Int) (m : Nat) : Int := (Qb xs m - Qb ys m - KB xs ys m) % 18446744073709551616
def Vs (xs ys : List Int) (n : Nat) : List Int := (List.range n).map (Qcl xs ys)
/-- The carry behind m words. -/
def crw (xs ys : List Int) : Nat -> Int
  | 0 => 0
  | m + 1 => (Qb xs m + Qb ys m + crw xs ys m) / 18446744073709551616
theorem Qes (xs ys : List Int) (hx : QC xs) (hy : QC ys) (m : Nat) : 0 <= crw xs ys m /\ crw xs ys m <= 1 := by
  induction m with
  | zero => simp [crw]
  | succ m ih => have := hx.at m; have := hy.at m; simp only [crw]; omega
def QfJ (xs ys : List Int) (m : Nat) : Int := (Qb xs m + Qb ys m + crw xs ys m) % 18446744073709551616
def Ea (xs ys : List Int) (n : Nat) : List Int := (List.range n).map (QfJ xs ys)
/-- The order's words. -/
def Uv : List Int := [6346243789798364141, 1503914060200516822, 0, 1152921504606846976]
theorem YJ : QC Uv := by unfold QC; decide
/-- A number of words, the lowest first. -/
def Qo (xs : List Int) : Nat -> Int
  | 0 => 0
  | m + 1 => Qo xs m + Qb xs m * 2 ^ (64 * m)
theorem ZL (xs : List Int) (hx : QC xs) (m : Nat) : 0 <= Qo xs m /\ Qo xs m < 2 ^ (64 * m) := by
  induction m with
  | zero => exact ⟨by simp [Qo], by simp [Qo]⟩
  | succ m ih =>
    have hy := hx.at m
    simp only [Qo]
    rw [show 64 * (m + 1) = 64 * m + 64 by omega, Int.pow_add]
    generalize hp : (2 : Int) ^ (64 * m) = p at *
    generalize Qb xs m = x at *
    have hp0 : 0 < p := by rw [<- hp]; exact Int.pow_pos (by omega)
    have h1 : 0 <= x * p := Int.mul_nonneg hy.1 (by omega)
    have h2 : x * p <= 18446744073709551615 * p := Int.mul_le_mul_of_nonneg_right (by omega) (by omega)
    constructor
    . omega
    . have : p * 2 ^ 64 = 18446744073709551615 * p + p := by omega
      omega
/-- A difference word by word is a difference. -/
theorem HX (xs ys : List Int) (hx : QC xs) (hy : QC ys) (n m : Nat) (hm : m <= n) : Qo (Vs xs ys n) m = Qo xs m - Qo ys m + KB xs ys m * 2 ^ (64 * m) := by
  induction m with
  | zero => simp [Qo, KB]
  | succ m ih =>
    have h0 := ih (by omega)
    have hxm := hx.at m
    have hym := hy.at m
    have hb := HI xs ys m
    have e : Qb (Vs xs ys n) m = Qcl xs ys m := by simp [Vs, Qb, show m < n by omega]
    simp only [Qo, KB, e, h0]
    rw [show 64 * (m + 1) = 64 * m + 64 by omega, Int.pow_add]
    generalize (2 : Int) ^ (64 * m) = p
    have hd : Qcl xs ys m = Qb xs m - Qb ys m - KB xs ys m + bor (Qb xs m) (Qb ys m) (KB xs ys m) * 18446744073709551616 := by
      unfold Qcl bor
      split <;> omega
    rw [hd]
    grind
theorem QfY (xs ys : List Int) (hx : QC xs) (hy : QC ys) (n m : Nat) (hm : m <= n) : Qo (Ea xs ys n) m + crw xs ys m * 2 ^ (64 * m) = Qo xs m + Qo ys m := by
  induction m with
  | zero => simp [Qo, crw]
  | succ m ih =>
    have h0 := ih (by omega)
    have e : Qb (Ea xs ys n) m = QfJ xs ys m := by simp [Ea, Qb, show m < n by omega]
    simp only [Qo, crw, e]
    rw [show 64 * (m + 1) = 64 * m + 64 by omega, Int.pow_add]
    generalize (2 : Int) ^ (64 * m) = p at *
    have hd : QfJ xs ys m + (Qb xs m + Qb ys m + crw xs ys m) / 18446744073709551616 * 18446744073709551616 = Qb xs m + Qb ys m + crw xs ys m := by
      unfold QfJ
      omega
    grind
theorem HH (xs ys : List Int) (hx : QC xs) (hy : QC ys) (n : Nat) : KB xs ys n = if Qo xs n < Qo ys n then 1 else 0 := by
  have h := HX xs ys hx hy n n (Nat.le_refl _)
  have hw : QC (Vs xs ys n) := by
    intro x hx
    simp only [Vs, List.mem_map] at hx
    obtain ⟨k, _, rfl⟩ := hx
    unfold Qcl
    omega
  have h1 := ZL (Vs xs ys n) hw n
  have h2 := ZL xs hx n
  have h3 := ZL ys hy n
  have hb := HI xs ys n
  generalize (2 : Int) ^ (64 * n) = p at *
  have : KB xs ys n = 0 \/ KB xs ys n = 1 := by omega
  rcases this with e | e
  . rw [e] at h ⊢; rw [if_neg (by omega)]
  . rw [e] at h ⊢; rw [if_pos (by omega)]
theorem Qmu (xs ys : List Int) (hx : QC xs) (hy : QC ys) (k : Nat) (hk : k < 4) (he : ∀ j, k < j -> j < 4 -> Qb xs j = Qb ys j) (hn : Qb xs k ≠ Qb ys k) : decide (Qb xs k < Qb ys k) = decide (Qo xs 4 < Qo ys 4) := by
  have x0 := hx.at 0; have x1 := hx.at 1; have x2 := hx.at 2; have x3 := hx.at 3
  have y0 := hy.at 0; have y1 := hy.at 1; have y2 := hy.at 2; have y3 := hy.at 3
  have e : (Qb xs k < Qb ys k) ↔ (Qo xs 4 < Qo ys 4) := by
    simp only [Qo, Nat.reduceMul, Int.reducePow]
    obtain rfl | rfl | rfl | rfl : k = 0 \/ k = 1 \/ k = 2 \/ k = 3 := by omega
    . have := he 1 (by omega) (by omega); have := he 2 (by omega) (by omega); have := he 3 (by omega) (by omega)
      omega
    . have := he 2 (by omega) (by omega); have := he 3 (by omega) (by omega)
      omega
    . have := he 3 (by omega) (by omega)
      omega
    . omega
  exact decide_eq_decide.2 e
theorem Qbq (za : List Int) (hb : Qh za) (n : Nat) : QC (Ue za n) := by
  intro x hx
  simp only [Ue, List.mem_map] at hx
  obtain ⟨k, _, rfl⟩ := hx
  have := KS za hb k 8 (Nat.le_refl _)
  simp only [Nat.reduceMul, Int.reducePow] at this
  exact this
/-- The n lowest words of a number. -/
def Qn (n : Nat) (v : Int) : List Int := (List.range n).map fun j => v / 2 ^ (64 * j) % 18446744073709551616
theorem QH (n : Nat) (v : Int) : QC (Qn n v) := by
  intro x hx
  simp only [Qn, List.mem_map] at hx
  obtain ⟨j, _, rfl⟩ := hx
  omega
theorem Qc (n : Nat) (v : Int) : (Qn n v).length = n := by simp [Qn]
theorem Gs (n : Nat) (v : Int) (j : Nat) (h : j < n) : Qb (Qn n v) j = v / 2 ^ (64 * j) % 18446744073709551616 := by simp [Qn, Qb, h]
theorem Uq (m : Nat) : (2 : Int) ^ (64 * (m + 1)) = 2 ^ (64 * m) * 18446744073709551616 := by rw [show 64 * (m + 1) = 64 * m + 64 by omega, Int.pow_add]; rfl
theorem Xq (m : Nat) : (0 : Int) < 2 ^ m := Int.pow_pos (by omega)
theorem Qas (xs : List Int) (hx : QC xs) (n m : Nat) (h : m < n) : Qo xs n / 2 ^ (64 * m) % 18446744073709551616 = Qb xs m := by
  induction n with
  | zero => omega
  | succ n ih =>
    have hp := Xq (64 * m)
    by_cases e : m = n
    . subst e
      have h1 := ZL xs hx m
      have h2 := hx.at m
      simp only [Qo]
      rw [Int.add_mul_ediv_right _ _ (by omega), Int.ediv_eq_zero_of_lt h1.1 h1.2, Int.zero_add, Int.emod_eq_of_lt h2.1 h2.2]
    . have hmn : m < n := by omega
      rw [<- ih hmn]
      simp only [Qo]
      obtain ⟨d, rfl⟩ : ∃ d, n = m + 1 + d := ⟨n - m - 1, by omega⟩
      have e2 : (2 : Int) ^ (64 * (m + 1 + d)) = 2 ^ (64 * m) * (18446744073709551616 * 2 ^ (64 * d)) := by
        rw [show 64 * (m + 1 + d) = 64 * (m + 1) + 64 * d by omega, Int.pow_add, Uq, Int.mul_assoc]
      rw [e2, show Qb xs (m + 1 + d) * (2 ^ (64 * m) * (18446744073709551616 * 2 ^ (64 * d))) = (Qb xs (m + 1 + d) * 2 ^ (64 * d) * 18446744073709551616) * 2 ^ (64 * m) by
        rw [<- Int.mul_assoc, <- Int.mul_assoc, Int.mul_right_comm _ 18446744073709551616 _, Int.mul_right_comm _ (2 ^ (64 * m)) _, Int.mul_right_comm _ (2 ^ (64 * m)) _]]
      rw [Int.add_mul_ediv_right _ _ (by omega), Int.add_mul_emod_self_right]
theorem Gc (xs : List Int) (hx : QC xs) (n : Nat) (hl : xs.length = n) : xs = Qn n (Qo xs n) := by
  apply QZ (by rw [Qc, hl])
  intro j hj
  rw [Gs n _ j (by omega), Qas xs hx n j (by omega)]
theorem Gz (n : Nat) (v : Int) (h0 : 0 <= v) : Qo (Qn n v) n = v % 2 ^ (64 * n) := by
  have : ∀ m, m <= n -> Qo (Qn n v) m = v % 2 ^ (64 * m) := by
    intro m
    induction m with
    | zero => intro _; simp [Qo]
    | succ m ih =>
      intro hm
      have hp := Xq (64 * m)
      simp only [Qo]
      rw [ih (by omega), Gs n v m (by omega), Uq]
      have h1 := Int.emod_add_mul_ediv v (2 ^ (64 * m))
      have h2 := Int.emod_add_mul_ediv v (2 ^ (64 * m) * 18446744073709551616)
      have h3 := Int.emod_add_mul_ediv (v / 2 ^ (64 * m)) 18446744073709551616
      have h4 : v / 2 ^ (64 * m) / 18446744073709551616 = v / (2 ^ (64 * m) * 18446744073709551616) := Int.ediv_ediv_of_nonneg (by omega)
      generalize (2 : Int) ^ (64 * m) = p at *
      rw [h4] at h3
      generalize v / (p * 18446744073709551616) = q at *
      generalize v / p % 18446744073709551616 = r at *
      generalize v % (p * 18446744073709551616) = s at *
      grind
  exact this n (Nat.le_refl _)
/-- A number's bit. -/
def F2 (xs : List Int) (j : Nat) : Int := Qb xs (j / 64) / 2 ^ (j % 64) % 2
theorem F1 (xs : List Int) (j : Nat) : 0 <= F2 xs j /\ F2 xs j <= 1 := by unfold F2; omega
/-- The bit of a number is the bit of its words. -/
theorem QbX (xs : List Int) (hx : QC xs) (n j : Nat) (h : j < 64 * n) : F2 xs j = Qo xs n / 2 ^ j % 2 := by
  unfold F2
  have hm : j / 64 < n := by omega
  rw [<- Qas xs hx n (j / 64) hm]
  have e : (2 : Int) ^ j = 2 ^ (64 * (j / 64)) * 2 ^ (j % 64) := by rw [<- Int.pow_add]; congr 1; omega
  rw [e, <- Int.ediv_ediv_of_nonneg (Int.le_of_lt (Xq _))]
  generalize Qo xs n / 2 ^ (64 * (j / 64)) = y
  have hj : j % 64 < 64 := by omega
  generalize j % 64 = t at *
  have e2 : (18446744073709551616 : Int) = 2 ^ t * (2 * 2 ^ (63 - t)) := by
    rw [<- Int.mul_assoc, Int.mul_comm (2 ^ t) 2, show (2 : Int) * 2 ^ t = 2 ^ (t + 1) by rw [Int.pow_succ, Int.mul_comm], <- Int.pow_add, show t + 1 + (63 - t) = 64 by omega]
    rfl
  have hp := Xq t
  have h1 := Int.emod_add_mul_ediv y 18446744073709551616
  conv => rhs; rw [<- h1]
  rw [e2]
  generalize y / (2 ^ t * (2 * 2 ^ (63 - t))) = q
  generalize y % (2 ^ t * (2 * 2 ^ (63 - t))) = r
  rw [show r + 2 ^ t * (2 * 2 ^ (63 - t)) * q = r + (2 * (2 ^ (63 - t) * q)) * 2 ^ t by grind, Int.add_mul_ediv_right _ _ (by omega), Int.add_mul_emod_self_left]
theorem Jv (v : Int) (j : Nat) : v / 2 ^ j = 2 * (v / 2 ^ (j + 1)) + v / 2 ^ j % 2 := by
  have e : v / 2 ^ (j + 1) = v / 2 ^ j / 2 := by rw [Int.pow_succ, <- Int.ediv_ediv_of_nonneg (Int.le_of_lt (Xq j))]
  rw [e]
  omega
theorem Fb (xs ys : List Int) (n : Nat) : QC (Vs xs ys n) := by
  intro x hx
  simp only [Vs, List.mem_map] at hx
  obtain ⟨m, _, rfl⟩ := hx
  unfold Qcl
  omega
theorem XB {v : Int} (h0 : 0 <= v) (h1 : v < 2 ^ 256) : Qo (Qn 4 v) 4 = v := by
  rw [Gz 4 v h0]
  simp only [Nat.reduceMul, Int.reducePow] at *
  omega
theorem JR {xs : List Int} {v : Int} (hx : QC xs) (hl : xs.length = 4) (h : Qo xs 4 = v) : xs = Qn 4 v := by
  subst h
  exact Gc xs hx 4 hl
theorem F9 (xs ys : List Int) (n : Nat) : QC (Ea xs ys n) := by
  intro x hx
  simp only [Ea, List.mem_map] at hx
  obtain ⟨m, _, rfl⟩ := hx
  unfold QfJ
  omega
theorem QaK {u v : Int} (hu : 0 <= u /\ u < 2 ^ 256) (hv : 0 <= v /\ v < 2 ^ 256) : Vs (Qn 4 u) (Qn 4 v) 4 = Qn 4 ((u - v) % 2 ^ 256) /\ KB (Qn 4 u) (Qn 4 v) 4 = if u < v then 1 else 0 := by
  have hb := HH (Qn 4 u) (Qn 4 v) (QH _ _) (QH _ _) 4
  rw [XB hu.1 hu.2, XB hv.1 hv.2] at hb
  refine ⟨JR (Fb _ _ _) (by simp [Vs]) ?_, hb⟩
  rw [HX _ _ (QH _ _) (QH _ _) 4 4 (Nat.le_refl _), XB hu.1 hu.2, XB hv.1 hv.2, hb]
  simp only [Nat.reduceMul, Int.reducePow] at *
  split <;> omega
/-- A number's value, by its bytes. -/
def Qq (zs : List Int) : Nat -> Int
  | 0 => 0
  | m + 1 => Qq zs m + Qb zs m * 2 ^ (8 * m)
theorem UG (zs : List Int) (hz : Qh zs) (m : Nat) : 0 <= Qq zs m /\ Qq zs m < 2 ^ (8 * m) := by
  induction m with
  | zero => exact ⟨by simp [Qq], by simp [Qq]⟩
  | succ m ih =>
    have hy := hz.at m
    simp only [Qq]
    rw [show 8 * (m + 1) = 8 * m + 8 by omega, Int.pow_add]
    generalize hp : (2 : Int) ^ (8 * m) = p at *
    generalize Qb zs m = x at *
    have hp0 : 0 < p := by rw [<- hp]; exact Int.pow_pos (by omega)
    have h1 : 0 <= x * p := Int.mul_nonneg hy.1 (by omega)
    have h2 : x * p <= 255 * p := Int.mul_le_mul_of_nonneg_right (by omega) (by omega)
    constructor
    . omega
    . have : p * 2 ^ 8 = 255 * p + p := by omega
      omega
theorem Ui (za : List Int) (j m : Nat) : Qq za (8 * j + m) = Qq za (8 * j) + Q0 za j m * 2 ^ (64 * j) := by
  induction m with
  | zero => simp [Q0]
  | succ m ih =>
    rw [show 8 * j + (m + 1) = 8 * j + m + 1 by omega]
    simp only [Qq, ih, Q0]
    rw [show 8 * (8 * j + m) = 8 * m + 64 * j by omega, Int.pow_add]
    generalize (2 : Int) ^ (8 * m) = p
    generalize (2 : Int) ^ (64 * j) = q
    grind
theorem QeL (za : List Int) (n j : Nat) (h : j <= n) : Qo (Ue za n) j = Qq za (8 * j) := by
  induction j with
  | zero => rfl
  | succ j ih =>
    have e : Qb (Ue za n) j = Q0 za j 8 := by simp [Ue, Qb, show j < n by omega]
    rw [show 8 * (j + 1) = 8 * j + 8 by omega, Ui]
    simp only [Qo, ih (by omega), e]
theorem QdY (za : List Int) (hz : Qh za) (n : Nat) : Ue za n = Qn n (Qq za (8 * n)) := by
  have h := Gc (Ue za n) (Qbq za hz n) n (by simp [Ue])
  rw [QeL za n n (Nat.le_refl _)] at h
  exact h
theorem YT (za : List Int) (hz : Qh za) : 0 <= Qq za 32 /\ Qq za 32 < 2 ^ 256 := UG za hz 32
/-- The bytes of a number. -/
def Xf (v : Int) : List Int := VK (Qn 4 v) 32
theorem QP (v : Int) : (Xf v).length = 32 := by simp [Xf, VK]
theorem UU (v : Int) : Qh (Xf v) := by
  intro x hx
  simp only [Xf, VK, List.mem_map] at hx
  obtain ⟨k, _, rfl⟩ := hx
  unfold HW
  omega
theorem Gt (v : Int) (j : Nat) (h : j < 32) : Qb (Xf v) j = v / 2 ^ (8 * j) % 256 := by
  have e : Qb (Xf v) j = HW (Qn 4 v) j := by simp [Xf, VK, Qb, h]
  rw [e, HW, Gs 4 v _ (by omega)]
  have e2 : (2 : Int) ^ (8 * j) = 2 ^ (64 * (j / 8)) * 2 ^ (8 * (j % 8)) := by rw [<- Int.pow_add]; congr 1; omega
  rw [e2, <- Int.ediv_ediv_of_nonneg (Int.le_of_lt (Xq _))]
  generalize v / 2 ^ (64 * (j / 8)) = y
  have hj : j % 8 < 8 := by omega
  generalize j % 8 = t at *
  obtain rfl | rfl | rfl | rfl | rfl | rfl | rfl | rfl : t = 0 \/ t = 1 \/ t = 2 \/ t = 3 \/ t = 4 \/ t = 5 \/ t = 6 \/ t = 7 := by omega
  all_goals (simp only [Nat.reduceMul, Int.reducePow]; omega)
theorem JM (v : Int) (h0 : 0 <= v) (h1 : v < 2 ^ 256) : Qq (Xf v) 32 = v := by
  have : ∀ m, m <= 32 -> Qq (Xf v) m = v % 2 ^ (8 * m) := by
    intro m
    induction m with
    | zero => intro _; simp [Qq]
    | succ m ih =>
      intro hm
      have hp := Xq (8 * m)
      simp only [Qq]
      rw [ih (by omega), Gt v m (by omega), show 8 * (m + 1) = 8 * m + 8 by omega, Int.pow_add, show (2 : Int) ^ 8 = 256 from rfl]
      have h1 := Int.emod_add_mul_ediv v (2 ^ (8 * m))
      have h2 := Int.emod_add_mul_ediv v (2 ^ (8 * m) * 256)
      have h3 := Int.emod_add_mul_ediv (v / 2 ^ (8 * m)) 256
      have h4 : v / 2 ^ (8 * m) / 256 = v / (2 ^ (8 * m) * 256) := Int.ediv_ediv_of_nonneg (by omega)
      generalize (2 : Int) ^ (8 * m) = p at *
      rw [h4] at h3
      generalize v / (p * 256) = q at *
      generalize v / p % 256 = r at *
      generalize v % (p * 256) = s at *
      grind
  rw [this 32 (Nat.le_refl _)]
  simp only [Nat.reduceMul, Int.reducePow] at *
  omega
theorem Qbl {u v : Int} (hu : 0 <= u /\ u < 2 ^ 256) (hv : 0 <= v /\ v < 2 ^ 256) (h : Xf u = Xf v) : u = v := by
  rw [<- JM u hu.1 hu.2, h, JM v hv.1 hv.2]
/-- A bit of a number of bytes. -/
def GY (zs : List Int) (j : Nat) : Int := Qb zs (j / 8) / 2 ^ (j % 8) % 2
theorem Qid (zs : List Int) (j : Nat) : GY zs j = 0 \/ GY zs j = 1 := by unfold GY; omega
theorem Gn (zs : List Int) (hz : Qh zs) (n j : Nat) (h : j < 8 * n) : GY zs j = Qq zs n / 2 ^ j % 2 := by
  have key : ∀ n, j / 8 < n -> Qq zs n / 2 ^ (8 * (j / 8)) % 256 = Qb zs (j / 8) := by
    intro n
    induction n with
    | zero => omega
    | succ n ih =>
      intro hn
      have hp := Xq (8 * (j / 8))
      by_cases e : j / 8 = n
      . have h1 := UG zs hz n
        have h2 := hz.at n
        subst e
        simp only [Qq]
        rw [Int.add_mul_ediv_right _ _ (by omega), Int.ediv_eq_zero_of_lt h1.1 h1.2, Int.zero_add, Int.emod_eq_of_lt h2.1 (by omega)]
      . rw [<- ih (by omega)]
        simp only [Qq]
        obtain ⟨d, hd⟩ : ∃ d, n = j / 8 + 1 + d := ⟨n - j / 8 - 1, by omega⟩
        have e2 : (2 : Int) ^ (8 * n) = 2 ^ (8 * (j / 8)) * (256 * 2 ^ (8 * d)) := by
          rw [show (256 : Int) = 2 ^ 8 from rfl, <- Int.pow_add, <- Int.pow_add]; congr 1; omega
        rw [e2]
        generalize Qb zs n = x
        generalize (2 : Int) ^ (8 * d) = q
        generalize (2 : Int) ^ (8 * (j / 8)) = p at *
        rw [show x * (p * (256 * q)) = (x * q * 256) * p by grind, Int.add_mul_ediv_right _ _ (by omega), Int.add_mul_emod_self_right]
  unfold GY
  rw [<- key n (by omega)]
  have e : (2 : Int) ^ j = 2 ^ (8 * (j / 8)) * 2 ^ (j % 8) := by rw [<- Int.pow_add]; congr 1; omega
  rw [e, <- Int.ediv_ediv_of_nonneg (Int.le_of_lt (Xq _))]
  generalize Qq zs n / 2 ^ (8 * (j / 8)) = y
  have hj : j % 8 < 8 := by omega
  generalize j % 8 = t at *
  obtain rfl | rfl | rfl | rfl | rfl | rfl | rfl | rfl : t = 0 \/ t = 1 \/ t = 2 \/ t = 3 \/ t = 4 \/ t = 5 \/ t = 6 \/ t = 7 := by omega
  all_goals (simp only [Int.reducePow]; omega)
theorem Vp {x : Int} (h : 0 <= x /\ x <= 255) : bits BinOp.and IntKind.u8 x 1 = x % 2 := V6 (p := fun y => bits BinOp.and IntKind.u8 y 1 = y % 2) (by decide +kernel) h
theorem VL {x : Int} (h : 0 <= x /\ x <= 255) (t : Nat) : 0 <= x / 2 ^ t /\ x / 2 ^ t <= 255 := by
  have h1 : 0 <= x / 2 ^ t := Int.ediv_nonneg h.1 (Int.le_of_lt (Xq _))
  have h2 : x / 2 ^ t <= x := Int.ediv_le_self _ h.1
  omega
/-- The modulus. -/
def pV : Int := 57896044618658097711785492504343953926634992332820282019728792003956564819949
/-- What limbs stand for. -/
def YY (xs : List Int) : Int := Qb xs 0 + Qb xs 1 * 2 ^ 51 + Qb xs 2 * 2 ^ 102 + Qb xs 3 * 2 ^ 153 + Qb xs 4 * 2 ^ 204
/-- Limbs a little above 51 bits at most. -/
def X1 (xs : List Int) : Prop := ∀ k, 0 <= Qb xs k /\ Qb xs k < 2251799814209536
theorem JL {a b c d e : Int} (ha : 0 <= a /\ a < 18446744073709551616) (hb : 0 <= b /\ b < 18446744073709551616) (hc : 0 <= c /\ c < 18446744073709551616) (hd : 0 <= d /\ d < 18446744073709551616) (he : 0 <= e /\ e < 18446744073709551616) : QC [a, b, c, d, e] := by
  intro x hx
  simp only [List.mem_cons, List.not_mem_nil, or_false] at hx
  rcases hx with rfl | rfl | rfl | rfl | rfl <;> assumption
theorem YH {a b c d e : Int} (ha : 0 <= a /\ a < 2251799814209536) (hb : 0 <= b /\ b < 2251799814209536) (hc : 0 <= c /\ c < 2251799814209536) (hd : 0 <= d /\ d < 2251799814209536) (he : 0 <= e /\ e < 2251799814209536) : X1 [a, b, c, d, e] := by
  intro k
  match k with
  | 0 => exact ha
  | 1 => exact hb
  | 2 => exact hc
  | 3 => exact hd
  | 4 => exact he
  | k + 5 => exact ⟨by simp [Qb], by simp [Qb]⟩
theorem X1.words {xs : List Int} (h : X1 xs) : QC xs := fun x hx => by
  obtain ⟨i, hi, rfl⟩ := List.getElem_of_mem hx
  have := h i
  rw [F7 hi] at this
  omega
/-- A number modulo p, as five limbs. -/
structure Xo (xs : List Int) (v : Int) : Prop where
  len : xs.length = 5
  small : X1 xs
  val : YY xs % pV = v
theorem Xo.words {xs : List Int} {v : Int} (h : Xo xs v) : QC xs := h.small.words
theorem Vy (v : Int) : 0 <= v % pV /\ v % pV < pV := by unfold pV; omega
theorem G7 (v k : Int) : (v - k * pV) % pV = v % pV := by
  rw [show v - k * pV = v + (-k) * pV by rw [Int.neg_mul]; rfl, Int.add_mul_emod_self_right]
def QB (x : List Int) : List Int :=
  [Qb x 0 % 2251799813685248 + Qb x 4 / 2251799813685248 * 19, Qb x 1 % 2251799813685248 + Qb x 0 / 2251799813685248, Qb x 2 % 2251799813685248 + Qb x 1 / 2251799813685248,
   Qb x 3 % 2251799813685248 + Qb x 2 / 2251799813685248, Qb x 4 % 2251799813685248 + Qb x 3 / 2251799813685248]
theorem Yn (x : List Int) (hx : QC x) : Xo (QB x) (YY x % pV) := by
  have h0 := hx.at 0; have h1 := hx.at 1; have h2 := hx.at 2; have h3 := hx.at 3; have h4 := hx.at 4
  refine ⟨rfl, YH (by omega) (by omega) (by omega) (by omega) (by omega), ?_⟩
  have e : YY (QB x) = YY x - Qb x 4 / 2251799813685248 * pV := by
    unfold pV
    simp only [YY, QB, Zq, Zb, Int.reducePow]
    omega
  rw [e, G7]
def EH (x y : List Int) : List Int := [Qb x 0 + Qb y 0, Qb x 1 + Qb y 1, Qb x 2 + Qb y 2, Qb x 3 + Qb y 3, Qb x 4 + Qb y 4]
theorem G9 {x y : List Int} (hx : X1 x) (hy : X1 y) : QC (EH x y) := by
  have h0 := hx 0; have h1 := hx 1; have h2 := hx 2; have h3 := hx 3; have h4 := hx 4
  have g0 := hy 0; have g1 := hy 1; have g2 := hy 2; have g3 := hy 3; have g4 := hy 4
  exact JL (by omega) (by omega) (by omega) (by omega) (by omega)
theorem Qa5 {x y : List Int} {u v : Int} (hx : Xo x u) (hy : Xo y v) : Xo (QB (EH x y)) ((u + v) % pV) := by
  have h := Yn _ (G9 hx.small hy.small)
  have e : YY (EH x y) = YY x + YY y := by
    simp only [YY, EH, Zq, Zb, Int.reducePow]
    omega
  rw [e, Int.add_emod, hx.val, hy.val] at h
  exact h
def YN (x y : List Int) : List Int := [Qb x 0 + (4503599627370458 - Qb y 0), Qb x 1 + (4503599627370494 - Qb y 1), Qb x 2 + (4503599627370494 - Qb y 2), Qb x 3 + (4503599627370494 - Qb y 3), Qb x 4 + (4503599627370494 - Qb y 4)]
theorem K3 {x y : List Int} (hx : X1 x) (hy : X1 y) : QC (YN x y) := by
  have h0 := hx 0; have h1 := hx 1; have h2 := hx 2; have h3 := hx 3; have h4 := hx 4
  have g0 := hy 0; have g1 := hy 1; have g2 := hy 2; have g3 := hy 3; have g4 := hy 4
  exact JL (by omega) (by omega) (by omega) (by omega) (by omega)
theorem Uz {x y : List Int} {u v : Int} (hx : Xo x u) (hy : Xo y v) : Xo (QB (YN x y)) ((u - v) % pV) := by
  have h := Yn _ (K3 hx.small hy.small)
  have e : YY (YN x y) = YY x - YY y + 2 * pV := by
    unfold pV
    simp only [YY, YN, Zq, Zb, Int.reducePow]
    omega
  rw [e, Int.add_mul_emod_self_right, Int.sub_emod, hx.val, hy.val] at h
  exact h
/-- The five sums of products. -/
def Q5 (x y : List Int) : Nat -> Int
  | 0 => Qb x 0 * Qb y 0 + Qb x 1 * 19 * Qb y 4 + Qb x 2 * 19 * Qb y 3 + Qb x 3 * 19 * Qb y 2 + Qb x 4 * 19 * Qb y 1
  | 1 => Qb x 0 * Qb y 1 + Qb x 1 * Qb y 0 + Qb x 2 * 19 * Qb y 4 + Qb x 3 * 19 * Qb y 3 + Qb x 4 * 19 * Qb y 2
  | 2 => Qb x 0 * Qb y 2 + Qb x 1 * Qb y 1 + Qb x 2 * Qb y 0 + Qb x 3 * 19 * Qb y 4 + Qb x 4 * 19 * Qb y 3
  | 3 => Qb x 0 * Qb y 3 + Qb x 1 * Qb y 2 + Qb x 2 * Qb y 1 + Qb x 3 * Qb y 0 + Qb x 4 * 19 * Qb y 4
  | _ => Qb x 0 * Qb y 4 + Qb x 1 * Qb y 3 + Qb x 2 * Qb y 2 + Qb x 3 * Qb y 1 + Qb x 4 * Qb y 0
theorem Qi6 (x0 x1 x2 x3 x4 y0 y1 y2 y3 y4 b : Int) :
    (x0 + x1 * b + x2 * (b * b) + x3 * (b * b * b) + x4 * (b * b * b * b)) * (y0 + y1 * b + y2 * (b * b) + y3 * (b * b * b) + y4 * (b * b * b * b)) =
    (x0 * y0 + x1 * 19 * y4 + x2 * 19 * y3 + x3 * 19 * y2 + x4 * 19 * y1) + (x0 * y1 + x1 * y0 + x2 * 19 * y4 + x3 * 19 * y3 + x4 * 19 * y2) * b + (x0 * y2 + x1 * y1 + x2 * y0 + x3 * 19 * y4 + x4 * 19 * y3) * (b * b) +
    (x0 * y3 + x1 * y2 + x2 * y1 + x3 * y0 + x4 * 19 * y4) * (b * b * b) + (x0 * y4 + x1 * y3 + x2 * y2 + x3 * y1 + x4 * y0) * (b * b * b * b) +
    (b * b * b * b * b - 19) * (x1 * y4 + x2 * y3 + x3 * y2 + x4 * y1 + (x2 * y4 + x3 * y3 + x4 * y2) * b + (x3 * y4 + x4 * y3) * (b * b) + x4 * y4 * (b * b * b)) := by grind
def QdL (x y : List Int) : Int := Q5 x y 0 + Q5 x y 1 * 2 ^ 51 + Q5 x y 2 * 2 ^ 102 + Q5 x y 3 * 2 ^ 153 + Q5 x y 4 * 2 ^ 204
theorem Qe4 (x y : List Int) : QdL x y % pV = (YY x * YY y) % pV := by
  have h := Qi6 (Qb x 0) (Qb x 1) (Qb x 2) (Qb x 3) (Qb x 4) (Qb y 0) (Qb y 1) (Qb y 2) (Qb y 3) (Qb y 4) 2251799813685248
  have e1 : (2251799813685248 : Int) * 2251799813685248 = 2 ^ 102 := by decide +kernel
  have e2 : (2251799813685248 : Int) * 2251799813685248 * 2251799813685248 = 2 ^ 153 := by decide +kernel
  have e3 : (2251799813685248 : Int) * 2251799813685248 * 2251799813685248 * 2251799813685248 = 2 ^ 204 := by decide +kernel
  have e4 : (2251799813685248 : Int) * 2251799813685248 * 2251799813685248 * 2251799813685248 * 2251799813685248 - 19 = pV := by decide +kernel
  rw [e4, e3, e2, e1] at h
  have e : YY x * YY y = QdL x y + pV * (Qb x 1 * Qb y 4 + Qb x 2 * Qb y 3 + Qb x 3 * Qb y 2 + Qb x 4 * Qb y 1 + (Qb x 2 * Qb y 4 + Qb x 3 * Qb y 3 + Qb x 4 * Qb y 2) * 2251799813685248 + (Qb x 3 * Qb y 4 + Qb x 4 * Qb y 3) * 2 ^ 102 + Qb x 4 * Qb y 4 * 2 ^ 153) := h
  rw [e, Int.add_mul_emod_self_left]
theorem Qfr {a b A B : Int} (ha : 0 <= a /\ a < A) (hb : 0 <= b /\ b < B) : 0 <= a * b /\ a * b <= A * B := ⟨Int.mul_nonneg ha.1 hb.1, Int.mul_le_mul (by omega) (by omega) hb.1 (by omega)⟩
theorem GD {x y : List Int} (hx : X1 x) (hy : X1 y) (i j : Nat) : 0 <= Qb x i * Qb y j /\ Qb x i * Qb y j <= 5070602403274100847696513335296 := by
  have h := Qfr (hx i) (hy j)
  refine ⟨h.1, Int.le_trans h.2 (by decide)⟩
/-- The limbs ahead of the carry. -/
def XT (x y : List Int) : List Int :=
  [Q5 x y 0 % 2251799813685248 + Q5 x y 4 / 2251799813685248 * 19, Q5 x y 1 % 2251799813685248 + Q5 x y 0 / 2251799813685248, Q5 x y 2 % 2251799813685248 + Q5 x y 1 / 2251799813685248,
   Q5 x y 3 % 2251799813685248 + Q5 x y 2 / 2251799813685248, Q5 x y 4 % 2251799813685248 + Q5 x y 3 / 2251799813685248]
theorem XQ {x y : List Int} (hx : X1 x) (hy : X1 y) (k : Nat) : 0 <= Q5 x y k /\ Q5 x y k <= 77 * 5070602403274100847696513335296 := by
  have m := GD hx hy
  have c : ∀ i j, Qb x i * 19 * Qb y j = Qb x i * Qb y j * 19 := fun i j => by rw [Int.mul_right_comm]
  match k with
  | 0 => have := m 0 0; have := m 1 4; have := m 2 3; have := m 3 2; have := m 4 1; simp only [Q5, c]; omega
  | 1 => have := m 0 1; have := m 1 0; have := m 2 4; have := m 3 3; have := m 4 2; simp only [Q5, c]; omega
  | 2 => have := m 0 2; have := m 1 1; have := m 2 0; have := m 3 4; have := m 4 3; simp only [Q5, c]; omega
  | 3 => have := m 0 3; have := m 1 2; have := m 2 1; have := m 3 0; have := m 4 4; simp only [Q5, c]; omega
  | k + 4 => have := m 0 4; have := m 1 3; have := m 2 2; have := m 3 1; have := m 4 0; simp only [Q5]; omega
theorem KQ {x y : List Int} (hx : X1 x) (hy : X1 y) : Q5 x y 4 <= 5 * 5070602403274100847696513335296 := by
  have m := GD hx hy
  have := m 0 4; have := m 1 3; have := m 2 2; have := m 3 1; have := m 4 0; simp only [Q5]; omega
theorem KG {x y : List Int} (hx : X1 x) (hy : X1 y) : QC (XT x y) := by
  have h0 := XQ hx hy 0; have h1 := XQ hx hy 1; have h2 := XQ hx hy 2; have h3 := XQ hx hy 3; have h4 := XQ hx hy 4
  have h5 := KQ hx hy
  exact JL (by omega) (by omega) (by omega) (by omega) (by omega)
theorem X3 {x y : List Int} {u v : Int} (hx : Xo x u) (hy : Xo y v) : Xo (QB (XT x y)) ((u * v) % pV) := by
  have h := Yn _ (KG hx.small hy.small)
  have e : YY (XT x y) = QdL x y - Q5 x y 4 / 2251799813685248 * pV := by
    unfold pV QdL
    simp only [YY, XT, Zq, Zb, Int.reducePow]
    generalize Q5 x y 0 = r0
    generalize Q5 x y 1 = r1
    generalize Q5 x y 2 = r2
    generalize Q5 x y 3 = r3
    generalize Q5 x y 4 = r4
    omega
  rw [e, G7, Qe4, Int.mul_emod, hx.val, hy.val] at h
  exact h
def Jt (za : List Int) : List Int :=
  [Q0 za 0 8 % 2251799813685248, (Q0 za 0 8 / 2251799813685248 + Q0 za 1 8 * 8192) % 2251799813685248, (Q0 za 1 8 / 274877906944 + Q0 za 2 8 * 67108864) % 2251799813685248,
   (Q0 za 2 8 / 33554432 + Q0 za 3 8 * 549755813888) % 2251799813685248, Q0 za 3 8 / 4096]
theorem X4 (za : List Int) (hb : Qh za) (j : Nat) : 0 <= Q0 za j 8 /\ Q0 za j 8 < 18446744073709551616 := by
  have := KS za hb j 8 (Nat.le_refl _)
  simp only [Nat.reduceMul, Int.reducePow] at this
  exact this
theorem Ha (za : List Int) (hb : Qh za) : QC (Jt za) := by
  have h0 := X4 za hb 0; have h1 := X4 za hb 1; have h2 := X4 za hb 2; have h3 := X4 za hb 3
  exact JL (by omega) (by omega) (by omega) (by omega) (by omega)
theorem EO (za : List Int) (hb : Qh za) : Xo (QB (Jt za)) (Qq za 32 % pV) := by
  have h := Yn _ (Ha za hb)
  have h0 := X4 za hb 0; have h1 := X4 za hb 1; have h2 := X4 za hb 2; have h3 := X4 za hb 3
  have e : YY (Jt za) = Qq za 32 := by
    have p3 := Ui za 3 8; have p2 := Ui za 2 8; have p1 := Ui za 1 8; have p0 := Ui za 0 8
    simp only [Nat.reduceMul, Nat.reduceAdd, Int.reducePow] at p0 p1 p2 p3
    have p00 : Qq za 0 = 0 := rfl
    rw [p3, p2, p1, p0, p00]
    simp only [YY, Jt, Zq, Zb, Int.reducePow]
    generalize Q0 za 0 8 = a at *
    generalize Q0 za 1 8 = b at *
    generalize Q0 za 2 8 = c at *
    generalize Q0 za 3 8 = d at *
    omega
  rw [e] at h
  exact h
theorem Kp (a b : Int) (n : Nat) (hn : n <= 64) (ha : 0 <= a /\ a < 2 ^ n) (hb : 0 <= b) : bits BinOp.or IntKind.u64 a (IntKind.u64.wrap (b * 2 ^ n)) = a + b * 2 ^ n % 18446744073709551616 := by
  rw [Yf]
  have hp : (0 : Int) < 2 ^ n := Int.pow_pos (by omega)
  have e64 : (18446744073709551616 : Int) = 2 ^ n * 2 ^ (64 - n) := by rw [<- Int.pow_add, show n + (64 - n) = 64 by omega]; rfl
  have hm : b * 2 ^ n % 18446744073709551616 % 2 ^ n = 0 := by
    rw [e64, Int.emod_emod_of_dvd _ (Int.dvd_mul_right _ _), Int.mul_emod_left]
  have hle : (2 : Int) ^ n <= 18446744073709551616 := by
    have h1 : (0 : Int) < 2 ^ (64 - n) := Int.pow_pos (by omega)
    have h2 : (2 : Int) ^ n * 1 <= 2 ^ n * 2 ^ (64 - n) := Int.mul_le_mul_of_nonneg_left (by omega) (by omega)
    omega
  have h := UH (b * 2 ^ n % 18446744073709551616) a n (by omega) (by omega) hm ha.1 ha.2 (by omega)
  rw [show bits BinOp.or IntKind.u64 a (b * 2 ^ n % 18446744073709551616) = bits BinOp.or IntKind.u64 (b * 2 ^ n % 18446744073709551616) a from by simp only [bits, BitVec.or_comm], h]
  omega
/-- A sum of 128 bits. -/
def wv (v : Int) : Value := XN .u64 [v / 18446744073709551616, v % 18446744073709551616]
/-- What runs over, with 19 more. -/
def Ec (cs : List Int) : Nat -> Int
  | 0 => (Qb cs 0 + 19) / 2251799813685248
  | k + 1 => (Qb cs (k + 1) + Ec cs k) / 2251799813685248
/-- The limbs, with what is carried into them. -/
def yS (cs : List Int) : Nat -> Int
  | 0 => Qb cs 0 + 19 * Ec cs 4
  | k + 1 => Qb cs (k + 1) + yS cs k / 2251799813685248
def dS (cs : List Int) (k : Nat) : Int := yS cs k % 2251799813685248
def QK (cs : List Int) : List Int := [dS cs 0 + dS cs 1 * 2251799813685248 % 18446744073709551616, dS cs 1 / 8192 + dS cs 2 * 274877906944 % 18446744073709551616, dS cs 2 / 67108864 + dS cs 3 * 33554432 % 18446744073709551616, dS cs 3 / 549755813888 + dS cs 4 * 4096 % 18446744073709551616]
theorem Qbh {cs : List Int} (hc : X1 cs) (k : Nat) : 0 <= Ec cs k /\ Ec cs k <= 1 := by
  induction k with
  | zero => have := hc 0; simp only [Ec]; omega
  | succ k ih => have := hc (k + 1); simp only [Ec]; omega
theorem ZK {cs : List Int} (hc : X1 cs) (k : Nat) : 0 <= yS cs k /\ yS cs k < 4503599627370496 := by
  have ho := Qbh hc 4
  induction k with
  | zero => have := hc 0; simp only [yS]; omega
  | succ k ih => have := hc (k + 1); simp only [yS]; omega
theorem ZR (cs : List Int) (k : Nat) : 0 <= dS cs k /\ dS cs k < 2251799813685248 := by unfold dS; omega
theorem QiA {cs : List Int} (hc : X1 cs) : QK cs = Qn 4 (YY cs % pV) := by
  have h0 := hc 0; have h1 := hc 1; have h2 := hc 2; have h3 := hc 3; have h4 := hc 4
  have d0 := ZR cs 0; have d1 := ZR cs 1; have d2 := ZR cs 2; have d3 := ZR cs 3; have d4 := ZR cs 4
  have hD : dS cs 0 + dS cs 1 * 2251799813685248 + dS cs 2 * 5070602400912917605986812821504 + dS cs 3 * 11417981541647679048466287755595961091061972992 + dS cs 4 * 25711008708143844408671393477458601640355247900524685364822016 = YY cs % pV := by
    have ho := Qbh hc 4
    have e0 : Ec cs 0 = (Qb cs 0 + 19) / 2251799813685248 := rfl
    have e1 : Ec cs 1 = (Qb cs 1 + Ec cs 0) / 2251799813685248 := rfl
    have e2 : Ec cs 2 = (Qb cs 2 + Ec cs 1) / 2251799813685248 := rfl
    have e3 : Ec cs 3 = (Qb cs 3 + Ec cs 2) / 2251799813685248 := rfl
    have e4 : Ec cs 4 = (Qb cs 4 + Ec cs 3) / 2251799813685248 := rfl
    have g0 : yS cs 0 = Qb cs 0 + 19 * Ec cs 4 := rfl
    have g1 : yS cs 1 = Qb cs 1 + yS cs 0 / 2251799813685248 := rfl
    have g2 : yS cs 2 = Qb cs 2 + yS cs 1 / 2251799813685248 := rfl
    have g3 : yS cs 3 = Qb cs 3 + yS cs 2 / 2251799813685248 := rfl
    have g4 : yS cs 4 = Qb cs 4 + yS cs 3 / 2251799813685248 := rfl
    unfold dS pV
    simp only [YY, Int.reducePow]
    generalize Ec cs 0 = o0 at *
    generalize Ec cs 1 = o1 at *
    generalize Ec cs 2 = o2 at *
    generalize Ec cs 3 = o3 at *
    generalize Ec cs 4 = o4 at *
    generalize yS cs 0 = y0 at *
    generalize yS cs 1 = y1 at *
    generalize yS cs 2 = y2 at *
    generalize yS cs 3 = y3 at *
    generalize yS cs 4 = y4 at *
    generalize Qb cs 0 = x0 at *
    generalize Qb cs 1 = x1 at *
    generalize Qb cs 2 = x2 at *
    generalize Qb cs 3 = x3 at *
    generalize Qb cs 4 = x4 at *
    have r1 : 57896044618658097711785492504343953926634992332820282019728792003956564819968 * o4 <= x0 + x1 * 2251799813685248 + x2 * 5070602400912917605986812821504 + x3 * 11417981541647679048466287755595961091061972992 + x4 * 25711008708143844408671393477458601640355247900524685364822016 + 19 /\
        x0 + x1 * 2251799813685248 + x2 * 5070602400912917605986812821504 + x3 * 11417981541647679048466287755595961091061972992 + x4 * 25711008708143844408671393477458601640355247900524685364822016 + 19 < 57896044618658097711785492504343953926634992332820282019728792003956564819968 * (o4 + 1) := by
      clear g0 g1 g2 g3 g4
      omega
    have r2 : y0 % 2251799813685248 + y1 % 2251799813685248 * 2251799813685248 + y2 % 2251799813685248 * 5070602400912917605986812821504 + y3 % 2251799813685248 * 11417981541647679048466287755595961091061972992 + y4 % 2251799813685248 * 25711008708143844408671393477458601640355247900524685364822016 + 57896044618658097711785492504343953926634992332820282019728792003956564819968 * (y4 / 2251799813685248) =
        x0 + x1 * 2251799813685248 + x2 * 5070602400912917605986812821504 + x3 * 11417981541647679048466287755595961091061972992 + x4 * 25711008708143844408671393477458601640355247900524685364822016 + 19 * o4 := by
      clear r1 e0 e1 e2 e3 e4
      omega
    have r3 : 0 <= y0 % 2251799813685248 + y1 % 2251799813685248 * 2251799813685248 + y2 % 2251799813685248 * 5070602400912917605986812821504 + y3 % 2251799813685248 * 11417981541647679048466287755595961091061972992 + y4 % 2251799813685248 * 25711008708143844408671393477458601640355247900524685364822016 /\
        y0 % 2251799813685248 + y1 % 2251799813685248 * 2251799813685248 + y2 % 2251799813685248 * 5070602400912917605986812821504 + y3 % 2251799813685248 * 11417981541647679048466287755595961091061972992 + y4 % 2251799813685248 * 25711008708143844408671393477458601640355247900524685364822016 < 57896044618658097711785492504343953926634992332820282019728792003956564819968 := by
      clear r1 r2 e0 e1 e2 e3 e4 g0 g1 g2 g3 g4
      omega
    have r4 : 0 <= x0 + x1 * 2251799813685248 + x2 * 5070602400912917605986812821504 + x3 * 11417981541647679048466287755595961091061972992 + x4 * 25711008708143844408671393477458601640355247900524685364822016 /\
        x0 + x1 * 2251799813685248 + x2 * 5070602400912917605986812821504 + x3 * 11417981541647679048466287755595961091061972992 + x4 * 25711008708143844408671393477458601640355247900524685364822016 < 57896044618658097711785492504343953926634992332820282019728792003956564819968 + 1725436586697640946858688965569256363112777243042596638790631055949824 := by
      clear r1 r2 r3 e0 e1 e2 e3 e4 g0 g1 g2 g3 g4
      omega
    clear e0 e1 e2 e3 e4 g0 g1 g2 g3 g4 h0 h1 h2 h3 h4
    generalize y0 % 2251799813685248 + y1 % 2251799813685248 * 2251799813685248 + y2 % 2251799813685248 * 5070602400912917605986812821504 + y3 % 2251799813685248 * 11417981541647679048466287755595961091061972992 + y4 % 2251799813685248 * 25711008708143844408671393477458601640355247900524685364822016 = D at *
    generalize x0 + x1 * 2251799813685248 + x2 * 5070602400912917605986812821504 + x3 * 11417981541647679048466287755595961091061972992 + x4 * 25711008708143844408671393477458601640355247900524685364822016 = V at *
    generalize y4 / 2251799813685248 = q at *
    have ho2 : o4 = 0 \/ o4 = 1 := by omega
    rcases ho2 with rfl | rfl <;> omega
  have hw : QC (QK cs) := by
    intro x hx
    simp only [QK, List.mem_cons, List.not_mem_nil, or_false] at hx
    rcases hx with rfl | rfl | rfl | rfl <;> omega
  refine JR hw rfl ?_
  rw [<- hD]
  simp only [Qo, QK, Zq, Zb, Nat.reduceMul, Int.reducePow]
  generalize dS cs 0 = a at *
  generalize dS cs 1 = b at *
  generalize dS cs 2 = c at *
  generalize dS cs 3 = d at *
  generalize dS cs 4 = e at *
  omega
theorem KV : Xo [1, 0, 0, 0, 0] 1 := ⟨rfl, YH (by omega) (by omega) (by omega) (by omega) (by omega), by decide +kernel⟩
/-- A number of 1 bits, but for two bytes. -/
def J0 (lo hi : Int) : List Int := ((List.replicate 32 (255 : Int)).set 0 lo).set 31 hi
/-- A power, behind so many of the exponent's bits. -/
def Vb (xs nb : List Int) : Nat -> List Int
  | 0 => [1, 0, 0, 0, 0]
  | k + 1 => if GY nb (255 - k) = 1 then QB (XT (QB (XT (Vb xs nb k) (Vb xs nb k))) xs) else QB (XT (Vb xs nb k) (Vb xs nb k))
theorem Fj (u : Int) (e : Nat) : ((u ^ e % pV) * (u ^ e % pV)) % pV = u ^ (2 * e) % pV := by
  rw [<- Int.mul_emod, <- Int.pow_add, show e + e = 2 * e by omega]
theorem EE (u v : Int) (e : Nat) (hv : v % pV = u % pV) : ((u ^ (2 * e) % pV) * v) % pV = u ^ (2 * e + 1) % pV := by
  rw [Int.mul_emod, Int.emod_emod_of_dvd _ (Int.dvd_refl _), hv, <- Int.mul_emod, Int.pow_succ]
theorem Fo (xs nb : List Int) (u : Int) (hx : Xo xs u) (hn : Qh nb) : ∀ k, k <= 256 -> Xo (Vb xs nb k) (u ^ (Qq nb 32 / 2 ^ (256 - k)).toNat % pV)
  | 0, _ => by
    have h := YT nb hn
    rw [Nat.sub_zero, Int.ediv_eq_zero_of_lt h.1 h.2, show u ^ Int.toNat 0 % pV = 1 by rw [show Int.toNat 0 = 0 from rfl, Int.pow_zero]; decide +kernel]
    exact KV
  | k + 1, hk => by
    have ih := Fo xs nb u hx hn k (by omega)
    have h2 := X3 ih ih
    rw [Fj] at h2
    have hb := Gn nb hn 32 (255 - k) (by omega)
    have hh := Jv (Qq nb 32) (255 - k)
    rw [show 255 - k + 1 = 256 - k by omega, <- hb] at hh
    have h0 := (YT nb hn).1
    have hy : 0 <= Qq nb 32 / 2 ^ (256 - k) := Int.ediv_nonneg h0 (Int.le_of_lt (Xq _))
    rw [show 256 - (k + 1) = 255 - k by omega]
    have hbit := Qid nb (255 - k)
    unfold Vb
    split
    . next h1 =>
      rw [h1] at hh
      have e : (Qq nb 32 / 2 ^ (255 - k)).toNat = 2 * (Qq nb 32 / 2 ^ (256 - k)).toNat + 1 := by omega
      rw [e]
      have h3 := X3 h2 hx
      have hu : u % pV = u % pV := rfl
      rw [EE u u _ rfl] at h3
      exact h3
    . next h1 =>
      have h10 : GY nb (255 - k) = 0 := by omega
      rw [h10] at hh
      have e : (Qq nb 32 / 2 ^ (255 - k)).toNat = 2 * (Qq nb 32 / 2 ^ (256 - k)).toNat := by omega
      rw [e]
      exact h2
theorem Qed {xs : List Int} {u : Int} (h : Xo xs u) : 0 <= u /\ u < pV := by rw [<- h.val]; exact Vy _
theorem QdP : (0 : Int) <= pV /\ pV < 2 ^ 256 := by decide +kernel
theorem Qfl {u v : Int} (hu : 0 <= u /\ u < pV) (hv : 0 <= v /\ v < pV) : decide (Xf u = Xf v) = decide (u = v) := by
  have := QdP
  exact decide_eq_decide.2 ⟨fun h => Qbl ⟨hu.1, by omega⟩ ⟨hv.1, by omega⟩ h, fun h => by rw [h]⟩
theorem Uh : Xo [0, 0, 0, 0, 0] 0 := ⟨rfl, YH (by omega) (by omega) (by omega) (by omega) (by omega), by decide +kernel⟩
theorem EK {xb : List Int} (hb : Qh xb) (hl : xb.length = 32) : Xf (Qq xb 32) = xb := by
  apply QZ (by rw [QP, hl])
  intro j hj
  rw [QP] at hj
  rw [Gt _ j hj]
  have key : ∀ n, j < n -> Qq xb n / 2 ^ (8 * j) % 256 = Qb xb j := by
    intro n
    induction n with
    | zero => omega
    | succ n ih =>
      intro hn
      have hp := Xq (8 * j)
      by_cases e : j = n
      . have h1 := UG xb hb n
        have h2 := hb.at n
        subst e
        simp only [Qq]
        rw [Int.add_mul_ediv_right _ _ (by omega), Int.ediv_eq_zero_of_lt h1.1 h1.2, Int.zero_add, Int.emod_eq_of_lt h2.1 (by omega)]
      . rw [<- ih (by omega)]
        simp only [Qq]
        obtain ⟨d, hd⟩ : ∃ d, n = j + 1 + d := ⟨n - j - 1, by omega⟩
        have e2 : (2 : Int) ^ (8 * n) = 2 ^ (8 * j) * (256 * 2 ^ (8 * d)) := by
          rw [show (256 : Int) = 2 ^ 8 from rfl, <- Int.pow_add, <- Int.pow_add]; congr 1; omega
        rw [e2]
        generalize Qb xb n = x
        generalize (2 : Int) ^ (8 * d) = q
        generalize (2 : Int) ^ (8 * j) = p at *
        rw [show x * (p * (256 * q)) = (x * q * 256) * p by grind, Int.add_mul_ediv_right _ _ (by omega), Int.add_mul_emod_self_right]
  exact key 32 hj
theorem Dk {xb : List Int} (hb : Qh xb) (hl : xb.length = 32) : decide (Xf (Qq xb 32 % pV) = xb) = decide (Qq xb 32 < pV) := by
  have hv := YT xb hb
  have hm := Vy (Qq xb 32)
  have hp := QdP
  refine decide_eq_decide.2 ⟨fun h => ?_, fun h => ?_⟩
  . have h2 : Qq xb 32 % pV = Qq xb 32 := Qbl ⟨hm.1, by omega⟩ hv (by rw [h, EK hb hl])
    omega
  . rw [Int.emod_eq_of_lt hv.1 h, EK hb hl]
theorem EF {xs nb : List Int} {u : Int} (hx : Xo xs u) (hn : Qh nb) : Xo (Vb xs nb 256) (u ^ (Qq nb 32).toNat % pV) := by
  have h := Fo xs nb u hx hn 256 (Nat.le_refl _)
  rw [Nat.sub_self, Int.pow_zero, Int.ediv_one] at h
  exact h
theorem Qa4 : Qh (J0 235 127) := by intro x hx; revert x; decide
theorem EG : Qh (J0 254 15) := by intro x hx; revert x; decide
theorem Qk6 : Qn 4 pV = [18446744073709551597, 18446744073709551615, 18446744073709551615, 9223372036854775807] := by decide +kernel
theorem QgV : (2 : Int) ^ 256 < 3 * pV := by decide +kernel
def QdH : List Int := [1718705420411056, 234908883556509, 2233514472574048, 2117202627021982, 765476049583133]
/-- The root of -1. -/
def iV : Int := YY QdH % pV
theorem EA : Xo QdH iV := ⟨rfl, YH (by omega) (by omega) (by omega) (by omega) (by omega), rfl⟩
def Fe (u : Int) : Int := u ^ (Qq (J0 254 15) 32).toNat % pV
def rt1 (u : Int) : Int := Fe u * iV % pV
def sq0 (u : Int) : Bool := decide (Fe u * Fe u % pV = u)
def sq1 (u : Int) : Bool := decide (rt1 u * rt1 u % pV = u)
/-- Is there a root? -/
def okV (u : Int) : Bool := sq0 u || sq1 u
/-- The even one of a number and its negative. -/
def UB (c : Int) : Int := if c % 2 = 1 then (0 - c) % pV else c
def rV (u : Int) : Int := if sq0 u then UB (Fe u) else if sq1 u then UB (rt1 u) else 0
def pN : Nat := 57896044618658097711785492504343953926634992332820282019728792003956564819949
theorem Uc : pV = (pN : Int) := by decide +kernel
theorem Qgq : (Qq (J0 254 15) 32).toNat = 7237005577332262213973186563042994240829374041602535252466099000494570602494 := by decide +kernel
/-- A prime. -/
def VP (p : Nat) : Prop := 2 <= p /\ ∀ d, d ∣ p -> d = 1 \/ d = p
theorem VP.cop {p a : Nat} (h : VP p) (ha : ¬ p ∣ a) : Nat.gcd p a = 1 := by
  rcases h.2 (Nat.gcd p a) (Nat.gcd_dvd_left p a) with e | e
  . exact e
  . exact absurd (e ▸ Nat.gcd_dvd_right p a) ha
theorem VP.euclid {p a b : Nat} (h : VP p) (hab : p ∣ a * b) : p ∣ a \/ p ∣ b := by
  by_cases ha : p ∣ a
  . exact .inl ha
  . exact .inr (Nat.Coprime.dvd_of_dvd_mul_left (h.cop ha) hab)
/-- Binomials. -/
def bin : Nat -> Nat -> Nat
  | _, 0 => 1
  | 0, _ + 1 => 0
  | n + 1, k + 1 => bin n k + bin n (k + 1)
theorem JC (n : Nat) : bin n 0 = 1 := by cases n <;> rfl
theorem UD (n k : Nat) : bin (n + 1) (k + 1) = bin n k + bin n (k + 1) := rfl
theorem HJ : ∀ n k, (k + 1) * bin (n + 1) (k + 1) = (n + 1) * bin n k
  | 0, 0 => rfl
  | 0, k + 1 => by simp [bin]
  | n + 1, 0 => by
    have h := HJ n 0
    rw [UD (n + 1) 0, JC]
    rw [JC] at h
    omega
  | n + 1, j + 1 => by
    have h1 := HJ n (j + 1)
    have h2 := HJ n j
    have h3 := UD n j
    rw [UD (n + 1) (j + 1)]
    have e1 : (j + 1 + 1) * (bin (n + 1) (j + 1) + bin (n + 1) (j + 1 + 1)) = (j + 1) * bin (n + 1) (j + 1) + bin (n + 1) (j + 1) + (j + 1 + 1) * bin (n + 1) (j + 1 + 1) := by
      rw [Nat.mul_add, Nat.add_mul (j + 1) 1, Nat.one_mul]
    rw [e1, h1, h2, Nat.add_mul (n + 1) 1, Nat.one_mul]
    have e2 : (n + 1) * bin (n + 1) (j + 1) = (n + 1) * bin n j + (n + 1) * bin n (j + 1) := by rw [h3, Nat.mul_add]
    omega
theorem Gp : ∀ n k, n < k -> bin n k = 0
  | 0, 0, h => by omega
  | 0, k + 1, _ => rfl
  | n + 1, 0, h => by omega
  | n + 1, k + 1, h => by rw [UD, Gp n k (by omega), Gp n (k + 1) (by omega)]
theorem QbY : ∀ n, bin n n = 1
  | 0 => rfl
  | n + 1 => by rw [UD, QbY n, Gp n (n + 1) (by omega)]
/-- A sum of so many. -/
def Yt (f : Nat -> Nat) : Nat -> Nat
  | 0 => 0
  | n + 1 => Yt f n + f n
theorem UJ (f : Nat -> Nat) : ∀ n, Yt f (n + 1) = f 0 + Yt (fun k => f (k + 1)) n
  | 0 => by simp [Yt]
  | n + 1 => by
    rw [Yt, UJ f n]
    show _ = f 0 + (Yt (fun k => f (k + 1)) n + f (n + 1))
    omega
theorem QaI (f g : Nat -> Nat) : ∀ n, Yt (fun k => f k + g k) n = Yt f n + Yt g n
  | 0 => rfl
  | n + 1 => by simp only [Yt, QaI f g n]; omega
theorem QaG (c : Nat) (f : Nat -> Nat) : ∀ n, Yt (fun k => c * f k) n = c * Yt f n
  | 0 => rfl
  | n + 1 => by simp only [Yt, QaG c f n, Nat.mul_add]
theorem Fa {f g : Nat -> Nat} : ∀ n, (∀ k, k < n -> f k = g k) -> Yt f n = Yt g n
  | 0, _ => rfl
  | n + 1, h => by rw [Yt, Yt, Fa n (fun k hk => h k (by omega)), h n (by omega)]
theorem QaH {p : Nat} {f : Nat -> Nat} : ∀ n, (∀ k, k < n -> p ∣ f k) -> p ∣ Yt f n
  | 0, _ => Nat.dvd_zero p
  | n + 1, h => Nat.dvd_add (QaH n (fun k hk => h k (by omega))) (h n (by omega))
theorem QkB (a : Nat) : ∀ n, (a + 1) ^ n = Yt (fun k => bin n k * a ^ k) (n + 1)
  | 0 => rfl
  | n + 1 => by
    have ih := QkB a n
    rw [UJ, JC]
    have e1 : Yt (fun k => bin (n + 1) (k + 1) * a ^ (k + 1)) (n + 1) = Yt (fun k => a * (bin n k * a ^ k) + bin n (k + 1) * a ^ (k + 1)) (n + 1) := by
      refine Fa _ fun k _ => ?_
      rw [UD, Nat.add_mul, Nat.pow_succ]
      congr 1
      rw [<- Nat.mul_assoc, Nat.mul_comm a]
    have e2 : Yt (fun k => bin n k * a ^ k) (n + 1 + 1) = 1 * a ^ 0 + Yt (fun k => bin n (k + 1) * a ^ (k + 1)) (n + 1) := by
      rw [UJ, JC]
    have e3 : Yt (fun k => bin n k * a ^ k) (n + 1 + 1) = Yt (fun k => bin n k * a ^ k) (n + 1) := by
      rw [Yt, Gp n (n + 1) (by omega)]; omega
    rw [e1, QaI, QaG, Nat.pow_succ, ih, Nat.mul_add, Nat.mul_one, Nat.mul_comm _ a]
    omega
theorem VP.bin {p k : Nat} (h : VP p) (hk : k + 1 < p) : p ∣ Go.Proofs.YtbiboamaigedjaaGreatDoor.bin p (k + 1) := by
  obtain ⟨n, rfl⟩ : ∃ n, p = n + 1 := ⟨p - 1, by have := h.1; omega⟩
  have e := HJ n k
  rcases h.euclid (a := k + 1) (b := Go.Proofs.YtbiboamaigedjaaGreatDoor.bin (n + 1) (k + 1)) ⟨_, e⟩ with d | d
  . exact absurd (Nat.le_of_dvd (by omega) d) (by omega)
  . exact d
theorem VP.fresh {p : Nat} (h : VP p) (a : Nat) : (a + 1) ^ p % p = (a ^ p + 1) % p := by
  have hp := h.1
  rw [QkB, UJ, JC]
  obtain ⟨n, hn⟩ : ∃ n, p = n + 1 := ⟨p - 1, by omega⟩
  have e : Yt (fun k => Go.Proofs.YtbiboamaigedjaaGreatDoor.bin p (k + 1) * a ^ (k + 1)) p = Yt (fun k => Go.Proofs.YtbiboamaigedjaaGreatDoor.bin p (k + 1) * a ^ (k + 1)) n + a ^ p := by
    conv => lhs; rw [hn]
    rw [Yt, <- hn, QbY, Nat.one_mul]
  rw [e]
  obtain ⟨c, hc⟩ := QaH (p := p) (f := fun k => Go.Proofs.YtbiboamaigedjaaGreatDoor.bin p (k + 1) * a ^ (k + 1)) n (fun k hk => Nat.dvd_trans (h.bin (by omega)) (Nat.dvd_mul_right _ _))
  rw [hc]
  have : 1 * a ^ 0 + (p * c + a ^ p) = a ^ p + 1 + p * c := by simp; omega
  rw [this, Nat.add_mul_mod_self_left]
theorem VP.fermat0 {p : Nat} (h : VP p) : ∀ a, a ^ p % p = a % p
  | 0 => by
    have hp := h.1
    rw [Nat.zero_pow (by omega)]
  | a + 1 => by
    rw [h.fresh, Nat.add_mod, h.fermat0 a, <- Nat.add_mod]
theorem Ks {n a b : Nat} (hab : b <= a) : a % n = b % n ↔ n ∣ a - b := by
  constructor
  . intro h
    have ha := Nat.div_add_mod a n
    have hb := Nat.div_add_mod b n
    refine ⟨a / n - b / n, ?_⟩
    rw [Nat.mul_sub]; omega
  . rintro ⟨c, hc⟩
    have : a = b + n * c := by omega
    rw [this, Nat.add_mul_mod_self_left]
theorem VP.fermat {p a : Nat} (h : VP p) (ha : ¬ p ∣ a) : a ^ (p - 1) % p = 1 % p := by
  have hp := h.1
  have h0 := h.fermat0 a
  have ha0 : 0 < a := Nat.pos_of_ne_zero fun e => ha (e ▸ Nat.dvd_zero p)
  have e : a ^ p = a * a ^ (p - 1) := by
    conv => lhs; rw [show p = p - 1 + 1 by omega]
    rw [Nat.pow_succ, Nat.mul_comm]
  have h1 : 1 <= a ^ (p - 1) := Nat.pow_pos ha0
  have h2 : a <= a ^ p := by rw [e]; exact Nat.le_mul_of_pos_right _ h1
  have h3 := (Ks h2).1 h0
  rw [e, show a * a ^ (p - 1) - a = a * (a ^ (p - 1) - 1) by rw [Nat.mul_sub, Nat.mul_one]] at h3
  rcases h.euclid h3 with d | d
  . exact absurd d ha
  . exact (Ks h1).2 d
theorem Qa3 {r b m : Nat} (hm : b ^ m % r = 1 % r) (k : Nat) : b ^ (m * k) % r = 1 % r := by
  rw [Nat.pow_mul, Nat.pow_mod, hm, <- Nat.pow_mod, Nat.one_pow]
theorem Qi8 {r b : Nat} (m n : Nat) (hm : b ^ m % r = 1 % r) (hn : b ^ n % r = 1 % r) : b ^ (Nat.gcd m n) % r = 1 % r := by
  revert hm hn
  refine Nat.gcd.induction (P := fun m n => b ^ m % r = 1 % r -> b ^ n % r = 1 % r -> b ^ (Nat.gcd m n) % r = 1 % r) m n ?_ ?_
  . intro n h1 h2; rw [Nat.gcd_zero_left]; exact h2
  . intro m n hm ih h1 h2
    rw [Nat.gcd_rec]
    refine ih ?_ h1
    have e := Nat.div_add_mod n m
    rw [<- e, Nat.pow_add, Nat.mul_mod, Qa3 h1, <- Nat.mul_mod, Nat.one_mul] at h2
    exact h2
theorem QgP : ∀ n, 2 <= n -> ∃ r, VP r /\ r ∣ n := by
  intro n
  refine Nat.strongRecOn (motive := fun n => 2 <= n -> ∃ r, VP r /\ r ∣ n) n ?_
  intro n ih hn
  by_cases hp : VP n
  . exact ⟨n, hp, Nat.dvd_refl n⟩
  . have : ∃ d, d ∣ n /\ d ≠ 1 /\ d ≠ n := by
      refine Classical.byContradiction fun hno => hp ⟨hn, fun d hd => ?_⟩
      refine Classical.byContradiction fun hd2 => hno ⟨d, hd, ?_, ?_⟩
      . exact fun e => hd2 (.inl e)
      . exact fun e => hd2 (.inr e)
    obtain ⟨d, hd, h1, h2⟩ := this
    have hle := Nat.le_of_dvd (by omega) hd
    have h0 : d ≠ 0 := by rintro rfl; obtain ⟨c, hc⟩ := hd; omega
    obtain ⟨r, hr, hrd⟩ := ih d (by omega) (by omega)
    exact ⟨r, hr, Nat.dvd_trans hrd hd⟩
theorem Qi9 {N F : Nat} (hN : 2 <= N) (h : N < (F + 1) * (F + 1)) (hF : ∀ r, VP r -> r ∣ N -> F ∣ r - 1) : VP N := by
  refine Classical.byContradiction fun hp => ?_
  have : ∃ d, d ∣ N /\ d ≠ 1 /\ d ≠ N := by
    refine Classical.byContradiction fun hno => hp ⟨hN, fun d hd => ?_⟩
    refine Classical.byContradiction fun hd2 => hno ⟨d, hd, fun e => hd2 (.inl e), fun e => hd2 (.inr e)⟩
  obtain ⟨d, ⟨e, he⟩, h1, h2⟩ := this
  have hd0 : d ≠ 0 := by rintro rfl; simp at he; omega
  have he0 : e ≠ 0 := by rintro rfl; simp at he; omega
  have he1 : e ≠ 1 := by rintro rfl; simp at he; omega
  have big : ∀ x, 2 <= x -> x ∣ N -> F + 1 <= x := by
    intro x hx hxN
    obtain ⟨r, hr, hrx⟩ := QgP x hx
    have hle := Nat.le_of_dvd (by omega) hrx
    have h3 := hF r hr (Nat.dvd_trans hrx hxN)
    have h4 := Nat.le_of_dvd (by have := hr.1; omega) h3
    omega
  have b1 := big d (by omega) ⟨e, he⟩
  have b2 := big e (by omega) ⟨d, by rw [he, Nat.mul_comm]⟩
  have := Nat.mul_le_mul b1 b2
  omega
/-- A prime q that each prime in N lies above, by a number b of the order q. -/
theorem QgY {N q b : Nat} (hq : VP q) (hb : b ^ q % N = 1 % N) (hg : Nat.gcd (b - 1) N = 1) (hb1 : 1 <= b) : ∀ r, VP r -> r ∣ N -> q ∣ r - 1 := by
  intro r hr hrN
  have h1 : b ^ q % r = 1 % r := by
    rw [<- Nat.mod_mod_of_dvd (b ^ q) hrN, hb, Nat.mod_mod_of_dvd _ hrN]
  have hrb : ¬ r ∣ b := by
    intro hd
    have h0 : b ^ q % r = 0 := Nat.mod_eq_zero_of_dvd (Nat.dvd_trans hd (by
      have := hq.1
      rw [show q = q - 1 + 1 by omega, Nat.pow_succ]; exact Nat.dvd_mul_left _ _))
    have := hr.1
    rw [h0, Nat.mod_eq_of_lt (by omega)] at h1
    omega
  have h2 := hr.fermat hrb
  have h3 := Qi8 q (r - 1) h1 h2
  rcases hq.2 _ (Nat.gcd_dvd_left q (r - 1)) with e | e
  . rw [e, Nat.pow_one] at h3
    have h4 := (Ks hb1).1 h3
    have h5 := Nat.dvd_gcd h4 hrN
    rw [hg] at h5
    have := Nat.le_of_dvd (by omega) h5
    have := hr.1
    omega
  . exact e ▸ Nat.gcd_dvd_right q (r - 1)
theorem Qcd {q s m : Nat} (hq : VP q) (hs : VP s) (hne : q ≠ s) (h1 : q ∣ m) (h2 : s ∣ m) : q * s ∣ m := by
  obtain ⟨c, rfl⟩ := h1
  rcases hs.euclid h2 with d | d
  . rcases hq.2 s d with e | e
    . have := hs.1; omega
    . exact absurd e.symm hne
  . exact Nat.mul_dvd_mul_left q d
/-- No divisor from d on, as far as the square goes. -/
def chk (n : Nat) : Nat -> Nat -> Bool
  | 0, _ => false
  | f + 1, d => if n < d * d then true else if n % d = 0 then false else chk n f (d + 1)
theorem GU (n : Nat) : ∀ f d, chk n f d = true -> ∀ e, d <= e -> e * e <= n -> ¬ e ∣ n
  | 0, _, h => by simp [chk] at h
  | f + 1, d, h => by
    intro e hde he hdv
    unfold chk at h
    split at h
    . rename_i hlt
      have := Nat.mul_le_mul hde hde
      omega
    . split at h
      . simp at h
      . rename_i h0
        by_cases hed : e = d
        . subst hed; exact h0 (Nat.mod_eq_zero_of_dvd hdv)
        . exact GU n f (d + 1) h e (by omega) he hdv
theorem VP.small {n f : Nat} (hn : 2 <= n) (h : chk n f 2 = true) : VP n := by
  refine ⟨hn, fun d hd => ?_⟩
  obtain ⟨e, he⟩ := hd
  refine Classical.byContradiction fun hno => ?_
  have hd0 : d ≠ 0 := by rintro rfl; simp at he; omega
  have he0 : e ≠ 0 := by rintro rfl; simp at he; omega
  have he1 : e ≠ 1 := by rintro rfl; simp at he; omega
  have hd1 : d ≠ 1 := fun e => hno (.inl e)
  rcases Nat.le_total d e with hle | hle
  . exact GU n f 2 h d (by omega) (by rw [he]; exact Nat.mul_le_mul_left d hle) ⟨e, he⟩
  . exact GU n f 2 h e (by omega) (by rw [he]; exact Nat.mul_le_mul_right e hle) ⟨d, by rw [he, Nat.mul_comm]⟩
/-- A power modulo p by squaring. -/
def pmo (p u : Nat) : Nat -> Nat -> Nat
  | 0, _ => 1 % p
  | f + 1, e => (match e % 2 with | 0 => 1 | _ => u) * (pmo p u f (e / 2) * pmo p u f (e / 2) % p) % p
theorem QcF (p u : Nat) : ∀ f e, e < 2 ^ f -> pmo p u f e = u ^ e % p
  | 0, e, h => by
    obtain rfl : e = 0 := by simpa using h
    rfl
  | f + 1, e, h => by
    have ih := QcF p u f (e / 2) (by rw [Nat.pow_succ] at h; omega)
    have h2 : e = e / 2 + e / 2 + e % 2 := by omega
    unfold pmo
    rw [ih]
    generalize hk : e / 2 = k at *
    have hm : e % 2 = 0 \/ e % 2 = 1 := by omega
    have key : u ^ k % p * (u ^ k % p) % p = u ^ (k + k) % p := by rw [<- Nat.mul_mod, <- Nat.pow_add]
    rw [key]
    rcases hm with h0 | h1
    . rw [h0] at h2 ⊢
      subst h2
      simp only [Nat.add_zero]
      rw [Nat.one_mul, Nat.mod_mod]
    . rw [h1] at h2 ⊢
      subst h2
      show u * (u ^ (k + k) % p) % p = u ^ (k + k + 1) % p
      rw [Nat.mul_mod, Nat.mod_mod, <- Nat.mul_mod, Nat.pow_succ, Nat.mul_comm]
theorem VP.certify {N q b f : Nat} (hq : VP q) (hf : q < 2 ^ f) (h : (decide (pmo N b f q = 1 % N) && decide (Nat.gcd (b - 1) N = 1) && decide (1 <= b)) = true) : ∀ r, VP r -> r ∣ N -> q ∣ r - 1 := by
  simp only [Bool.and_eq_true, decide_eq_true_eq] at h
  exact QgY hq (by rw [<- QcF N b f q hf]; exact h.1.1) h.1.2 h.2
theorem QgM : VP 8574133 := VP.small (f := 2931) (by decide) (by decide +kernel)
theorem QgL : VP 127 := VP.small (f := 14) (by decide) (by decide +kernel)
theorem QgK : VP 75707 := VP.small (f := 278) (by decide) (by decide +kernel)
theorem QgJ : VP 1923133 := VP.small (f := 1389) (by decide) (by decide +kernel)
theorem QgN : VP 1919519569386763 := by
  refine Qi9 (F := 8574133 * 127) (by decide) (by decide +kernel) fun r hr hd => ?_
  refine Qcd QgM QgL (by decide) ?_ ?_
  . exact VP.certify (b := 1059928654987441) (f := 24) QgM (by decide +kernel) (by decide +kernel) r hr hd
  . exact VP.certify (b := 576774792492622) (f := 7) QgL (by decide +kernel) (by decide +kernel) r hr hd
theorem QgO : VP 75445702479781427272750846543864801 := by
  refine Qi9 (F := 1919519569386763 * 75707) (by decide) (by decide +kernel) fun r hr hd => ?_
  refine Qcd QgN QgK (by decide) ?_ ?_
  . exact VP.certify (b := 56747016255153332959347766392083459) (f := 51) QgN (by decide +kernel) (by decide +kernel) r hr hd
  . exact VP.certify (b := 58781699294900834553279248901967638) (f := 17) QgK (by decide +kernel) (by decide +kernel) r hr hd
theorem Qk1 : VP 74058212732561358302231226437062788676166966415465897661863160754340907 := by
  refine Qi9 (F := 75445702479781427272750846543864801 * 1923133) (by decide) (by decide +kernel) fun r hr hd => ?_
  refine Qcd QgO QgJ (by decide) ?_ ?_
  . exact VP.certify (b := 69490809710348678725736597923071784769591275419387514694139338586948360) (f := 116) QgO (by decide +kernel) (by decide +kernel) r hr hd
  . exact VP.certify (b := 52266576830164329332527201090776533817489900267135412990654516667243924) (f := 21) QgJ (by decide +kernel) (by decide +kernel) r hr hd
theorem Qmk : VP 57896044618658097711785492504343953926634992332820282019728792003956564819949 := by
  refine Qi9 (F := 74058212732561358302231226437062788676166966415465897661863160754340907) (by decide) (by decide +kernel) ?_
  exact VP.certify (b := 427094198651976259540344842774561673889945192655078505504941250475370961481) (f := 236) Qk1 (by decide +kernel) (by decide +kernel)
theorem mm1 (x y p : Int) : (x % p * y) % p = x * y % p := by rw [Int.mul_emod, Int.emod_emod_of_dvd _ (Int.dvd_refl _), <- Int.mul_emod]
theorem mm2 (x y p : Int) : (x * (y % p)) % p = x * y % p := by rw [Int.mul_emod, Int.emod_emod_of_dvd _ (Int.dvd_refl _), <- Int.mul_emod]
theorem Fk (u p : Int) : ∀ n : Nat, (u % p) ^ n % p = u ^ n % p
  | 0 => by rw [Int.pow_zero, Int.pow_zero]
  | n + 1 => by rw [Int.pow_succ, Int.pow_succ, mm2, <- mm1, Fk u p n, mm1]
theorem Jn : VP pN := Qmk
/-- Fermat, for whole numbers. -/
theorem Qfy (u : Int) (h : u % pV ≠ 0) : u ^ (pN - 1) % pV = 1 := by
  have hu := Vy u
  have e : u ^ (pN - 1) % pV = (u % pV) ^ (pN - 1) % pV := (Fk u pV _).symm
  rw [e]
  generalize u % pV = v at *
  obtain ⟨n, rfl⟩ := Int.eq_ofNat_of_zero_le hu.1
  rw [Uc] at hu ⊢
  have hn : ¬ pN ∣ n := fun hd => by
    have := Nat.le_of_dvd (by omega) hd
    omega
  have hf := Jn.fermat hn
  rw [<- Int.natCast_pow, <- Int.natCast_emod, hf]
  decide +kernel
theorem Qd6 : (Qq (J0 235 127) 32).toNat = pN - 2 := by decide +kernel
theorem JT {a b : Int} (h : a * b % pV = 0) : a % pV = 0 \/ b % pV = 0 := by
  have hd := Int.natAbs_dvd_natAbs.2 (Int.dvd_of_emod_eq_zero h)
  rw [Int.natAbs_mul, Uc, Int.natAbs_natCast] at hd
  rcases Jn.euclid hd with d | d
  . left
    rw [Uc]
    exact Int.emod_eq_zero_of_dvd (Int.natAbs_dvd_natAbs.1 (by rw [Int.natAbs_natCast]; exact d))
  . right
    rw [Uc]
    exact Int.emod_eq_zero_of_dvd (Int.natAbs_dvd_natAbs.1 (by rw [Int.natAbs_natCast]; exact d))
theorem UK (a b p : Int) : a % p = b % p ↔ (a - b) % p = 0 := Int.emod_eq_emod_iff_emod_sub_eq_zero
/-- (p - 1) / 4. -/
def kN : Nat := 14474011154664524427946373126085988481658748083205070504932198000989141204987
theorem QmA : (Qq (J0 254 15) 32).toNat + (Qq (J0 254 15) 32).toNat = kN + 1 := by rw [Qgq]; decide +kernel
theorem Qnk : kN + kN + (kN + kN) = pN - 1 := by decide +kernel
theorem QmD : iV * iV % pV = (-1) % pV := by decide +kernel
theorem Qgs (u : Int) : Fe u * Fe u % pV = u ^ kN * u % pV := by
  unfold Fe
  rw [<- Int.mul_emod, <- Int.pow_add, QmA, Int.pow_succ]
theorem QkU (u : Int) : rt1 u * rt1 u % pV = -(u ^ kN * u) % pV := by
  have h : rt1 u * rt1 u % pV = (Fe u * Fe u % pV) * (iV * iV % pV) % pV := by
    unfold rt1
    rw [<- Int.mul_emod, <- Int.mul_emod]
    congr 1
    grind
  rw [h, Qgs, QmD, <- Int.mul_emod]
  congr 1
  grind
theorem QiK {u : Int} (hu : 0 <= u /\ u < pV) (h0 : u ≠ 0) : sq0 u = true ↔ (u ^ kN - 1) % pV = 0 := by
  unfold sq0
  rw [decide_eq_true_iff, Qgs]
  conv => lhs; rhs; rw [<- Int.emod_eq_of_lt hu.1 hu.2]
  rw [UK, show u ^ kN * u - u = (u ^ kN - 1) * u by grind]
  constructor
  . intro h
    rcases JT h with h | h
    . exact h
    . rw [Int.emod_eq_of_lt hu.1 hu.2] at h; exact absurd h h0
  . intro h
    rw [<- mm1, h, Int.zero_mul]; rfl
theorem QiJ {u : Int} (hu : 0 <= u /\ u < pV) (h0 : u ≠ 0) : sq1 u = true ↔ (u ^ kN + 1) % pV = 0 := by
  unfold sq1
  rw [decide_eq_true_iff, QkU]
  conv => lhs; rhs; rw [<- Int.emod_eq_of_lt hu.1 hu.2]
  rw [eq_comm, UK, show u - -(u ^ kN * u) = (u ^ kN + 1) * u by grind]
  constructor
  . intro h
    rcases JT h with h | h
    . exact h
    . rw [Int.emod_eq_of_lt hu.1 hu.2] at h; exact absurd h h0
  . intro h
    rw [<- mm1, h, Int.zero_mul]; rfl
theorem Qjf {u : Int} (hu : 0 <= u /\ u < pV) (h0 : u ≠ 0) : okV u = true ↔ u ^ (kN + kN) % pV = 1 := by
  have e1 : (1 : Int) = 1 % pV := by decide +kernel
  unfold okV
  rw [Bool.or_eq_true, QiK hu h0, QiJ hu h0]
  conv => rhs; rhs; rw [e1]
  rw [UK, Int.pow_add, show u ^ kN * u ^ kN - 1 = (u ^ kN - 1) * (u ^ kN + 1) by grind]
  constructor
  . rintro (h | h)
    . rw [<- mm1, h, Int.zero_mul]; rfl
    . rw [<- mm2, h, Int.mul_zero]; rfl
  . exact JT
theorem Qg4 : okV 0 = true := by
  unfold okV sq0 Fe
  rw [Qgq, Int.zero_pow (by decide +kernel)]
  decide +kernel
theorem Qef (c : Int) : UB c = c \/ UB c = (0 - c) % pV := by unfold UB; split <;> simp
theorem Qee {c : Int} : UB c * UB c % pV = c * c % pV := by
  rcases Qef c with h | h
  . rw [h]
  . rw [h, mm1, mm2]; congr 1; grind
theorem Qmh {u : Int} (hok : okV u = true) : rV u * rV u % pV = u := by
  unfold rV
  unfold okV at hok
  by_cases h : sq0 u = true
  . rw [if_pos h, Qee]; simpa [sq0] using h
  . rw [if_neg h]
    have h1 : sq1 u = true := by simpa [h] using hok
    rw [if_pos h1, Qee]; simpa [sq1] using h1
theorem Qgt (u : Int) : 0 <= Fe u /\ Fe u < pV := Vy _
theorem Qgr (u : Int) : 0 <= rt1 u /\ rt1 u < pV := Vy _
theorem Qeg {c : Int} (h : 0 <= c /\ c < pV) : 0 <= UB c /\ UB c < pV := by
  rcases Qef c with e | e
  . rw [e]; exact h
  . rw [e]; exact Vy _
theorem EU {c : Int} (h : 0 <= c /\ c < pV) : UB c % 2 = 0 := by
  unfold UB
  split
  . next h1 =>
    have hp : pV % 2 = 1 := by decide +kernel
    have e : (0 - c) % pV = 0 - c + pV := by rw [<- Int.add_emod_right (0 - c) pV, Int.emod_eq_of_lt (by omega) (by omega)]
    rw [e]; omega
  . omega
theorem Qmi (u : Int) : 0 <= rV u /\ rV u < pV := by
  unfold rV
  split
  . exact Qeg (Qgt u)
  . split
    . exact Qeg (Qgr u)
    . decide +kernel
theorem Qi4 (u : Int) : rV u % 2 = 0 := by
  unfold rV
  split
  . exact EU (Qgt u)
  . split
    . exact EU (Qgr u)
    . rfl
/-- A square has a root. -/
theorem Qfj (u : Int) : okV (u * u % pV) = true := by
  by_cases h : u % pV = 0
  . have : u * u % pV = 0 := by rw [<- mm1, h, Int.zero_mul]; rfl
    rw [this]; exact Qg4
  . have h2 : u * u % pV ≠ 0 := fun e => by
      rcases JT e with e | e <;> exact h e
    refine (Qjf (Vy _) h2).2 ?_
    rw [Fk, Int.mul_pow, <- Int.pow_add, Qnk]
    exact Qfy u h
def Hj (xs : List Int) (b : Int) : List Int :=
  [Qb xs 0 * 2 % 18446744073709551616 + b, Qb xs 1 * 2 % 18446744073709551616 + Qb xs 0 / 9223372036854775808, Qb xs 2 * 2 % 18446744073709551616 + Qb xs 1 / 9223372036854775808, Qb xs 3 * 2 % 18446744073709551616 + Qb xs 2 / 9223372036854775808]
theorem D0 (x b : Int) (hb : 0 <= b /\ b <= 1) : bits BinOp.or IntKind.u64 (IntKind.u64.wrap (x * 2)) b = x * 2 % 18446744073709551616 + b := by
  rw [Yf]
  exact UH _ b 1 (by omega) (by omega) (by omega) hb.1 (by omega) (by omega)
theorem Ky (xs : List Int) (hx : QC xs) (b : Int) (hb : 0 <= b /\ b <= 1) : QC (Hj xs b) := by
  have x0 := hx.at 0; have x1 := hx.at 1; have x2 := hx.at 2; have x3 := hx.at 3
  intro x hx
  simp only [Hj, List.mem_cons, List.not_mem_nil, or_false] at hx
  omega
theorem QfX (xs : List Int) (hx : QC xs) (b : Int) (hb : 0 <= b /\ b <= 1) (hs : Qo xs 4 < 2 ^ 255) : Qo (Hj xs b) 4 = 2 * Qo xs 4 + b := by
  have x0 := hx.at 0; have x1 := hx.at 1; have x2 := hx.at 2; have x3 := hx.at 3
  have e0 : Qb (Hj xs b) 0 = Qb xs 0 * 2 % 18446744073709551616 + b := rfl
  have e1 : Qb (Hj xs b) 1 = Qb xs 1 * 2 % 18446744073709551616 + Qb xs 0 / 9223372036854775808 := rfl
  have e2 : Qb (Hj xs b) 2 = Qb xs 2 * 2 % 18446744073709551616 + Qb xs 1 / 9223372036854775808 := rfl
  have e3 : Qb (Hj xs b) 3 = Qb xs 3 * 2 % 18446744073709551616 + Qb xs 2 / 9223372036854775808 := rfl
  simp only [Qo, Nat.reduceMul, Int.reducePow, e0, e1, e2, e3] at hs ⊢
  omega
/-- A number, or what is left of it without the order, if it isn't below it. -/
def FV (xs : List Int) : List Int := if Qo xs 4 < Qo Uv 4 then xs else Vs xs Uv 4
theorem Qdc {xs : List Int} (hx : QC xs) : QC (FV xs) := by
  unfold FV
  split
  . exact hx
  . exact Fb _ _ _
theorem QbO {xs : List Int} (hl : xs.length = 4) : (FV xs).length = 4 := by
  unfold FV
  split
  . exact hl
  . simp [Vs]
theorem Qh2 {xs : List Int} (hx : QC xs) : Qo (FV xs) 4 = if Qo xs 4 < Qo Uv 4 then Qo xs 4 else Qo xs 4 - Qo Uv 4 := by
  unfold FV
  split
  . rfl
  . next h =>
    have hb := HH xs Uv hx YJ 4
    rw [if_neg h] at hb
    rw [HX xs Uv hx YJ 4 4 (Nat.le_refl _), hb]
    omega
/-- The order. -/
def QA : Int := 7237005577332262213973186563042994240857116359379907606001950938285454250989
theorem Ep : Qo Uv 4 = QA := by decide +kernel
theorem QgA (xs : List Int) (hx : QC xs) (rs : List Int) (hrw : QC rs) (n k : Nat) (hlt : k < 64 * n) (hrv : Qo rs 4 = Qo xs n / 2 ^ (64 * n - k) % QA) :
    Qo (FV (Hj rs (F2 xs (64 * n - 1 - k)))) 4 = Qo xs n / 2 ^ (64 * n - (k + 1)) % QA := by
  have hb := F1 xs (64 * n - 1 - k)
  have hbv := QbX xs hx n (64 * n - 1 - k) (by omega)
  have hh := Jv (Qo xs n) (64 * n - 1 - k)
  rw [show 64 * n - 1 - k + 1 = 64 * n - k by omega, <- hbv] at hh
  rw [show 64 * n - (k + 1) = 64 * n - 1 - k by omega, hh]
  have hlo : 0 <= Qo rs 4 /\ Qo rs 4 < QA := by rw [hrv]; unfold QA; omega
  have hd := QfX rs hrw _ hb (by have := hlo.2; unfold QA at this; omega)
  rw [Qh2 (Ky rs hrw _ hb), hd, Ep, hrv]
  generalize Qo xs n / 2 ^ (64 * n - k) = y
  generalize F2 xs (64 * n - 1 - k) = b at *
  unfold QA
  split <;> omega
theorem Qar (zs : List Int) (k : Nat) (x : Int) (hk : k < zs.length) (n : Nat) : Qo (zs.set k x) n = Qo zs n + (if k < n then (x - Qb zs k) * 2 ^ (64 * k) else 0) := by
  induction n with
  | zero => simp [Qo]
  | succ n ih =>
    simp only [Qo, ih, Zv zs k n x hk]
    by_cases e : n = k
    . subst e
      rw [if_neg (Nat.lt_irrefl _), if_pos rfl, if_pos (by omega)]
      generalize (2 : Int) ^ (64 * n) = p
      grind
    . rw [if_neg e]
      by_cases h : k < n
      . rw [if_pos h, if_pos (by omega)]; omega
      . rw [if_neg h, if_neg (by omega)]; omega
theorem QC.set {zs : List Int} (h : QC zs) (k : Nat) {x : Int} (hx : 0 <= x /\ x < 18446744073709551616) : QC (zs.set k x) := fun y hy => by
  rcases List.mem_or_eq_of_mem_set hy with h1 | h1
  . exact h y h1
  . exact h1 ▸ hx
/-- A product of words, and two words more. -/
theorem EL {x y p c : Int} (hx : 0 <= x /\ x < 18446744073709551616) (hy : 0 <= y /\ y < 18446744073709551616) : 0 <= x * y /\ x * y <= 340282366920938463426481119284349108225 := by
  refine ⟨Int.mul_nonneg hx.1 hy.1, ?_⟩
  have h1 : x * y <= 18446744073709551615 * y := Int.mul_le_mul_of_nonneg_right (by omega) hy.1
  omega
/-- One step of a row: its word, and what is carried. -/
theorem QaT (ps xs ys : List Int) (k j : Nat) (p0 c l c2 : Int) (hl : ps.length = 8) (hk : k < 4) (hj : j < 4)
    (h : Qo ps 8 + c * 2 ^ (64 * (k + j)) = p0 + Qb xs k * Qo ys j * 2 ^ (64 * k)) (he : l + c2 * 18446744073709551616 = Qb xs k * Qb ys j + Qb ps (k + j) + c) :
    Qo (ps.set (k + j) l) 8 + c2 * 2 ^ (64 * (k + (j + 1))) = p0 + Qb xs k * Qo ys (j + 1) * 2 ^ (64 * k) := by
  rw [Qar ps (k + j) l (by omega), if_pos (by omega), show k + (j + 1) = k + j + 1 by omega, Uq, Qo.eq_2 ys j]
  rw [show 64 * (k + j) = 64 * k + 64 * j by omega, Int.pow_add] at *
  generalize (2 : Int) ^ (64 * k) = p at *
  generalize (2 : Int) ^ (64 * j) = q at *
  generalize Qo ps 8 = v at *
  generalize Qo ys j = u at *
  generalize Qb ps (k + j) = a at *
  generalize Qb ys j = b at *
  generalize Qb xs k = x at *
  clear hl hk hj
  grind
theorem Eu (ps : List Int) (k : Nat) (T c l c2 : Int) (hl : ps.length = 8) (hk : k < 8) (h : Qo ps 8 + c * 2 ^ (64 * k) = T) (he : l + c2 * 18446744073709551616 = Qb ps k + c) :
    Qo (ps.set k l) 8 + c2 * 2 ^ (64 * (k + 1)) = T := by
  rw [Qar ps k l (by omega), if_pos (by omega), Uq]
  generalize (2 : Int) ^ (64 * k) = p at *
  generalize Qo ps 8 = v at *
  generalize Qb ps k = a at *
  clear hl hk
  grind
theorem QiX (ps xs ys cs : List Int) (hx : QC xs) (hy : QC ys) (hc : QC cs) (hp : QC ps) (k : Nat) (hk : k < 4) (c : Int) (hc0 : 0 <= c)
    (h : Qo ps 8 + c * 2 ^ (64 * 8) = Qo cs 4 + Qo xs k * Qo ys 4 + Qb xs k * Qo ys 4 * 2 ^ (64 * k)) : Qo ps 8 = Qo cs 4 + Qo xs (k + 1) * Qo ys 4 := by
  have e : Qo cs 4 + Qo xs k * Qo ys 4 + Qb xs k * Qo ys 4 * 2 ^ (64 * k) = Qo cs 4 + Qo xs (k + 1) * Qo ys 4 := by
    simp only [Qo.eq_2 xs k]
    generalize (2 : Int) ^ (64 * k) = p
    grind
  rw [e] at h
  have h1 := ZL xs hx (k + 1)
  have h2 := ZL ys hy 4
  have h3 := ZL cs hc 4
  have h4 := ZL ps hp 8
  have h5 : (2 : Int) ^ (64 * (k + 1)) <= 2 ^ (64 * 4) := by
    obtain rfl | rfl | rfl | rfl : k = 0 \/ k = 1 \/ k = 2 \/ k = 3 := by omega
    all_goals decide +kernel
  have h6 : Qo xs (k + 1) * Qo ys 4 <= (2 ^ (64 * 4) - 1) * (2 ^ (64 * 4) - 1) := Int.mul_le_mul (by omega) (by omega) h2.1 (by decide +kernel)
  have h8 : (2 : Int) ^ (64 * 8) = 2 ^ (64 * 4) * 2 ^ (64 * 4) := by rw [<- Int.pow_add]
  rw [h8] at h h4
  clear h8
  simp only [Nat.reduceMul, Int.reducePow] at *
  have h7 : 0 <= Qo xs (k + 1) * Qo ys 4 := Int.mul_nonneg h1.1 h2.1
  generalize Qo xs (k + 1) * Qo ys 4 = m at *
  have : c = 0 := by omega
  subst this
  omega
theorem Qat (cs zs : List Int) (n : Nat) (h : n <= cs.length) : Qo (cs ++ zs) n = Qo cs n := by
  induction n with
  | zero => rfl
  | succ n ih =>
    have e : Qb (cs ++ zs) n = Qb cs n := by simp [Qb, List.getElem?_append_left (show n < cs.length by omega)]
    simp only [Qo, ih (by omega), e]
theorem QfZ (cs : List Int) (h : cs.length = 4) : Qo (cs ++ [0, 0, 0, 0]) 8 = Qo cs 4 := by
  have e : ∀ j, 4 <= j -> j < 8 -> Qb (cs ++ [0, 0, 0, 0]) j = 0 := by
    intro j h1 h2
    simp only [Qb, List.getElem?_append_right (show cs.length <= j by omega), h]
    obtain rfl | rfl | rfl | rfl : j = 4 \/ j = 5 \/ j = 6 \/ j = 7 := by omega
    all_goals rfl
  rw [Qo, e 7 (by omega) (by omega), Qo, e 6 (by omega) (by omega), Qo, e 5 (by omega) (by omega), Qo, e 4 (by omega) (by omega), Qat cs _ 4 (by omega)]
  omega
theorem Qe9 {cs : List Int} (h : QC cs) : QC (cs ++ [0, 0, 0, 0]) := fun x hx => by
  rcases List.mem_append.1 hx with h1 | h1
  . exact h x h1
  . simp at h1; omega
theorem QiB (za : List Int) (hz : Qh za) : 0 <= Qq za 64 /\ Qq za 64 < 2 ^ 256 * 2 ^ 256 := by
  have h := UG za hz 64
  rw [show (2 : Int) ^ (8 * 64) = 2 ^ 256 * 2 ^ 256 by rw [<- Int.pow_add]] at h
  exact h
/-- Which operations an operation waits for. -/
def Qz (md : Region.Mode) (o : Oper) : List Nat := (o.after.toList.filter (Region.binds md)).map (·.on)
def QV (md : Region.Mode) (ops : Array Oper) (i : Nat) : List Nat := ((ops[i]?).map (Qz md)).getD []
def Xd (ops : Array Oper) (i : Nat) : Option Tmp := (ops[i]?).bind (·.dst)
/-- What was yielded by some operations alone. -/
def Zj (f : Nat -> Value) (l : List Nat) (k : Nat) : Value := if l.contains k then f k else undef
def Yq {α : Type} (f : Nat -> α) (i : Nat) (v : α) (k : Nat) : α := if k = i then v else f k
/-- The act, with what these operations have yielded. -/
def Xe (ops : Array Oper) (f : Nat -> Value) : List Nat -> Act -> Act
  | [], a => a
  | j :: l, a => Xe ops f l (a.put (Xd ops j) (f j))
/-- No two operations write one slot; an operation looks at a slot that another one writes just if it waits for it, or the other way round. -/
def Ud (md : Region.Mode) (ops : Array Oper) : Bool :=
  (List.range ops.size).all fun i => match ops[i]? with
    | none => true
    | some o => (match o.op with | .select .. => false | _ => true) && (Qz md o).all (fun j => decide (j < i)) &&
      (List.range ops.size).all fun j => match Xd ops j with
        | none => true
        | some t => (j == i || Xd ops i != some t) && (!(o.looksAt ops).contains t || j == i || (Qz md o).contains j || (QV md ops j).contains i) && !((Qz md o).contains j && (QV md ops j).contains i)

/-- An act that is another one with what some operations have yielded. -/
structure Q4 (ops : Array Oper) (L : Nat -> Prop) (f : Nat -> Value) (a a' : Act) : Prop where
  defers : a'.defers = a.defers
  size : a'.tmps.size = a.tmps.size
  put : ∀ j t, L j -> Xd ops j = some t -> t < a.tmps.size -> a'.tmps[t]? = some (f j)
  same : ∀ t, (∀ j, L j -> Xd ops j ≠ some t) -> a'.tmps[t]? = a.tmps[t]?

theorem Q4.start {ops : Array Oper} {f : Nat -> Value} {a : Act} {L : Nat -> Prop} (h : ∀ j, ¬ L j) : Q4 ops L f a a :=
  ⟨rfl, rfl, fun j t hj => absurd hj (h j), fun t _ => rfl⟩
theorem QaX (a : Act) (d : Option Tmp) (v : Value) : (a.put d v).tmps.size = a.tmps.size := by cases d <;> simp [Act.put]
theorem Kl (a : Act) (d : Option Tmp) (v : Value) : (a.put d v).defers = a.defers := by cases d <;> rfl
theorem KO (a : Act) (d : Option Tmp) (v : Value) (t : Nat) : (a.put d v).tmps[t]? = if d = some t /\ t < a.tmps.size then some v else a.tmps[t]? := by
  cases d with
  | none => simp [Act.put]
  | some d =>
    simp only [Act.put, Option.some.injEq]
    by_cases h : d = t
    . subst h
      by_cases hs : d < a.tmps.size
      . simp [hs]
      . simp [hs]
    . simp [h, Array.getElem?_setIfInBounds_ne h]

/-- No two of these write one slot. -/
def Own (ops : Array Oper) : Prop := ∀ i j t, Xd ops i = some t -> Xd ops j = some t -> i = j
theorem Q4.step {ops : Array Oper} (ho : Own ops) {L L' : Nat -> Prop} {f f' : Nat -> Value} {a a' : Act} (h : Q4 ops L f a a') (i : Nat) (v : Value)
    (hL : ∀ j, L' j ↔ (j = i \/ L j)) (hf : ∀ j, j ≠ i -> L j -> f' j = f j) (hi : f' i = v) : Q4 ops L' f' a (a'.put (Xd ops i) v) := by
  refine ⟨by rw [Kl]; exact h.defers, by rw [QaX]; exact h.size, fun j t hj hd ht => ?_, fun t hn => ?_⟩
  . rw [KO]
    by_cases e : Xd ops i = some t
    . have hij := ho i j t e hd
      subst hij
      rw [if_pos ⟨e, by rw [h.size]; exact ht⟩, hi]
    . rw [if_neg (fun x => e x.1)]
      have hji : j ≠ i := fun e2 => e (e2 ▸ hd)
      have hLj := ((hL j).1 hj).resolve_left hji
      rw [h.put j t hLj hd ht, hf j hji hLj]
  . rw [KO, if_neg (fun x => hn i ((hL i).2 (.inl rfl)) x.1)]
    exact h.same t fun j hj => hn j ((hL j).2 (.inr hj))
theorem Q4.congr {ops : Array Oper} {L L' : Nat -> Prop} {f f' : Nat -> Value} {a a' : Act} (h : Q4 ops L f a a') (hL : ∀ j, L j ↔ L' j) (hf : ∀ j, L j -> f j = f' j) : Q4 ops L' f' a a' :=
  ⟨h.defers, h.size, fun j t hj hd ht => by rw [<- hf j ((hL j).2 hj)]; exact h.put j t ((hL j).2 hj) hd ht, fun t hn => h.same t fun j hj => hn j ((hL j).1 hj)⟩
theorem Q4.puts {ops : Array Oper} (ho : Own ops) {f : Nat -> Value} {a : Act} : ∀ (l : List Nat) {L : Nat -> Prop} {a' : Act}, Q4 ops L f a a' -> Q4 ops (fun j => j ∈ l \/ L j) f a (Xe ops f l a')
  | [], L, a', h => h.congr (by simp) (fun _ _ => rfl)
  | i :: l, L, a', h => by
    have h1 := h.step ho (L' := fun j => j = i \/ L j) (f' := f) i (f i) (fun j => Iff.rfl) (fun _ _ _ => rfl) rfl
    have h2 := Q4.puts ho l h1
    exact h2.congr (fun j => by simp only [List.mem_cons]; exact ⟨fun h => h.elim (fun h => .inl (.inr h)) (fun h => h.elim (fun h => .inl (.inl h)) .inr), fun h => h.elim (fun h => h.elim (fun h => .inr (.inl h)) .inl) (fun h => .inr (.inr h))⟩) (fun _ _ => rfl)
theorem Q4.of {ops : Array Oper} (ho : Own ops) (f : Nat -> Value) (a : Act) (l : List Nat) : Q4 ops (· ∈ l) f a (Xe ops f l a) :=
  (Q4.puts ho l (Q4.start (L := fun _ => False) (fun _ h => h))).congr (by simp) (fun _ _ => rfl)
theorem Q4.unique {ops : Array Oper} {L : Nat -> Prop} {f : Nat -> Value} {a a' a'' : Act} (h : Q4 ops L f a a') (k : Q4 ops L f a a'') : a' = a'' := by
  have ht : a'.tmps = a''.tmps := by
    apply Array.ext_getElem?
    intro t
    by_cases ht : t < a.tmps.size
    . by_cases e : ∃ j, L j /\ Xd ops j = some t
      . obtain ⟨j, hj, hd⟩ := e
        rw [h.put j t hj hd ht, k.put j t hj hd ht]
      . have hn : ∀ j, L j -> Xd ops j ≠ some t := fun j hj hd => e ⟨j, hj, hd⟩
        rw [h.same t hn, k.same t hn]
    . rw [Array.getElem?_eq_none (by rw [h.size]; omega), Array.getElem?_eq_none (by rw [k.size]; omega)]
  have hd : a'.defers = a''.defers := by rw [h.defers, k.defers]
  cases a'; cases a''
  simp only at ht hd
  rw [ht, hd]

theorem Qc5 {a a' : Act} {x : Operand} (h : ∀ t, x = .tmp t -> a'.tmps[t]? = a.tmps[t]?) : a'.eval x = a.eval x := by
  cases x with
  | tmp t => have := h t rfl; simp [Act.eval, Array.getD_eq_getD_getElem?, this]
  | _ => rfl
theorem E6 {ops : Array Oper} {o : Oper} {a a' : Act} (h : ∀ t, t ∈ o.looksAt ops -> a'.tmps[t]? = a.tmps[t]?) : Region.wanted o (yielded ops a'.tmps) = Region.wanted o (yielded ops a.tmps) := by
  unfold Region.wanted
  cases hg : o.guard with
  | none => rfl
  | some gw =>
    obtain ⟨g, want⟩ := gw
    have hy : yielded ops a'.tmps g = yielded ops a.tmps g := by
      unfold yielded
      cases ht : (ops[g]?).bind (·.dst) with
      | none => rfl
      | some t =>
        have := h t (by simp [Oper.looksAt, hg, ht])
        simp [this]
    simp only [hy]
theorem Qc4 {ops : Array Oper} {o : Oper} {a a' : Act} (hs : ∀ cs b, o.op ≠ .select cs b) (h : ∀ t, t ∈ o.looksAt ops -> a'.tmps[t]? = a.tmps[t]?) : execOp a'.eval o = execOp a.eval o :=
  execOp_congr o hs fun x hx => Qc5 fun t ht => h t (by subst ht; exact List.mem_append_left _ (List.mem_filterMap.2 ⟨.tmp t, by simpa using hx, rfl⟩))

section
variable {P : Program} {ops : Array Oper} {md : Region.Mode}

/-- What is shown of one operation: from the act with what it waits for. -/
def Qt (P : Program) (ops : Array Oper) (o : Oper) (a : Act) (w : World) (R : Value -> World -> Prop) : Prop :=
  ∀ K : Act -> World -> Prop, (∀ v w', R v w' -> K (a.put o.dst v) w') -> if Region.wanted o (yielded ops a.tmps) then Oper.wp P o a w K (fun _ _ _ => False) else K (a.put o.dst undef) w

theorem KN {a a' : Act} {d : Option Tmp} {u v : Value} (hs : a'.tmps.size = a.tmps.size) (h : a.put d u = a.put d v) : a'.put d u = a'.put d v := by
  cases d with
  | none => rfl
  | some d =>
    by_cases hd : d < a.tmps.size
    . have h1 := congrArg (fun x : Act => x.tmps[d]?) h
      simp only [KO, hd, and_self, if_true, Option.some.injEq] at h1
      rw [h1]
    . simp only [Act.put]
      rw [Array.setIfInBounds_eq_of_size_le (by rw [hs]; exact Nat.le_of_not_lt hd), Array.setIfInBounds_eq_of_size_le (by rw [hs]; exact Nat.le_of_not_lt hd)]

theorem Qt.wpOp {Q : Exit -> Act -> World -> Prop} {i : Nat} {o : Oper} (hi : ops[i]? = some o) (hs : ∀ cs b, o.op ≠ .select cs b) {a a' : Act} {w : World} {R : Value -> World -> Prop} (hsz : a'.tmps.size = a.tmps.size)
    (hl : ∀ t, t ∈ o.looksAt ops -> a'.tmps[t]? = a.tmps[t]?) (h : Qt P ops o a w R) {K : Act -> World -> Prop} (hK : ∀ v w', R v w' -> K (a'.put o.dst v) w') : wpOp P ops Q i K a' w := by
  unfold Go.wpOp
  simp only [hi]
  have h := h (fun a1 w1 => ∃ v, a1 = a.put o.dst v /\ R v w1) (fun v w' hr => ⟨v, rfl, hr⟩)
  rw [E6 hl]
  by_cases hw : Region.wanted o (yielded ops a.tmps) = true
  . rw [if_pos hw] at h ⊢
    refine .inl ?_
    unfold Oper.wp at *
    rw [Qc4 hs hl]
    generalize (execOp a.eval o).run P w = r at *
    cases r with
    | ok n w' =>
      cases n <;> simp only [Oper.upon] at h ⊢
      case value u => obtain ⟨v, he, hr⟩ := h; rw [KN hsz he]; exact hK v _ hr
      case skip => obtain ⟨v, he, hr⟩ := h; rw [KN hsz he]; exact hK v _ hr
      case defer d =>
        obtain ⟨v, he, hr⟩ := h
        have h1 := congrArg (fun x : Act => x.defers.length) he
        simp [Kl] at h1
      case enter f args =>
        refine Calls.mono h fun e w'' he => ?_
        cases e with
        | returned u => obtain ⟨v, he, hr⟩ := he; show K (a'.put o.dst u) w''; rw [KN hsz he]; exact hK v _ hr
        | panicked c => exact False.elim he
        | outgrown => obtain ⟨_, _, hf⟩ := he; exact False.elim hf
      case row row args => exact Rows.mono h fun u w'' he => by obtain ⟨v, he, hr⟩ := he; rw [KN hsz he]; exact hK v _ hr
    | halt x w' =>
      cases x <;> simp only [Oper.upon] at h ⊢
  . rw [if_neg hw] at h ⊢
    obtain ⟨v, he, hr⟩ := h
    rw [KN hsz he]
    exact hK v _ hr

theorem GF {f : Nat -> Value} {l : List Nat} {i : Nat} {v : Value} (h : l.contains i = false) : Zj (Yq f i v) l = Zj f l := by
  funext k
  unfold Zj Yq
  by_cases e : k = i
  . subst e; rw [h]; simp
  . simp [e]

/-- What holds of an operation that has run. -/
abbrev Eb := Nat -> (Nat -> Value) -> World -> Prop

theorem Fu (h : Ud md ops = true) : Own ops := by
  intro i j t hi hj
  by_cases hij : i = j
  . exact hij
  . exfalso
    have hi' : i < ops.size := by
      rcases Nat.lt_or_ge i ops.size with h | h
      . exact h
      . simp [Xd, Array.getElem?_eq_none h] at hi
    have hj' : j < ops.size := by
      rcases Nat.lt_or_ge j ops.size with h | h
      . exact h
      . simp [Xd, Array.getElem?_eq_none h] at hj
    have h1 := List.all_eq_true.1 h i (List.mem_range.2 hi')
    rw [Array.getElem?_eq_getElem hi'] at h1
    simp only [Bool.and_eq_true] at h1
    have h2 := List.all_eq_true.1 h1.2 j (List.mem_range.2 hj')
    rw [hj] at h2
    simp only [Bool.and_eq_true] at h2
    have h3 := h2.1.1
    simp [hi] at h3
    exact hij h3.symm

theorem Vk (h : Ud md ops = true) {i : Nat} {o : Oper} (hi : ops[i]? = some o) : (∀ cs b, o.op ≠ .select cs b) /\ (∀ j ∈ Qz md o, j < i) /\
    ∀ j t, j < ops.size -> Xd ops j = some t -> (t ∈ o.looksAt ops -> j = i \/ j ∈ Qz md o \/ i ∈ QV md ops j) /\ ¬ (j ∈ Qz md o /\ i ∈ QV md ops j) := by
  have hi' : i < ops.size := (Array.getElem?_eq_some_iff.1 hi).1
  have h1 := List.all_eq_true.1 h i (List.mem_range.2 hi')
  rw [hi] at h1
  simp only [Bool.and_eq_true] at h1
  refine ⟨fun cs b e => ?_, fun j hj => ?_, fun j t hj hd => ?_⟩
  . have := h1.1.1
    rw [e] at this
    simp at this
  . have := List.all_eq_true.1 h1.1.2 j hj
    simpa using this
  . have h2 := List.all_eq_true.1 h1.2 j (List.mem_range.2 hj)
    rw [hd] at h2
    simp only [Bool.and_eq_true] at h2
    refine ⟨fun ht => ?_, fun hx => ?_⟩
    . have h3 := h2.1.2
      simp only [Bool.or_eq_true, Bool.not_eq_true', List.contains_iff_mem, beq_iff_eq] at h3
      rcases h3 with ((h3 | h3) | h3) | h3
      . rw [<- List.contains_iff_mem] at ht; rw [ht] at h3; cases h3
      . exact .inl h3
      . exact .inr (.inl h3)
      . exact .inr (.inr h3)
    . have h3 := h2.2
      simp only [Bool.not_eq_true', Bool.and_eq_false_iff] at h3
      rcases h3 with h3 | h3
      . have := List.contains_iff_mem.2 hx.1; rw [this] at h3; cases h3
      . have := List.contains_iff_mem.2 hx.2; rw [this] at h3; cases h3

theorem U3 (hb : Ud md ops = true) {listed : Array Bool} (hsz : listed.size = ops.size) (hr : Region.ready md ops listed = []) : ∀ j, j < ops.size -> listed.getD j false = true := by
  intro j
  induction j using Nat.strongRecOn with
  | _ j ih =>
    intro hj
    by_cases hl : listed.getD j false = true
    . exact hl
    . exfalso
      have ho : ops[j]? = some ops[j] := Array.getElem?_eq_getElem hj
      have hd := (Vk hb ho).2.1
      have : j ∈ Region.ready md ops listed := by
        refine mem_ready.2 ⟨?_, _, ho, fun e he hbd => ?_⟩
        . rw [Array.getD_eq_getD_getElem?, Array.getElem?_eq_getElem (by omega)] at hl ⊢
          simpa using hl
        . have hm : e.on ∈ Qz md ops[j] := List.mem_map.2 ⟨e, List.mem_filter.2 ⟨by simpa using he, hbd⟩, rfl⟩
          have := hd _ hm
          exact ih _ this (by omega)
      rw [hr] at this
      cases this

theorem Yk {i : Nat} {o : Oper} (hi : ops[i]? = some o) : QV md ops i = Qz md o := by simp [QV, hi]
/-- The law. G holds throughout, said of which operations have run; what is shown of an operation (F) bears what others do to the world (R). -/
theorem Qaq {Q : Exit -> Act -> World -> Prop} (hb : Ud md ops = true) (a : Act) (G : (Nat -> Bool) -> World -> Prop) (F : Eb) (R : Nat -> (Nat -> Value) -> World -> World -> Prop)
    (hF : ∀ i f w w' j g, R i f w w' -> j ≠ i -> F j g w -> F j g w')
    (hstep : ∀ i o, ops[i]? = some o -> ∀ L f w, L i = false -> (∀ j, i ∈ QV md ops j -> L j = false) -> G L w -> (∀ j ∈ Qz md o, F j (Zj f (j :: QV md ops j)) w) ->
      Qt P ops o (Xe ops f (Qz md o) a) w fun v w' => R i (Zj f (Qz md o)) w w' /\ G (Yq L i true) w' /\ F i (Zj (Yq f i v) (i :: Qz md o)) w')
    (hend : ∀ L f w, (∀ j, L j = decide (j < ops.size)) -> G L w -> (∀ j, j < ops.size -> F j (Zj f (j :: QV md ops j)) w) -> Q .normal (Xe ops f (List.range ops.size) a) w) :
    ∀ (fuel : Nat) (listed : Array Bool) (f : Nat -> Value) (a' : Act) (w : World), listed.size = ops.size -> (listed.toList.countP (fun b => !b) <= fuel) ->
      (∀ j, listed.getD j false = true -> ∀ k ∈ QV md ops j, listed.getD k false = true) ->
      Q4 ops (fun j => listed.getD j false = true) f a a' -> G (fun j => listed.getD j false) w -> (∀ j, listed.getD j false = true -> F j (Zj f (j :: QV md ops j)) w) -> wpAny P md ops Q fuel listed a' w := by
  have ho := Fu hb
  have fin : ∀ (listed : Array Bool) (f : Nat -> Value) (a' : Act) (w : World), listed.size = ops.size -> Region.ready md ops listed = [] ->
      Q4 ops (fun j => listed.getD j false = true) f a a' -> G (fun j => listed.getD j false) w -> (∀ j, listed.getD j false = true -> F j (Zj f (j :: QV md ops j)) w) -> Q .normal a' w := by
    intro listed f a' w hsz hr hag hg hf
    have hl := U3 hb hsz hr
    have hout : ∀ j, listed.getD j false = true -> j < ops.size := by
      intro j h
      rcases Nat.lt_or_ge j ops.size with h' | h'
      . exact h'
      . simp [Array.getElem?_eq_none (by omega : listed.size <= j)] at h
    have e : a' = Xe ops f (List.range ops.size) a := by
      refine hag.unique ((Q4.of ho f a (List.range ops.size)).congr (fun j => ?_) (fun _ _ => rfl))
      rw [List.mem_range]
      exact ⟨hl j, hout j⟩
    rw [e]
    refine hend _ f w (fun j => ?_) hg fun j hj => hf j (hl j hj)
    by_cases hj : j < ops.size
    . rw [hl j hj]; simp [hj]
    . have : ¬ listed.getD j false = true := fun h => hj (hout j h)
      rw [Bool.not_eq_true] at this
      rw [this]; simp [hj]
  intro fuel
  induction fuel with
  | zero =>
    intro listed f a' w hsz hc hcl hag hg hf
    have hr : Region.ready md ops listed = [] := by
      rw [List.eq_nil_iff_forall_not_mem]
      intro j hj
      obtain ⟨h0, o, hoj, _⟩ := mem_ready.1 hj
      have hjs : j < ops.size := (Array.getElem?_eq_some_iff.1 hoj).1
      have hc0 : listed.toList.countP (fun b => !b) = 0 := by omega
      rw [List.countP_eq_zero] at hc0
      have h1 := hc0 listed[j] (by simp)
      rw [Array.getD_eq_getD_getElem?, Array.getElem?_eq_getElem (by omega)] at h0
      simp only [Option.getD_some] at h0
      rw [h0] at h1
      exact h1 rfl
    exact ⟨hr, fin listed f a' w hsz hr hag hg hf⟩
  | succ fuel ih =>
    intro listed f a' w hsz hc hcl hag hg hf
    refine ⟨fun hr => fin listed f a' w hsz hr hag hg hf, fun i hi => ?_⟩
    obtain ⟨h0, o, hoi, hdep⟩ := mem_ready.1 hi
    have his : i < ops.size := (Array.getElem?_eq_some_iff.1 hoi).1
    obtain ⟨hsel, hlt, hlook⟩ := Vk hb hoi
    have hdl : ∀ j ∈ Qz md o, listed.getD j false = true := by
      intro j hj
      obtain ⟨e, he, rfl⟩ := List.mem_map.1 hj
      obtain ⟨he1, he2⟩ := List.mem_filter.1 he
      exact hdep e (by simpa using he1) he2
    have hun : ¬ listed.getD i false = true := by
      intro h
      rw [Array.getD_eq_getD_getElem?, Array.getElem?_eq_getElem (by omega)] at h0 h
      simp only [Option.getD_some] at h0 h
      rw [h0] at h
      cases h
    have hA := Q4.of ho f a (Qz md o)
    have hdst : o.dst = Xd ops i := by simp [Xd, hoi]
    have hset : ∀ j, (listed.setIfInBounds i true).getD j false = Yq (fun j => listed.getD j false) i true j := by
      intro j
      unfold Yq
      by_cases e : j = i
      . subst e
        simp [Array.getD_eq_getD_getElem?, hsz, his]
      . rw [getD_set_ne false (fun h => e h.symm), if_neg e]
    refine Qt.wpOp hoi hsel (a := Xe ops f (Qz md o) a) (by rw [hag.size, hA.size]) (fun t ht => ?_)
      (hstep i o hoi (fun j => listed.getD j false) f w (by simpa using hun) (fun j hj => by
        rw [<- Bool.not_eq_true]
        exact fun h => hun (hcl j h i hj)) hg fun j hj => hf j (hdl j hj)) fun v w' hR => ?_
    . by_cases hts : t < a.tmps.size
      . by_cases e : ∃ j, Xd ops j = some t
        . obtain ⟨j, hd⟩ := e
          have hj' : j < ops.size := by
            rcases Nat.lt_or_ge j ops.size with h | h
            . exact h
            . simp [Xd, Array.getElem?_eq_none h] at hd
          have hl := hlook j t hj' hd
          by_cases hjd : j ∈ Qz md o
          . rw [hag.put j t (hdl j hjd) hd hts, hA.put j t hjd hd hts]
          . have hjl : ¬ listed.getD j false = true := by
              intro hjl
              rcases hl.1 ht with h | h | h
              . exact hun (h ▸ hjl)
              . exact hjd h
              . exact hun (hcl j hjl i h)
            rw [hag.same t (fun k hk hkd => hjl (ho k j t hkd hd ▸ hk)), hA.same t (fun k hk hkd => hjd (ho k j t hkd hd ▸ hk))]
        . have hn : ∀ j, Xd ops j ≠ some t := fun j hj => e ⟨j, hj⟩
          rw [hag.same t (fun j _ => hn j), hA.same t (fun j _ => hn j)]
      . rw [Array.getElem?_eq_none (by rw [hag.size]; exact Nat.le_of_not_lt hts), Array.getElem?_eq_none (by rw [hA.size]; exact Nat.le_of_not_lt hts)]
    . obtain ⟨hR1, hR3, hR2⟩ := hR
      have hset' : ∀ j, (listed.setIfInBounds i true).getD j false = true ↔ (j = i \/ listed.getD j false = true) := by
        intro j
        rw [hset j]
        unfold Yq
        by_cases e : j = i <;> simp [e]
      rw [hdst]
      refine ih (listed.setIfInBounds i true) (Yq f i v) _ w' (by simp [hsz]) ?_ ?_ ?_ (by rw [show (fun j => (listed.setIfInBounds i true).getD j false) = Yq (fun j => listed.getD j false) i true from funext hset]; exact hR3) ?_
      . have hc2 : (listed.setIfInBounds i true).toList.countP (fun b => !b) + 1 <= listed.toList.countP (fun b => !b) := by
          rw [Array.toList_setIfInBounds]
          have hlen : i < listed.toList.length := by simpa [hsz] using his
          have hli : listed.toList[i] = false := by
            rw [Array.getD_eq_getD_getElem?, Array.getElem?_eq_getElem (by omega)] at h0
            simpa using h0
          rw [List.countP_set hlen, hli]
          have : 0 < listed.toList.countP (fun b => !b) := List.countP_pos_iff.2 ⟨false, by rw [<- hli]; exact List.getElem_mem _, rfl⟩
          simp only [Bool.not_false, Bool.not_true, if_true, Bool.false_eq_true, if_false]
          omega
        omega
      . intro j hj k hk
        rw [hset'] at hj ⊢
        rcases hj with rfl | hj
        . rw [Yk hoi] at hk
          exact .inr (hdl k hk)
        . exact .inr (hcl j hj k hk)
      . exact hag.step ho i v hset' (fun j hji _ => by simp [Yq, hji]) (by simp [Yq])
      . intro j hj
        rw [hset'] at hj
        by_cases e : j = i
        . subst e
          rw [Yk hoi]
          exact hR2
        . have hjl := hj.resolve_left e
          have hnc : (j :: QV md ops j).contains i = false := by
            rw [<- Bool.not_eq_true, List.contains_iff_mem, List.mem_cons]
            rintro (h | h)
            . exact e h.symm
            . exact hun (hcl j hjl i h)
          rw [GF hnc]
          exact hF i _ w w' j _ hR1 e (hf j hjl)

/-- The acts, by a list of slots. -/
def QcB (ds : List (Option Tmp)) (f : Nat -> Value) : List Nat -> Act -> Act
  | [], a => a
  | j :: l, a => QcB ds f l (a.put (ds[j]?.join) (f j))
theorem Do {ds : List (Option Tmp)} (h : ops.toList.map (·.dst) = ds) (f : Nat -> Value) : ∀ (l : List Nat) (a : Act), Xe ops f l a = QcB ds f l a
  | [], a => rfl
  | j :: l, a => by
    have e : Xd ops j = ds[j]?.join := by
      subst h
      simp only [Xd, List.getElem?_map, Array.getElem?_toList]
      cases ops[j]? <;> rfl
    simp only [Xe, QcB, e, Do h f l]
/-- What holds of those that an operation waits for. -/
def Eo (F : Eb) (dl : List (List Nat)) (f : Nat -> Value) (w : World) : List Nat -> Prop
  | [] => True
  | j :: l => F j (Zj f (j :: (dl[j]?).getD [])) w /\ Eo F dl f w l
theorem Eo.of {F : Eb} {dl : List (List Nat)} {f : Nat -> Value} {w : World} : ∀ (l : List Nat), (∀ j ∈ l, F j (Zj f (j :: (dl[j]?).getD [])) w) -> Eo F dl f w l
  | [], _ => trivial
  | j :: l, h => ⟨h j (by simp), Eo.of l fun k hk => h k (by simp [hk])⟩
theorem Qt.mono {o : Oper} {a : Act} {w : World} {R R' : Value -> World -> Prop} (h : Qt P ops o a w R) (hr : ∀ v w', R v w' -> R' v w') : Qt P ops o a w R' := fun K hK => h K fun v w' hv => hK v w' (hr v w' hv)

end
section
variable {P : Program} {ops : Array Oper} {o : Oper} {a : Act} {w : World} {R : Value -> World -> Prop}

theorem Qt.of_wp (hw : Region.wanted o (yielded ops a.tmps) = true) (h : ∀ K : Act -> World -> Prop, (∀ v w', R v w' -> K (a.put o.dst v) w') -> Oper.wp P o a w K (fun _ _ _ => False)) : Qt P ops o a w R := fun K hK => by
  rw [if_pos hw]; exact h K hK
/-- An operation that yields, and leaves the world alone. -/
theorem Qt.pure (hw : Region.wanted o (yielded ops a.tmps) = true) (v : Value) (hx : (execOp a.eval o).run P w = .ok (.value v) w) (hR : R v w) : Qt P ops o a w R :=
  Qt.of_wp hw fun K hK => by unfold Oper.wp; rw [hx]; exact hK v w hR
/-- A guarded operation that isn't wanted. -/
theorem Qt.off (hw : Region.wanted o (yielded ops a.tmps) = false) (hR : R undef w) : Qt P ops o a w R := fun K hK => by
  rw [if_neg (by rw [hw]; simp)]; exact hK _ _ hR
/-- A call of a Go function. -/
theorem Qt.call (hw : Region.wanted o (yielded ops a.tmps) = true) (f : FuncId) (args : Array Value) (hx : (execOp a.eval o).run P w = .ok (.enter f args) w) (hc : Calls P f args w fun e w' => ∃ v, e = .returned v /\ R v w') : Qt P ops o a w R :=
  Qt.of_wp hw fun K hK => by
    unfold Oper.wp
    rw [hx]
    refine Calls.mono hc fun e w' he => ?_
    obtain ⟨v, rfl, hr⟩ := he
    exact hK v w' hr
theorem Oper.wp_weaken {K : Act -> World -> Prop} {Q' Q : Exit -> Act -> World -> Prop} (hq : ∀ e a w, Q' e a w -> Q e a w) (h : Oper.wp P o a w K Q') : Oper.wp P o a w K Q := by
  unfold Oper.wp at *
  generalize (execOp a.eval o).run P w = r at *
  cases r with
  | ok n w' =>
    cases n <;> simp only [Oper.upon] at h ⊢ <;>
      first
        | exact h
        | exact Calls.mono h (fun e w'' he => by
            cases e with
            | returned u => exact he
            | panicked c => exact hq _ _ _ he
            | outgrown => obtain ⟨x, y, hxy⟩ := he; exact ⟨x, y, hq _ _ _ hxy⟩)
  | halt x w' =>
    cases x <;> simp only [Oper.upon] at h ⊢
    case panic u => exact hq _ _ _ h
/-- What is shown of one operation, in a region whose order is fixed. -/
theorem YX {rest : List Oper} {Q : Exit -> Act -> World -> Prop} (h : Qt P ops o a w R) (hk : ∀ v w', R v w' -> wpList P ops Q rest (a.put o.dst v) w') : wpList P ops Q (o :: rest) a w := by
  refine wpList_step fun K hK => ?_
  have h' := h K fun v w' hr => hK _ _ (hk v w' hr)
  split
  . next hw => rw [if_pos hw] at h'; exact Oper.wp_weaken (fun _ _ _ hf => hf.elim) h'
  . next hw => rw [if_neg hw] at h'; exact h'
/-- A guard that is met. -/
theorem QeK {g t : Nat} {b : Bool} (hg : o.guard = some (g, b)) (hd : Xd ops g = some t) (hv : a.eval (.tmp t) = .bool b) : Region.wanted o (yielded ops a.tmps) = true := by
  have h : a.tmps[t]? = some (.bool b) := by
    simp only [Act.eval, Array.getD_eq_getD_getElem?] at hv
    cases hq : a.tmps[t]? with
    | none => rw [hq] at hv; simp [undef] at hv
    | some x => rw [hq] at hv; simp at hv; rw [hv]
  have hy : yielded ops a.tmps g = some b := by
    unfold yielded
    unfold Xd at hd
    rw [hd]
    simp [h]
  unfold Region.wanted
  simp [hg, hy]
variable {ds : List (Option Tmp)} {dl : List (List Nat)} {s : Nat} {G : Bool -> World -> Prop} {F : Eb} {S : (Nat -> Value) -> World -> World -> Prop}
end
/-- A frame of so many slots, nothing deferred. -/
def Fm (n : Nat) (a : Act) : Prop := a.tmps.size = n /\ a.defers = []
/-- What the other slots hold stays. -/
def Qny (a a' : Act) (d : Nat) : Prop := ∀ t u, decide (t = d) = false -> a.eval (.tmp t) = u -> a'.eval (.tmp t) = u
theorem Vm (a : Act) (t : Nat) : a.eval (.tmp t) = a.tmps[t]?.getD undef := by simp [Act.eval, Array.getD_eq_getD_getElem?]
theorem Fm.put {n : Nat} {a : Act} (h : Fm n a) (d : Option Tmp) (v : Value) : Fm n (a.put d v) := ⟨by rw [QaX]; exact h.1, by rw [Kl]; exact h.2⟩
theorem QgI {n d : Nat} {a : Act} (h : Fm n a) (hd : decide (d < n) = true) (v : Value) : (a.put (some d) v).eval (.tmp d) = v := by
  rw [Vm, KO, if_pos ⟨rfl, by rw [h.1]; exact of_decide_eq_true hd⟩]
  rfl
theorem QgH {a : Act} {d : Nat} (v : Value) : Qny a (a.put (some d) v) d := fun t u ht hu => by
  rw [Vm, KO, if_neg (fun h => by have := of_decide_eq_false ht; cases h.1; exact this rfl), <- Vm, hu]

section
variable {P : Program} {ops : Array Oper} {o : Oper} {a : Act} {w : World} {R : Value -> World -> Prop} {rest : List Oper} {Q : Exit -> Act -> World -> Prop} {n : Nat}

theorem Qau {g t : Nat} {b c : Bool} (hg : o.guard = some (g, b)) (hd : Xd ops g = some t) (hv : a.eval (.tmp t) = .bool c) (hbc : (c == b) = false) : Region.wanted o (yielded ops a.tmps) = false := by
  have h : a.tmps[t]? = some (.bool c) := by
    rw [Vm] at hv
    cases hq : a.tmps[t]? with
    | none => rw [hq] at hv; simp [undef] at hv
    | some x => rw [hq] at hv; simp at hv; rw [hv]
  have hy : yielded ops a.tmps g = some c := by
    unfold Xd at hd
    unfold yielded
    rw [hd]
    simp [h]
  unfold Region.wanted
  rw [hg]
  simp only [hy]
  cases b <;> cases c <;> simp_all
theorem Qt.move (hw : Region.wanted o (yielded ops a.tmps) = true) {x : Operand} (ho : o.op = .move x) {v : Value} (hx : a.eval x = v) (hR : R v w) : Qt P ops o a w R :=
  Qt.pure hw v (by unfold execOp; simp only [ho, hx]; rfl) hR
theorem Qt.assign (hw : Region.wanted o (yielded ops a.tmps) = true) {x : Operand} (ho : o.op = .assign x) {v : Value} (hx : a.eval x = v) (hR : R v w) : Qt P ops o a w R :=
  Qt.pure hw v (by unfold execOp; simp only [ho, hx]; rfl) hR
theorem Qt.pick (hw : Region.wanted o (yielded ops a.tmps) = true) {c x y : Operand} (ho : o.op = .pick c x y) {b : Bool} (hc : a.eval c = .bool b) {v : Value} (hv : (if b then a.eval x else a.eval y) = v) (hR : R v w) : Qt P ops o a w R :=
  Qt.pure hw v (by unfold execOp; simp only [ho, hc, asBool, Sem.run_bind, Sem.run_pure, Result.andThen_ok]; rw [<- hv]) hR
theorem Qt.not (hw : Region.wanted o (yielded ops a.tmps) = true) {t : TypeId} {x : Operand} (ho : o.op = .unOp .not t x) {b : Bool} (hx : a.eval x = .bool b) {c : Bool} (hc : (!b) = c) (hR : R (.bool c) w) : Qt P ops o a w R :=
  Qt.pure hw _ (by unfold execOp; simp only [ho, hx]; simp [Op.unary, hc]) hR
theorem Qt.add (hw : Region.wanted o (yielded ops a.tmps) = true) {t t' : TypeId} {x y : Operand} (ho : o.op = .binOp .add t x y t') {K : IntKind} {m n : Int} (hx : a.eval x = .int K m) (hy : a.eval y = .int K n) {r : Int} (hr : K.wrap (m + n) = r) (hR : R (.int K r) w) : Qt P ops o a w R :=
  Qt.pure hw _ (by unfold execOp; simp only [ho, hx, hy, eqGuard, Sem.run_bind, Sem.run_pure, Result.andThen_ok]; simp [binOp, Op.intArith, hr]) hR
theorem Qt.sub (hw : Region.wanted o (yielded ops a.tmps) = true) {t t' : TypeId} {x y : Operand} (ho : o.op = .binOp .sub t x y t') {K : IntKind} {m n : Int} (hx : a.eval x = .int K m) (hy : a.eval y = .int K n) {r : Int} (hr : K.wrap (m - n) = r) (hR : R (.int K r) w) : Qt P ops o a w R :=
  Qt.pure hw _ (by unfold execOp; simp only [ho, hx, hy, eqGuard, Sem.run_bind, Sem.run_pure, Result.andThen_ok]; simp [binOp, Op.intArith, hr]) hR
theorem Qt.mul (hw : Region.wanted o (yielded ops a.tmps) = true) {t t' : TypeId} {x y : Operand} (ho : o.op = .binOp .mul t x y t') {K : IntKind} {m n : Int} (hx : a.eval x = .int K m) (hy : a.eval y = .int K n) {r : Int} (hr : K.wrap (m * n) = r) (hR : R (.int K r) w) : Qt P ops o a w R :=
  Qt.pure hw _ (by unfold execOp; simp only [ho, hx, hy, eqGuard, Sem.run_bind, Sem.run_pure, Result.andThen_ok]; simp [binOp, Op.intArith, hr]) hR
theorem Qt.quo (hw : Region.wanted o (yielded ops a.tmps) = true) {t t' : TypeId} {x y : Operand} (ho : o.op = .binOp .quo t x y t') {K : IntKind} {m n : Int} (hx : a.eval x = .int K m) (hy : a.eval y = .int K n) (hn : n ≠ 0) {r : Int} (hr : K.wrap (m.tdiv n) = r) (hR : R (.int K r) w) : Qt P ops o a w R :=
  Qt.pure hw _ (by unfold execOp; simp only [ho, hx, hy, eqGuard, Sem.run_bind, Sem.run_pure, Result.andThen_ok]; simp [binOp, Op.intDiv, hn, hr]) hR
theorem Qt.rem (hw : Region.wanted o (yielded ops a.tmps) = true) {t t' : TypeId} {x y : Operand} (ho : o.op = .binOp .rem t x y t') {K : IntKind} {m n : Int} (hx : a.eval x = .int K m) (hy : a.eval y = .int K n) (hn : n ≠ 0) {r : Int} (hr : m.tmod n = r) (hR : R (.int K r) w) : Qt P ops o a w R :=
  Qt.pure hw _ (by unfold execOp; simp only [ho, hx, hy, eqGuard, Sem.run_bind, Sem.run_pure, Result.andThen_ok]; simp [binOp, Op.intDiv, hn, hr]) hR
theorem Qt.and (hw : Region.wanted o (yielded ops a.tmps) = true) {t t' : TypeId} {x y : Operand} (ho : o.op = .binOp .and t x y t') {K : IntKind} {m n : Int} (hx : a.eval x = .int K m) (hy : a.eval y = .int K n) {r : Int} (hr : bits .and K m n = r) (hR : R (.int K r) w) : Qt P ops o a w R :=
  Qt.pure hw _ (by unfold execOp; simp only [ho, hx, hy, eqGuard, Sem.run_bind, Sem.run_pure, Result.andThen_ok]; simp [binOp, Op.intBits, <- hr, bits]) hR
theorem Qt.or (hw : Region.wanted o (yielded ops a.tmps) = true) {t t' : TypeId} {x y : Operand} (ho : o.op = .binOp .or t x y t') {K : IntKind} {m n : Int} (hx : a.eval x = .int K m) (hy : a.eval y = .int K n) {r : Int} (hr : bits .or K m n = r) (hR : R (.int K r) w) : Qt P ops o a w R :=
  Qt.pure hw _ (by unfold execOp; simp only [ho, hx, hy, eqGuard, Sem.run_bind, Sem.run_pure, Result.andThen_ok]; simp [binOp, Op.intBits, <- hr, bits]) hR
theorem Qt.xor (hw : Region.wanted o (yielded ops a.tmps) = true) {t t' : TypeId} {x y : Operand} (ho : o.op = .binOp .xor t x y t') {K : IntKind} {m n : Int} (hx : a.eval x = .int K m) (hy : a.eval y = .int K n) {r : Int} (hr : bits .xor K m n = r) (hR : R (.int K r) w) : Qt P ops o a w R :=
  Qt.pure hw _ (by unfold execOp; simp only [ho, hx, hy, eqGuard, Sem.run_bind, Sem.run_pure, Result.andThen_ok]; simp [binOp, Op.intBits, <- hr, bits]) hR
theorem Qt.lss (hw : Region.wanted o (yielded ops a.tmps) = true) {t t' : TypeId} {x y : Operand} (ho : o.op = .binOp .lss t x y t') {K : IntKind} {m n : Int} (hx : a.eval x = .int K m) (hy : a.eval y = .int K n) {b : Bool} (hb : decide (m < n) = b) (hR : R (.bool b) w) : Qt P ops o a w R :=
  Qt.pure hw _ (by unfold execOp; simp only [ho, hx, hy, eqGuard, Sem.run_bind, Sem.run_pure, Result.andThen_ok]; simp [binOp, Op.intCmp, <- hb]) hR
theorem Qt.leq (hw : Region.wanted o (yielded ops a.tmps) = true) {t t' : TypeId} {x y : Operand} (ho : o.op = .binOp .leq t x y t') {K : IntKind} {m n : Int} (hx : a.eval x = .int K m) (hy : a.eval y = .int K n) {b : Bool} (hb : decide (m <= n) = b) (hR : R (.bool b) w) : Qt P ops o a w R :=
  Qt.pure hw _ (by unfold execOp; simp only [ho, hx, hy, eqGuard, Sem.run_bind, Sem.run_pure, Result.andThen_ok]; simp [binOp, Op.intCmp, <- hb]) hR
theorem Qt.gtr (hw : Region.wanted o (yielded ops a.tmps) = true) {t t' : TypeId} {x y : Operand} (ho : o.op = .binOp .gtr t x y t') {K : IntKind} {m n : Int} (hx : a.eval x = .int K m) (hy : a.eval y = .int K n) {b : Bool} (hb : decide (m > n) = b) (hR : R (.bool b) w) : Qt P ops o a w R :=
  Qt.pure hw _ (by unfold execOp; simp only [ho, hx, hy, eqGuard, Sem.run_bind, Sem.run_pure, Result.andThen_ok]; simp [binOp, Op.intCmp, <- hb]) hR
theorem Qt.geq (hw : Region.wanted o (yielded ops a.tmps) = true) {t t' : TypeId} {x y : Operand} (ho : o.op = .binOp .geq t x y t') {K : IntKind} {m n : Int} (hx : a.eval x = .int K m) (hy : a.eval y = .int K n) {b : Bool} (hb : decide (m ≥ n) = b) (hR : R (.bool b) w) : Qt P ops o a w R :=
  Qt.pure hw _ (by unfold execOp; simp only [ho, hx, hy, eqGuard, Sem.run_bind, Sem.run_pure, Result.andThen_ok]; simp [binOp, Op.intCmp, <- hb]) hR
theorem Qt.eqlN (hw : Region.wanted o (yielded ops a.tmps) = true) {t t' : TypeId} {x y : Operand} (ho : o.op = .binOp .eql t x y t') {K : IntKind} {m n : Int} (hx : a.eval x = .int K m) (hy : a.eval y = .int K n) {b : Bool} (hb : (m == n) = b) (hR : R (.bool b) w) : Qt P ops o a w R :=
  Qt.pure hw _ (by unfold execOp; simp only [ho, hx, hy, eqGuard, Sem.run_bind, Sem.run_pure, Result.andThen_ok]; simp [binOp, Op.intCmp, <- hb]) hR
theorem Qt.neqN (hw : Region.wanted o (yielded ops a.tmps) = true) {t t' : TypeId} {x y : Operand} (ho : o.op = .binOp .neq t x y t') {K : IntKind} {m n : Int} (hx : a.eval x = .int K m) (hy : a.eval y = .int K n) {b : Bool} (hb : (m != n) = b) (hR : R (.bool b) w) : Qt P ops o a w R :=
  Qt.pure hw _ (by unfold execOp; simp only [ho, hx, hy, eqGuard, Sem.run_bind, Sem.run_pure, Result.andThen_ok]; simp [binOp, Op.intCmp, <- hb]) hR
theorem Qt.shl (hw : Region.wanted o (yielded ops a.tmps) = true) {t t' : TypeId} {x y : Operand} (ho : o.op = .binOp .shl t x y t') {K K2 : IntKind} {m n : Int} (hx : a.eval x = .int K m) (hy : a.eval y = .int K2 n) (hn : 0 <= n) (hn2 : n <= K.bits) {r : Int} (hr : K.wrap (m * 2 ^ n.toNat) = r) (hR : R (.int K r) w) : Qt P ops o a w R := by
  have e1 : min n.toNat K.bits = n.toNat := Nat.min_eq_left (by omega)
  have e2 : ¬ n < 0 := by omega
  exact Qt.pure hw _ (by unfold execOp; simp only [ho, hx, hy, eqGuard, Sem.run_bind, Sem.run_pure, Result.andThen_ok]; simp [binOp, Op.shift, e1, e2, hr]) hR
theorem Qt.shr (hw : Region.wanted o (yielded ops a.tmps) = true) {t t' : TypeId} {x y : Operand} (ho : o.op = .binOp .shr t x y t') {K K2 : IntKind} {m n : Int} (hx : a.eval x = .int K m) (hy : a.eval y = .int K2 n) (hn : 0 <= n) (hn2 : n <= K.bits) {r : Int} (hr : m / 2 ^ n.toNat = r) (hR : R (.int K r) w) : Qt P ops o a w R := by
  have e1 : min n.toNat K.bits = n.toNat := Nat.min_eq_left (by omega)
  have e2 : ¬ n < 0 := by omega
  have e3 : m.fdiv (2 ^ n.toNat) = m / 2 ^ n.toNat := Int.fdiv_eq_ediv_of_nonneg _ (by rw [show (2 : Int) ^ n.toNat = ((2 ^ n.toNat : Nat) : Int) by simp]; exact Int.natCast_nonneg _)
  exact Qt.pure hw _ (by unfold execOp; simp only [ho, hx, hy, eqGuard, Sem.run_bind, Sem.run_pure, Result.andThen_ok]; simp [binOp, Op.shift, e1, e2, e3, hr]) hR
theorem Qt.conv (hw : Region.wanted o (yielded ops a.tmps) = true) {s d : TypeId} {x : Operand} (ho : o.op = .convert s d x) {K K' : IntKind} {ts : TypeDesc} (hs : P.underlying s = some ts) (hd : P.underlying d = some (.int K')) {m : Int} (hx : a.eval x = .int K m) {r : Int} (hr : K'.wrap m = r) (hR : R (.int K' r) w) : Qt P ops o a w R :=
  Qt.pure hw _ (by unfold execOp; simp only [ho, hx, convert, Sem.run_bind, run_underlying hs, run_underlying hd, Result.andThen_ok]; simp [Conv.intToInt, hr]) hR
theorem Qt.lenS (hw : Region.wanted o (yielded ops a.tmps) = true) {t : TypeId} {x : Operand} (ho : o.op = .call { callee := .builtin .len, args := #[x], argTypes := #[t] }) {e : TypeId} (ht : P.underlying t = some (.slice e)) {p : Option Addr} {l c : Nat} (hx : a.eval x = .slice p l c) (hR : R (.int .i64 (l : Int)) w) : Qt P ops o a w R :=
  Qt.pure hw _ (by unfold execOp; simp only [ho, resolve, invoke, builtin, Sem.run_bind, Sem.run_pure, Result.andThen_ok, List.map_toArray, List.map_cons, List.map_nil, hx]; simp [Builtin.len_, run_underlying ht, goInt]) hR
end
theorem QD {x : Int} (h : -9223372036854775808 <= x /\ x <= 9223372036854775807) : IntKind.i64.wrap x = x := by
  simp [IntKind.wrap, IntKind.bits, IntKind.signed]
  omega
theorem Ka {x : Int} (h : 0 <= x /\ x < 18446744073709551616) : IntKind.u64.wrap x = x := by
  rw [IntKind.wrap_u64]; omega
theorem QeH {x : Int} (h : 0 <= x /\ x < 256) : IntKind.u8.wrap x = x := by
  rw [IntKind.wrap_u8']; omega
abbrev Fl := List (Nat × Value)
def VQ : Fl -> Nat -> Option Value
  | [], _ => none
  | (k, v) :: l, t => match Nat.beq k t with
    | true => some v
    | false => VQ l t
def ev (f : Fl) : Operand -> Option Value
  | .tmp t => VQ f t
  | .const v => some v
  | .global g => some (.pointer (some ⟨g, 0, none⟩))
  | .func g => some (.func (.func g) #[] #[])
def evl (f : Fl) : List Operand -> Option (List Value)
  | [] => some []
  | x :: l => match ev f x with
    | none => none
    | some v => match evl f l with
      | none => none
      | some vs => some (v :: vs)
/-- A frame that holds what the list says. -/
def Fr (N : Nat) (a : Act) (f : Fl) : Prop := Fm N a /\ ∀ t v, VQ f t = some v -> a.eval (.tmp t) = v
def Sub : Fl -> Fl -> Prop
  | [], _ => True
  | (t, v) :: l, f => VQ f t = some v /\ Sub l f
theorem Fr.ev {N : Nat} {a : Act} {f : Fl} {x : Operand} {v : Value} (h : Fr N a f) (hx : ev f x = some v) : a.eval x = v := by
  cases x with
  | tmp t => exact h.2 t v hx
  | const u => simpa [Go.Proofs.YtbiboamaigedjaaGreatDoor.ev, Act.eval] using hx
  | global g => simpa [Go.Proofs.YtbiboamaigedjaaGreatDoor.ev, Act.eval] using hx
  | func g => simpa [Go.Proofs.YtbiboamaigedjaaGreatDoor.ev, Act.eval] using hx
theorem Fr.evl {N : Nat} {a : Act} {f : Fl} (h : Fr N a f) : ∀ {xs : List Operand} {vs : List Value}, evl f xs = some vs -> xs.map a.eval = vs
  | [], vs, hx => by simpa [Go.Proofs.YtbiboamaigedjaaGreatDoor.evl] using hx
  | x :: l, vs, hx => by
    unfold Go.Proofs.YtbiboamaigedjaaGreatDoor.evl at hx
    cases h1 : Go.Proofs.YtbiboamaigedjaaGreatDoor.ev f x with
    | none => rw [h1] at hx; cases hx
    | some v =>
      cases h2 : Go.Proofs.YtbiboamaigedjaaGreatDoor.evl f l with
      | none => rw [h1, h2] at hx; cases hx
      | some us =>
        rw [h1, h2] at hx
        cases hx
        rw [List.map_cons, h.ev h1, Fr.evl h h2]
theorem Qbp : ∀ {f' f : Fl}, Sub f' f -> ∀ {t v}, VQ f' t = some v -> VQ f t = some v
  | [], _, _, t, v, h => by cases h
  | (k, u) :: l, f, hs, t, v, h => by
    unfold VQ at h
    cases hk : Nat.beq k t with
    | true =>
      rw [hk] at h
      cases h
      have : k = t := Nat.eq_of_beq_eq_true hk
      subst this
      exact hs.1
    | false =>
      rw [hk] at h
      exact Qbp hs.2 h
theorem Fr.sub {N : Nat} {a : Act} {f f' : Fl} (h : Fr N a f) (hs : Sub f' f) : Fr N a f' := ⟨h.1, fun t v hv => h.2 t v (Qbp hs hv)⟩
theorem Fr.put {N : Nat} {a : Act} {f : Fl} (h : Fr N a f) {d : Nat} (hd : decide (d < N) = true) (v : Value) : Fr N (a.put (some d) v) ((d, v) :: f) := by
  refine ⟨h.1.put _ _, fun t u hu => ?_⟩
  unfold VQ at hu
  cases hk : Nat.beq d t with
  | true =>
    rw [hk] at hu
    cases hu
    have : d = t := Nat.eq_of_beq_eq_true hk
    subst this
    exact QgI h.1 hd v
  | false =>
    rw [hk] at hu
    exact QgH v t u (by simpa using (fun e : t = d => Nat.ne_of_beq_eq_false hk e.symm)) (h.2 t u hu)
def Qu (ops : Array Oper) (o : Oper) (f : Fl) : Option Bool := match o.guard with
  | none => some true
  | some (g, b) => match Xd ops g with
    | none => none
    | some t => match VQ f t with
      | some (.bool c) => some (c == b)
      | some _ => some false
      | none => none
theorem Qav {ops : Array Oper} {o : Oper} {a : Act} {g t : Nat} {b : Bool} {v : Value} (hg : o.guard = some (g, b)) (hd : Xd ops g = some t) (hv : a.eval (.tmp t) = v) (hnb : ∀ c, v ≠ .bool c) : Region.wanted o (yielded ops a.tmps) = false := by
  have hy : yielded ops a.tmps g = none := by
    unfold Xd at hd
    unfold yielded
    rw [hd]
    rw [Vm] at hv
    cases hq : a.tmps[t]? with
    | none => simp [hq]
    | some x =>
      rw [hq] at hv
      simp only [Option.getD_some] at hv
      subst hv
      cases x <;> simp_all
  unfold Region.wanted
  rw [hg]
  simp [hy]
theorem Qj {ops : Array Oper} {o : Oper} {f : Fl} {N : Nat} {a : Act} (h : Fr N a f) {b : Bool} (hw : Qu ops o f = some b) : Region.wanted o (yielded ops a.tmps) = b := by
  unfold Qu at hw
  cases hg : o.guard with
  | none => rw [hg] at hw; cases hw; unfold Region.wanted; rw [hg]
  | some p =>
    obtain ⟨g, c⟩ := p
    rw [hg] at hw
    simp only at hw
    cases hd : Xd ops g with
    | none => rw [hd] at hw; cases hw
    | some t =>
      rw [hd] at hw
      simp only at hw
      split at hw
      . rename_i c' hl
        cases hw
        have hv := h.2 t _ hl
        cases hcc : (c' == c) with
        | true => have : c' = c := by simpa using hcc
                  subst this; exact QeK hg hd hv
        | false => exact Qau hg hd hv hcc
      . rename_i v hnb hl
        cases hw
        exact Qav hg hd (h.2 t _ hl) (fun c e => hnb c e)
      . cases hw

/-- One operation, over a frame that is a list. -/
def DR (P : Program) (ops : Array Oper) (o : Oper) (N : Nat) (f : Fl) (w : World) (R : Value -> World -> Prop) : Prop := ∀ a, Fr N a f -> Qt P ops o a w R
/-- One that yields this value and leaves the world alone. -/
def DV (P : Program) (ops : Array Oper) (o : Oper) (N : Nat) (f : Fl) (w : World) (v : Value) : Prop := DR P ops o N f w fun v' w' => v' = v /\ w' = w
def WL (P : Program) (ops : Array Oper) (Q : Exit -> Act -> World -> Prop) (N : Nat) (l : List Oper) (f : Fl) (w : World) : Prop := ∀ a, Fr N a f -> wpList P ops Q l a w
def WC (P : Program) (N : Nat) (c : Code) (Q : Exit -> Act -> World -> Prop) (f : Fl) (w : World) : Prop := ∀ a, Fr N a f -> c.wp P Q a w

section
variable {P : Program} {ops : Array Oper} {o : Oper} {N : Nat} {f : Fl} {w : World} {R : Value -> World -> Prop} {rest : List Oper} {Q : Exit -> Act -> World -> Prop}

theorem DR.mono {R' : Value -> World -> Prop} (h : DR P ops o N f w R) (hr : ∀ v w', R v w' -> R' v w') : DR P ops o N f w R' := fun a ha => (h a ha).mono hr
theorem DV.dr {v : Value} (h : DV P ops o N f w v) (hr : R v w) : DR P ops o N f w R := DR.mono h fun v' w' e => by obtain ⟨rfl, rfl⟩ := e; exact hr
theorem WL.val {d : Nat} {v : Value} (hd : DV P ops o N f w v) (ho : o.dst = some d) (hN : decide (d < N) = true) (k : WL P ops Q N rest ((d, v) :: f) w) : WL P ops Q N (o :: rest) f w := fun a ha =>
  YX (hd a ha) fun v' w' e => by obtain ⟨rfl, rfl⟩ := e; rw [ho]; exact k _ (ha.put hN _)
theorem WL.get {d : Nat} (hd : DR P ops o N f w R) (ho : o.dst = some d) (hN : decide (d < N) = true) (k : ∀ v w', R v w' -> WL P ops Q N rest ((d, v) :: f) w') : WL P ops Q N (o :: rest) f w := fun a ha =>
  YX (hd a ha) fun v' w' e => by rw [ho]; exact k v' w' e _ (ha.put hN _)
theorem WL.do (hd : DR P ops o N f w R) (ho : o.dst = none) (k : ∀ v w', R v w' -> WL P ops Q N rest f w') : WL P ops Q N (o :: rest) f w := fun a ha =>
  YX (hd a ha) fun v' w' e => by rw [ho]; exact k v' w' e _ ha
theorem WL.off {d : Nat} (hw : Qu ops o f = some false) (ho : o.dst = some d) (hN : decide (d < N) = true) (k : WL P ops Q N rest ((d, undef) :: f) w) : WL P ops Q N (o :: rest) f w := fun a ha =>
  YX (Qt.off (R := fun v' w' => v' = undef /\ w' = w) (Qj ha hw) ⟨rfl, rfl⟩) fun v' w' e => by obtain ⟨rfl, rfl⟩ := e; rw [ho]; exact k _ (ha.put hN _)
theorem WL.offn (hw : Qu ops o f = some false) (ho : o.dst = none) (k : WL P ops Q N rest f w) : WL P ops Q N (o :: rest) f w := fun a ha =>
  YX (Qt.off (R := fun v' w' => w' = w) (Qj ha hw) rfl) fun v' w' e => by rw [ho, e]; exact k _ ha
theorem WL.nil (h : ∀ a, Fr N a f -> Q .normal a w) : WL P ops Q N [] f w := fun a ha => wpList_nil (h a ha)
theorem Qey (m n : Int) : (m == n) = decide (m = n) := by
  by_cases h : m = n
  . simp [h]
  . simp [h]
-- operations that yield, and leave the world alone
theorem Qe {x : Operand} {v : Value} (ho : o.op = .move x) (hx : ev f x = some v) (hw : Qu ops o f = some true := by rfl) : DV P ops o N f w v := fun a ha => Qt.move (Qj ha hw) ho (ha.ev hx) ⟨rfl, rfl⟩
theorem Qi {x : Operand} {v : Value} (ho : o.op = .assign x) (hx : ev f x = some v) (hw : Qu ops o f = some true := by rfl) : DV P ops o N f w v := fun a ha => Qt.assign (Qj ha hw) ho (ha.ev hx) ⟨rfl, rfl⟩
theorem DU {c x y : Operand} {b : Bool} {v : Value} (ho : o.op = .pick c x y) (hc : ev f c = some (.bool b)) (hv : (bif b then ev f x else ev f y) = some v) (hw : Qu ops o f = some true := by rfl) : DV P ops o N f w v := fun a ha =>
  Qt.pick (Qj ha hw) ho (ha.ev hc) (by cases b <;> simp at hv ⊢ <;> exact ha.ev hv) ⟨rfl, rfl⟩
theorem Qc8 {t : TypeId} {x : Operand} {b : Bool} (ho : o.op = .unOp .not t x) (hx : ev f x = some (.bool b)) (hw : Qu ops o f = some true := by rfl) : DV P ops o N f w (.bool (!b)) := fun a ha =>
  Qt.not (Qj ha hw) ho (ha.ev hx) rfl ⟨rfl, rfl⟩
theorem QW {t t' : TypeId} {x y : Operand} {K : IntKind} {m n r : Int} (ho : o.op = .binOp .add t x y t') (hx : ev f x = some (.int K m)) (hy : ev f y = some (.int K n)) (hr : K.wrap (m + n) = r) (hw : Qu ops o f = some true := by rfl) : DV P ops o N f w (.int K r) := fun a ha =>
  Qt.add (Qj ha hw) ho (ha.ev hx) (ha.ev hy) hr ⟨rfl, rfl⟩
theorem X2 {t t' : TypeId} {x y : Operand} {K : IntKind} {m n r : Int} (ho : o.op = .binOp .sub t x y t') (hx : ev f x = some (.int K m)) (hy : ev f y = some (.int K n)) (hr : K.wrap (m - n) = r) (hw : Qu ops o f = some true := by rfl) : DV P ops o N f w (.int K r) := fun a ha =>
  Qt.sub (Qj ha hw) ho (ha.ev hx) (ha.ev hy) hr ⟨rfl, rfl⟩
theorem Jy {t t' : TypeId} {x y : Operand} {K : IntKind} {m n r : Int} (ho : o.op = .binOp .mul t x y t') (hx : ev f x = some (.int K m)) (hy : ev f y = some (.int K n)) (hr : K.wrap (m * n) = r) (hw : Qu ops o f = some true := by rfl) : DV P ops o N f w (.int K r) := fun a ha =>
  Qt.mul (Qj ha hw) ho (ha.ev hx) (ha.ev hy) hr ⟨rfl, rfl⟩
theorem Kx {t t' : TypeId} {x y : Operand} {K : IntKind} {m n r : Int} (ho : o.op = .binOp .quo t x y t') (hx : ev f x = some (.int K m)) (hy : ev f y = some (.int K n)) (hn : n ≠ 0) (hr : K.wrap (m.tdiv n) = r) (hw : Qu ops o f = some true := by rfl) : DV P ops o N f w (.int K r) := fun a ha =>
  Qt.quo (Qj ha hw) ho (ha.ev hx) (ha.ev hy) hn hr ⟨rfl, rfl⟩
theorem QlC {t t' : TypeId} {x y : Operand} {K : IntKind} {m n r : Int} (ho : o.op = .binOp .rem t x y t') (hx : ev f x = some (.int K m)) (hy : ev f y = some (.int K n)) (hn : n ≠ 0) (hr : m.tmod n = r) (hw : Qu ops o f = some true := by rfl) : DV P ops o N f w (.int K r) := fun a ha =>
  Qt.rem (Qj ha hw) ho (ha.ev hx) (ha.ev hy) hn hr ⟨rfl, rfl⟩
theorem ZG {t t' : TypeId} {x y : Operand} {K : IntKind} {m n r : Int} (ho : o.op = .binOp .and t x y t') (hx : ev f x = some (.int K m)) (hy : ev f y = some (.int K n)) (hr : bits .and K m n = r) (hw : Qu ops o f = some true := by rfl) : DV P ops o N f w (.int K r) := fun a ha =>
  Qt.and (Qj ha hw) ho (ha.ev hx) (ha.ev hy) hr ⟨rfl, rfl⟩
theorem DW {t t' : TypeId} {x y : Operand} {K : IntKind} {m n r : Int} (ho : o.op = .binOp .or t x y t') (hx : ev f x = some (.int K m)) (hy : ev f y = some (.int K n)) (hr : bits .or K m n = r) (hw : Qu ops o f = some true := by rfl) : DV P ops o N f w (.int K r) := fun a ha =>
  Qt.or (Qj ha hw) ho (ha.ev hx) (ha.ev hy) hr ⟨rfl, rfl⟩
theorem VJ {t t' : TypeId} {x y : Operand} {K : IntKind} {m n r : Int} (ho : o.op = .binOp .xor t x y t') (hx : ev f x = some (.int K m)) (hy : ev f y = some (.int K n)) (hr : bits .xor K m n = r) (hw : Qu ops o f = some true := by rfl) : DV P ops o N f w (.int K r) := fun a ha =>
  Qt.xor (Qj ha hw) ho (ha.ev hx) (ha.ev hy) hr ⟨rfl, rfl⟩
theorem ZF {t t' : TypeId} {x y : Operand} {K : IntKind} {m n : Int} (ho : o.op = .binOp .lss t x y t') (hx : ev f x = some (.int K m)) (hy : ev f y = some (.int K n)) (hw : Qu ops o f = some true := by rfl) : DV P ops o N f w (.bool (decide (m < n))) := fun a ha =>
  Qt.lss (Qj ha hw) ho (ha.ev hx) (ha.ev hy) rfl ⟨rfl, rfl⟩
theorem QlH {t t' : TypeId} {x y : Operand} {K : IntKind} {m n : Int} (ho : o.op = .binOp .leq t x y t') (hx : ev f x = some (.int K m)) (hy : ev f y = some (.int K n)) (hw : Qu ops o f = some true := by rfl) : DV P ops o N f w (.bool (decide (m <= n))) := fun a ha =>
  Qt.leq (Qj ha hw) ho (ha.ev hx) (ha.ev hy) rfl ⟨rfl, rfl⟩
theorem QlI {t t' : TypeId} {x y : Operand} {K : IntKind} {m n : Int} (ho : o.op = .binOp .gtr t x y t') (hx : ev f x = some (.int K m)) (hy : ev f y = some (.int K n)) (hw : Qu ops o f = some true := by rfl) : DV P ops o N f w (.bool (decide (n < m))) := fun a ha =>
  Qt.gtr (Qj ha hw) ho (ha.ev hx) (ha.ev hy) rfl ⟨rfl, rfl⟩
theorem FP {t t' : TypeId} {x y : Operand} {K : IntKind} {m n : Int} (ho : o.op = .binOp .geq t x y t') (hx : ev f x = some (.int K m)) (hy : ev f y = some (.int K n)) (hw : Qu ops o f = some true := by rfl) : DV P ops o N f w (.bool (decide (n <= m))) := fun a ha =>
  Qt.geq (Qj ha hw) ho (ha.ev hx) (ha.ev hy) rfl ⟨rfl, rfl⟩
theorem Qda {t t' : TypeId} {x y : Operand} {K : IntKind} {m n : Int} (ho : o.op = .binOp .eql t x y t') (hx : ev f x = some (.int K m)) (hy : ev f y = some (.int K n)) (hw : Qu ops o f = some true := by rfl) : DV P ops o N f w (.bool (decide (m = n))) := fun a ha =>
  Qt.eqlN (Qj ha hw) ho (ha.ev hx) (ha.ev hy) (Qey m n) ⟨rfl, rfl⟩
theorem QlD {t t' : TypeId} {x y : Operand} {K : IntKind} {m n : Int} (ho : o.op = .binOp .neq t x y t') (hx : ev f x = some (.int K m)) (hy : ev f y = some (.int K n)) (hw : Qu ops o f = some true := by rfl) : DV P ops o N f w (.bool (!decide (m = n))) := fun a ha =>
  Qt.neqN (Qj ha hw) ho (ha.ev hx) (ha.ev hy) (by rw [bne, Qey m n]) ⟨rfl, rfl⟩
theorem XZ {s d : TypeId} {x : Operand} {K K' : IntKind} {ts : TypeDesc} {m r : Int} (ho : o.op = .convert s d x) (hs : P.underlying s = some ts) (hd : P.underlying d = some (.int K')) (hx : ev f x = some (.int K m)) (hr : K'.wrap m = r) (hw : Qu ops o f = some true := by rfl) : DV P ops o N f w (.int K' r) := fun a ha =>
  Qt.conv (Qj ha hw) ho hs hd (ha.ev hx) hr ⟨rfl, rfl⟩
theorem DX {t e : TypeId} {x : Operand} {p : Option Addr} {l c : Nat} (ho : o.op = .call { callee := .builtin .len, args := #[x], argTypes := #[t] }) (ht : P.underlying t = some (.slice e)) (hx : ev f x = some (.slice p l c)) (hw : Qu ops o f = some true := by rfl) : DV P ops o N f w (.int .i64 (l : Int)) := fun a ha =>
  Qt.lenS (Qj ha hw) ho ht (ha.ev hx) ⟨rfl, rfl⟩
theorem QjH {t : TypeId} {x : Operand} {s : ByteArray} (ho : o.op = .call { callee := .builtin .len, args := #[x], argTypes := #[t] }) (ht : P.underlying t = some .string) (hx : ev f x = some (.string s)) (hw : Qu ops o f = some true := by rfl) : DV P ops o N f w (.int .i64 (s.size : Int)) := fun a ha => by
  have hx := ha.ev hx
  exact Qt.pure (Qj ha hw) _ (by unfold execOp; simp only [ho, resolve, invoke, builtin, Sem.run_bind, Sem.run_pure, Result.andThen_ok, List.map_toArray, List.map_cons, List.map_nil, hx]; simp [Builtin.len_, run_underlying ht, goInt]) ⟨rfl, rfl⟩
theorem Qc9 {x : Operand} {i : Nat} {vs : Array Value} {v : Value} (ho : o.op = .extract x i) (hx : ev f x = some (.tuple vs)) (hv : vs[i]? = some v) (hw : Qu ops o f = some true := by rfl) : DV P ops o N f w v := fun a ha => by
  have hx := ha.ev hx
  exact Qt.pure (Qj ha hw) _ (by unfold execOp; simp only [ho, hx, Instr.extract, hv, Sem.run_bind, Sem.run_pure, Result.andThen_ok]) ⟨rfl, rfl⟩
theorem QjK {fn : Fn} {first captured : Array Operand} {cs : List Value} (ho : o.op = .makeFunc fn first captured) (h1 : first = #[]) (hc : evl f captured.toList = some cs) (hw : Qu ops o f = some true := by rfl) : DV P ops o N f w (.func fn #[] cs.toArray) := fun a ha => by
  have hx := ha.evl hc
  exact Qt.pure (Qj ha hw) _ (by unfold execOp; simp only [ho, h1, Instr.makeFunc, Sem.run_bind, Sem.run_pure, Result.andThen_ok]; rw [<- hx]; congr 3 <;> first | (simp; done) | (rw [<- Array.toList_map])) ⟨rfl, rfl⟩
-- strings
theorem E9 (s t : ByteArray) : (s.toList == t.toList) = decide (s = t) := by
  by_cases h : s = t
  . rw [Qcm h, decide_eq_true h]
  . rw [QeU h, decide_eq_false h]
def KJ (s t : ByteArray) : Bool := Op.bytesLess s.toList t.toList
theorem QjL {t t' : TypeId} {x y : Operand} {m n : ByteArray} (ho : o.op = .binOp .eql t x y t') (hx : ev f x = some (.string m)) (hy : ev f y = some (.string n)) (hw : Qu ops o f = some true := by rfl) : DV P ops o N f w (.bool (decide (m = n))) := fun a ha => by
  have hx := ha.ev hx
  have hy := ha.ev hy
  exact Qt.pure (Qj ha hw) _ (by unfold execOp; simp only [ho, hx, hy, eqGuard, Sem.run_bind, Sem.run_pure, Result.andThen_ok]; simp [binOp, Op.stringOp, E9]) ⟨rfl, rfl⟩
theorem QjD {t t' : TypeId} {x y : Operand} {m n : ByteArray} (ho : o.op = .binOp .neq t x y t') (hx : ev f x = some (.string m)) (hy : ev f y = some (.string n)) (hw : Qu ops o f = some true := by rfl) : DV P ops o N f w (.bool (!decide (m = n))) := fun a ha => by
  have hx := ha.ev hx
  have hy := ha.ev hy
  exact Qt.pure (Qj ha hw) _ (by unfold execOp; simp only [ho, hx, hy, eqGuard, Sem.run_bind, Sem.run_pure, Result.andThen_ok]; simp [binOp, Op.stringOp, E9]) ⟨rfl, rfl⟩
theorem QjG {t t' : TypeId} {x y : Operand} {m n : ByteArray} (ho : o.op = .binOp .lss t x y t') (hx : ev f x = some (.string m)) (hy : ev f y = some (.string n)) (hw : Qu ops o f = some true := by rfl) : DV P ops o N f w (.bool (KJ m n)) := fun a ha => by
  have hx := ha.ev hx
  have hy := ha.ev hy
  exact Qt.pure (Qj ha hw) _ (by unfold execOp; simp only [ho, hx, hy, eqGuard, Sem.run_bind, Sem.run_pure, Result.andThen_ok]; simp [binOp, Op.stringOp, KJ]) ⟨rfl, rfl⟩
theorem QjJ {t t' : TypeId} {x y : Operand} {m n : ByteArray} (ho : o.op = .binOp .geq t x y t') (hx : ev f x = some (.string m)) (hy : ev f y = some (.string n)) (hw : Qu ops o f = some true := by rfl) : DV P ops o N f w (.bool (!KJ m n)) := fun a ha => by
  have hx := ha.ev hx
  have hy := ha.ev hy
  exact Qt.pure (Qj ha hw) _ (by unfold execOp; simp only [ho, hx, hy, eqGuard, Sem.run_bind, Sem.run_pure, Result.andThen_ok]; simp [binOp, Op.stringOp, KJ]) ⟨rfl, rfl⟩
theorem QjI {t t' : TypeId} {x y : Operand} {m n : ByteArray} (ho : o.op = .binOp .gtr t x y t') (hx : ev f x = some (.string m)) (hy : ev f y = some (.string n)) (hw : Qu ops o f = some true := by rfl) : DV P ops o N f w (.bool (!(KJ m n || decide (m = n)))) := fun a ha => by
  have hx := ha.ev hx
  have hy := ha.ev hy
  exact Qt.pure (Qj ha hw) _ (by unfold execOp; simp only [ho, hx, hy, eqGuard, Sem.run_bind, Sem.run_pure, Result.andThen_ok]; simp [binOp, Op.stringOp, KJ, E9]) ⟨rfl, rfl⟩
theorem QjN {t t' : TypeId} {x y : Operand} {m n : ByteArray} (ho : o.op = .binOp .add t x y t') (hx : ev f x = some (.string m)) (hy : ev f y = some (.string n)) (hs : m.size + n.size <= 9223372036854775807) (hw : Qu ops o f = some true := by rfl) : DV P ops o N f w (.string (m ++ n)) := fun a ha => by
  have hx := ha.ev hx
  have hy := ha.ev hy
  have hz : ¬ ((m.size + n.size : Nat) : Int) > IntKind.i64.max := by have : IntKind.i64.max = 9223372036854775807 := by decide
                                                                      rw [this]; omega
  exact Qt.pure (Qj ha hw) _ (by unfold execOp; simp only [ho, hx, hy, eqGuard, Sem.run_bind, Sem.run_pure, Result.andThen_ok]; simp only [binOp, Op.stringOp, if_neg hz]; simp) ⟨rfl, rfl⟩
-- a call
theorem QbG {a : Act} {xs : List Operand} {vs : List Value} (h : xs.map a.eval = vs) : xs.toArray.map a.eval = vs.toArray := by rw [<- h]; simp
theorem Qen {c : Operand} {F : FuncId} {fn : Func} {xs : List Operand} {ts : Array TypeId} {vs : List Value} {cap : Array Value} (ho : o.op = .call { callee := .value c, args := xs.toArray, argTypes := ts }) (hcv : ev f c = some (.func (.func F) #[] cap)) (hf : P.funcs[F]? = some fn) (hn : (fn.name == "runtime.NumGoroutine") = false) (hb : fn.body.isNone = false)
    (hx : evl f xs = some vs) (hc : Calls P F (vs.toArray ++ cap) w fun e w' => ∃ v, e = .returned v /\ R v w') (hw : Qu ops o f = some true := by rfl) : DR P ops o N f w R := fun a ha => by
  have he := QbG (ha.evl hx)
  have hc' := ha.ev hcv
  exact Qt.call (Qj ha hw) F (vs.toArray ++ cap) (by
    unfold execOp
    simp only [ho, resolve, he, hc', Deferred.ofValue, Sem.run_bind, Sem.run_pure, Result.andThen_ok, invoke]
    simp only [Array.empty_append, callFunc, Sem.run_bind, run_program, Result.andThen_ok, hf, hn, hb]
    rfl) hc
end
section
variable {P : Program} {N : Nat} {f : Fl} {w : World} {Q : Exit -> Act -> World -> Prop}
theorem WC.seq {x y : Code} (h : ∀ K : Act -> World -> Prop, (∀ {f w}, WC P N y Q f w -> ∀ a, Fr N a f -> K a w) -> WC P N x (Exit.then K Q) f w) : WC P N (.seq x y) Q f w := fun a ha =>
  wp_seq_k fun K hK => h K (fun {f w} hy a ha => hK a w (hy a ha)) a ha
theorem WC.skip (h : ∀ a, Fr N a f -> Q .normal a w) : WC P N .skip Q f w := fun a ha => wp_skip (h a ha)
theorem WC.exit {id : Nat} (h : ∀ a, Fr N a f -> Q (.exit id) a w) : WC P N (.exit id) Q f w := fun a ha => wp_exit (h a ha)
theorem WC.ret (h : ∀ a, Fr N a f -> Q .ret a w) : WC P N .ret Q f w := fun a ha => wp_ret (h a ha)
theorem WC.block {id : Nat} {c : Code} (h : WC P N c (Exit.inBlock id Q) f w) : WC P N (.block id c) Q f w := fun a ha => wp_block (h a ha)
theorem WC.region {id : Nat} {l : List Oper} (h : WL P l.toArray Q N l f w) : WC P N (.region id l.toArray false) Q f w := fun a ha => wp_region_lit (h a ha)
theorem WC.cond {c : Operand} {x y : Code} {b : Bool} (hc : ev f c = some (.bool b)) (ht : b = true -> WC P N x Q f w) (hf : b = false -> WC P N y Q f w) : WC P N (.cond c x y) Q f w := fun a ha =>
  wp_cond_split (ha.ev hc) (fun h => ht h a ha) (fun h => hf h a ha)
theorem WC.condT {c : Operand} {x y : Code} (hc : ev f c = some (.bool true)) (h : WC P N x Q f w) : WC P N (.cond c x y) Q f w := fun a ha => wp_cond_true (ha.ev hc) (h a ha)
theorem WC.condF {c : Operand} {x y : Code} (hc : ev f c = some (.bool false)) (h : WC P N y Q f w) : WC P N (.cond c x y) Q f w := fun a ha => wp_cond_false (ha.ev hc) (h a ha)
theorem WC.loop {σ : Type} {c : Code} (fr : σ -> Fl) (I : σ -> World -> Prop) (μ : σ -> Nat) (s0 : σ) (hs : Sub (fr s0) f) (h0 : I s0 w)
    (round : ∀ (K : Act -> World -> Prop) s w, I s w -> (∀ {f' w'} (s' : σ), I s' w' -> μ s' < μ s -> Sub (fr s') f' -> ∀ a, Fr N a f' -> K a w') -> WC P N c (Exit.then K Q) (fr s) w) : WC P N (.loop c) Q f w := fun a ha =>
  wp_loop_ghost (fun n a w => ∃ s, μ s = n /\ I s w /\ Fr N a (fr s)) (μ s0) ⟨s0, rfl, h0, ha.sub hs⟩ fun n a w hI => by
    obtain ⟨s, rfl, hI, hfr⟩ := hI
    exact round _ s w hI (fun {f' w'} s' hI' hlt hsub a' hf' => ⟨μ s', hlt, s', rfl, hI', hf'.sub hsub⟩) a hfr
theorem WC.loop2 {α β : Type} {c : Code} (fr : α -> β -> Fl) (I : α -> β -> World -> Prop) (μ : α -> β -> Nat) (a0 : α) (b0 : β) (hs : Sub (fr a0 b0) f) (h0 : I a0 b0 w)
    (round : ∀ (K : Act -> World -> Prop) a b w, I a b w -> (∀ {f' w'} (a' : α) (b' : β), I a' b' w' -> μ a' b' < μ a b -> Sub (fr a' b') f' -> ∀ x, Fr N x f' -> K x w') -> WC P N c (Exit.then K Q) (fr a b) w) : WC P N (.loop c) Q f w :=
  WC.loop (σ := α × β) (fun s => fr s.1 s.2) (fun s => I s.1 s.2) (fun s => μ s.1 s.2) (a0, b0) hs h0 fun K s w hI hK => round K s.1 s.2 w hI fun a' b' h1 h2 h3 => hK (a', b') h1 h2 h3
end
theorem Qh9 {P : Program} {f : FuncId} {fn : Func} {args : Array Value} {body : Code} {w : World} {R : Ending -> World -> Prop} {N : Nat} (hf : P.funcs[f]? = some fn) (hb : fn.body = some body) (hn : fn.ntmps = N) (hN : decide (args.size <= N) = true)
    (h : ∀ a, Fm N a -> (∀ t v, args[t]? = some v -> a.eval (.tmp t) = v) -> body.wp P (bodyPost P fn R) a w) : Calls P f args w R := by
  refine calls_of_wp hf hb ?_
  refine h _ ⟨?_, rfl⟩ fun t v hv => ?_
  . have := of_decide_eq_true hN
    simp [hn]
    omega
  . have ht := (Array.getElem?_eq_some_iff.1 hv).1
    rw [Vm]
    have he := Array.getElem?_eq_getElem ht
    rw [he] at hv
    simp [Array.getElem?_append, ht]
    exact Option.some.inj hv
theorem QbU {P : Program} {F : FuncId} {fn : Func} {body : Code} {w : World} {R : Ending -> World -> Prop} {N : Nat} (vs : List Value) (f : Fl) (hf : P.funcs[F]? = some fn) (hb : fn.body = some body) (hn : fn.ntmps = N) (hN : decide (vs.length <= N) = true)
    (hfr : f = (vs.zipIdx.map fun p => (p.2, p.1))) (h : WC P N body (bodyPost P fn R) f w) : Calls P F vs.toArray w R := by
  refine Qh9 hf hb hn (by simpa using hN) fun a hfm harg => h a ⟨hfm, fun t v hv => harg t v ?_⟩
  subst hfr
  have key : ∀ (l : List Value) (k : Nat), VQ ((l.zipIdx k).map fun p => (p.2, p.1)) t = some v -> k <= t /\ l[t - k]? = some v := by
    intro l
    induction l with
    | nil => intro k hk; cases hk
    | cons x l ih =>
      intro k hk
      simp only [List.zipIdx_cons, List.map_cons] at hk
      unfold VQ at hk
      cases hb : Nat.beq k t with
      | true =>
        rw [hb] at hk
        cases hk
        have := Nat.eq_of_beq_eq_true hb
        subst this
        simp
      | false =>
        rw [hb] at hk
        obtain ⟨h1, h2⟩ := ih (k + 1) hk
        refine ⟨by omega, ?_⟩
        rw [show t - k = (t - (k + 1)) + 1 by omega]
        simpa using h2
  have := (key vs 0 hv).2
  simpa using this
/-- The end of a call: results that are slots. -/
def fin (P : Program) (fn : Func) (R : Ending -> World -> Prop) (a : Act) (w : World) : Prop := a.defers = [] /\ ∃ v, (results fn a.tmps).run P w = .ok v w /\ R (.returned v) w
section
variable {P : Program} {fn : Func} {R : Ending -> World -> Prop} {N : Nat} {f : Fl} {w : World}
theorem Dc {a : Act} {t : Nat} {v : Value} (ha : Fr N a f) (h : VQ f t = some v) : a.tmps.getD t undef = v := ha.2 t v h
end
/-- What an operation of a drawn region yields: a value, or what it is like. -/
inductive VS where
  | is (v : Value)
  | by (p : Value -> World -> Prop)
def VS.ok : VS -> Value -> World -> Prop
  | .is v, u, _ => u = v
  | .by p, u, w => p u w
def VS.mono : List (Option Tmp × VS) -> Prop
  | [] => True
  | (_, .is _) :: l => VS.mono l
  | (_, .by p) :: l => (∀ u W W', Below W.heap.size W W' -> p u W -> p u W') /\ VS.mono l
/-- One step, from the frame with what it waits for. -/
def Y6 (P : Program) (ops : Array Oper) (o : Oper) (N : Nat) (W : World) (sd : List (Option Tmp × VS)) (R : Value -> World -> Prop) : List Nat -> Fl -> Prop
  | [], f => DR P ops o N f W R
  | j :: l, f => match sd[j]? with
    | some (some d, .is v) => Y6 P ops o N W sd R l ((d, v) :: f)
    | some (some d, .by p) => ∀ u, p u W -> Y6 P ops o N W sd R l ((d, u) :: f)
    | some (none, .by p) => ∀ u, p u W -> Y6 P ops o N W sd R l f
    | _ => Y6 P ops o N W sd R l f
def Fw (sd : List (Option Tmp × VS)) (k : Nat) (v : Value) (w : World) : Prop := match sd[k]? with
  | some (_, s) => s.ok v w
  | none => True
def Qa (P : Program) (ops : Array Oper) (N : Nat) (w0 : World) (sd : List (Option Tmp × VS)) (dl : List (List Nat)) (f : Fl) : Nat -> List Oper -> Prop
  | _, [] => True
  | k, o :: l => (∀ W, Below w0.heap.size w0 W -> Y6 P ops o N W sd (fun v W' => Below W.heap.size W W' /\ Fw sd k v W') ((dl[k]?).getD []) f) /\ Qa P ops N w0 sd dl f (k + 1) l
def G0 (K : Fl -> World -> Prop) (W : World) : List (Option Tmp × VS) -> Fl -> Prop
  | [], f => K f W
  | (some d, .is v) :: l, f => G0 K W l ((d, v) :: f)
  | (some d, .by p) :: l, f => ∀ u, p u W -> G0 K W l ((d, u) :: f)
  | (none, .by p) :: l, f => ∀ u, p u W -> G0 K W l f
  | (none, .is _) :: l, f => G0 K W l f
def inN (N : Nat) (sd : List (Option Tmp × VS)) : Bool := sd.all fun p => match p.1 with
  | some d => decide (d < N)
  | none => true
section
variable {P : Program} {ops : Array Oper} {N : Nat} {sd : List (Option Tmp × VS)} {dl : List (List Nat)}
theorem Ki (g : Nat -> Value) (j : Nat) (l : List Nat) : Zj g (j :: l) j = g j := by simp [Zj]
theorem QhB (hN : inN N sd = true) {j d : Nat} {s : VS} (h : sd[j]? = some (some d, s)) : decide (d < N) = true := by
  have := List.all_eq_true.1 hN _ (List.mem_of_getElem? h)
  simpa using this
theorem Y6.to {o : Oper} {W : World} {R : Value -> World -> Prop} (hN : inN N sd = true) {g : Nat -> Value} : ∀ (l : List Nat) (f : Fl) (a : Act), Y6 P ops o N W sd R l f -> Fr N a f -> Eo (fun j g w => Fw sd j (g j) w) dl g W l -> Qt P ops o (QcB (sd.map (·.1)) g l a) W R
  | [], f, a, h, ha, _ => h a ha
  | j :: l, f, a, h, ha, hh => by
    obtain ⟨h1, h2⟩ := hh
    simp only [Ki] at h1
    unfold Y6 at h
    unfold QcB
    rw [List.getElem?_map]
    cases hs : sd[j]? with
    | none => rw [hs] at h; exact Y6.to hN l f _ h ha h2
    | some p =>
      obtain ⟨d, s⟩ := p
      rw [hs] at h
      unfold Fw at h1
      rw [hs] at h1
      cases d with
      | none =>
        cases s with
        | is v => exact Y6.to hN l f _ h ha h2
        | «by» p => exact Y6.to hN l f _ (h _ h1) ha h2
      | some d =>
        have hd := QhB hN hs
        cases s with
        | is v => exact Y6.to hN l _ _ h (by have e : g j = v := h1; rw [<- e]; exact ha.put hd _) h2
        | «by» p => exact Y6.to hN l _ _ (h _ h1) (ha.put hd _) h2
theorem G0.to {K : Fl -> World -> Prop} {W : World} (hN : inN N sd = true) {Q : Act -> World -> Prop} (hK : ∀ f, K f W -> ∀ a, Fr N a f -> Q a W) {g : Nat -> Value} : ∀ (l : List (Option Tmp × VS)) (k : Nat) (f : Fl) (a : Act), sd.drop k = l -> G0 K W l f -> Fr N a f -> Eo (fun j g w => Fw sd j (g j) w) dl g W (List.range' k l.length) -> Q (QcB (sd.map (·.1)) g (List.range' k l.length) a) W
  | [], k, f, a, _, h, ha, _ => hK f h a ha
  | (d, s) :: l, k, f, a, he, h, ha, hh => by
    have hs : sd[k]? = some (d, s) := by
      have := congrArg List.head? he
      simpa [List.head?_drop] using this
    have ht : sd.drop (k + 1) = l := by rw [<- List.drop_drop, he]; rfl
    rw [List.length_cons, List.range'_succ] at hh ⊢
    obtain ⟨h1, h2⟩ := hh
    simp only [Ki] at h1
    unfold Fw at h1
    rw [hs] at h1
    unfold QcB
    rw [List.getElem?_map, hs]
    cases d with
    | none =>
      cases s with
      | is v => exact G0.to hN hK l (k + 1) f _ ht h ha h2
      | «by» p => exact G0.to hN hK l (k + 1) f _ ht (h _ h1) ha h2
    | some d =>
      have hd := QhB hN hs
      cases s with
      | is v => exact G0.to hN hK l (k + 1) _ _ ht h (by have e : g k = v := h1; rw [<- e]; exact ha.put hd _) h2
      | «by» p => exact G0.to hN hK l (k + 1) _ _ ht (h _ h1) (ha.put hd _) h2
theorem DC : ∀ {sd : List (Option Tmp × VS)}, VS.mono sd -> ∀ {j : Nat} {d : Option Tmp} {p : Value -> World -> Prop}, sd[j]? = some (d, .by p) -> ∀ u W W', Below W.heap.size W W' -> p u W -> p u W'
  | [], _, j, d, p, h => by simp at h
  | (d', .is v) :: l, hm, j, d, p, h => by
    cases j with
    | zero => simp at h
    | succ j => exact DC (sd := l) hm (by simpa using h)
  | (d', .by q) :: l, hm, j, d, p, h => by
    cases j with
    | zero =>
      simp only [List.getElem?_cons_zero, Option.some.injEq, Prod.mk.injEq, VS.by.injEq] at h
      rw [<- h.2]
      exact hm.1
    | succ j => exact DC (sd := l) hm.2 (by simpa using h)
end
/-- One block has been written to, and nothing else has changed. -/
structure U4 (B : Nat) (w w' : World) : Prop where
  os : w'.os = w.os
  tape : w'.tape = w.tape
  output : w'.output = w.output
  size : w'.heap.size = w.heap.size
  block : ∀ k, k ≠ B -> w'.heap[k]? = w.heap[k]?
theorem U4.below {n0 B : Nat} {w0 w w' : World} (h : U4 B w w') (hb : Below n0 w0 w) (hB : n0 <= B) : Below n0 w0 w' :=
  ⟨by rw [h.os]; exact hb.os, by rw [h.tape]; exact hb.tape, by rw [h.output]; exact hb.output, by rw [h.size]; exact hb.size, fun k hk => by rw [h.block k (by omega)]; exact hb.block k hk⟩
theorem VZ (w : World) (B : Nat) (cs : Array Value) : U4 B w (w.setRow B cs) := ⟨rfl, rfl, rfl, by simp [World.setRow], fun k hk => setRow_other w B k cs hk⟩
/-- What lies off these blocks has stayed. -/
def JK (L : List Nat) (w w' : World) : Prop := w.heap.size <= w'.heap.size /\ ∀ k, k ∉ L -> k < w.heap.size -> w'.heap[k]? = w.heap[k]?
theorem JK.of_below {L : List Nat} {w w' : World} (h : Below w.heap.size w w') : JK L w w' := ⟨h.size, fun k _ hk => h.block k hk⟩
theorem JK.of_only {L : List Nat} {B : Nat} {w w' : World} (h : U4 B w w') (hB : B ∈ L) : JK L w w' := ⟨by rw [h.size]; exact Nat.le_refl _, fun k hk _ => h.block k (fun e => hk (e ▸ hB))⟩
/-- A block of the call's own: it may be written. -/
def Q8 (w : World) (B : Nat) (cs : List Value) : Prop := ∃ t, w.heap[B]? = some (.cells cs.toArray t (0, 0))
theorem Q8.lt {w : World} {B : Nat} {cs : List Value} (h : Q8 w B cs) : B < w.heap.size := by
  obtain ⟨t, h⟩ := h
  exact (Array.getElem?_eq_some_iff.1 h).1
theorem Q8.below {w w' : World} {B : Nat} {cs : List Value} (h : Q8 w B cs) (hb : Below w.heap.size w w') : Q8 w' B cs := by
  obtain ⟨t, h'⟩ := h
  exact ⟨t, by rw [hb.block B (Q8.lt ⟨t, h'⟩)]; exact h'⟩
theorem Q8.other {w w' : World} {B C : Nat} {cs : List Value} (h : Q8 w B cs) (ho : U4 C w w') (hn : B ≠ C) : Q8 w' B cs := by
  obtain ⟨t, h'⟩ := h
  exact ⟨t, by rw [ho.block B hn]; exact h'⟩
theorem Q8.range {w : World} {B : Nat} {cs : List Value} (h : Q8 w B cs) : w.rangeAt B 0 cs := fun j v hj => by
  obtain ⟨t, h⟩ := h
  simp [World.cell?, h, hj]
theorem Q8.part {w : World} {B : Nat} {cs : List Value} (h : Q8 w B cs) (o n : Nat) : w.rangeAt B o ((cs.drop o).take n) := fun j v hj => by
  rw [List.getElem?_take] at hj
  split at hj
  . rw [List.getElem?_drop] at hj
    have := h.range (o + j) v hj
    simpa using this
  . cases hj
theorem Q8.cell {w : World} {B k : Nat} {cs : List Value} {v : Value} (h : Q8 w B cs) (hk : cs[k]? = some v) : w.cell? ⟨B, k, none⟩ = some v := by simpa using h.range k v hk
theorem Zy {w w' : World} {L : List Nat} {X o : Nat} {cs : List Value} (h : w.rangeAt X o cs) (ha : JK L w w') (hX : X ∉ L) : w'.rangeAt X o cs := fun j v hj => by
  have h1 := h j v hj
  have hlt := World.block_lt_of_cell? w _ h1
  rw [<- h1]
  exact World.cell?_of_block (ha.2 X hX hlt)
theorem ZY {w : World} {X o : Nat} {cs : List Value} (h : w.rangeAt X o cs) (hn : 0 < cs.length) : X < w.heap.size :=
  World.block_lt_of_cell? w _ (h 0 _ (List.getElem?_eq_getElem hn))
theorem UP {w : World} {X o : Nat} {cs : List Value} (h : w.rangeAt X o cs) (p n : Nat) : w.rangeAt X (o + p) ((cs.drop p).take n) := fun j v hj => by
  rw [List.getElem?_take] at hj
  split at hj
  . rw [List.getElem?_drop] at hj
    rw [Nat.add_assoc]
    exact h (p + j) v hj
  . cases hj
/-- A pointer to these cells, off the call's own blocks. -/
def PtR (L : List Nat) (w : World) (u : Value) (cs : List Value) : Prop := 0 < cs.length /\ ∃ X o, u = .pointer (some ⟨X, o, none⟩) /\ X ∉ L /\ w.rangeAt X o cs
theorem PtR.agree {L : List Nat} {w w' : World} {u : Value} {cs : List Value} (h : PtR L w u cs) (ha : JK L w w') : PtR L w' u cs := by
  obtain ⟨h0, X, o, h1, h2, h3⟩ := h
  exact ⟨h0, X, o, h1, h2, Zy h3 ha h2⟩
theorem PtR.below {L : List Nat} {w w' : World} {u : Value} {cs : List Value} (h : PtR L w u cs) (hb : Below w.heap.size w w') : PtR L w' u cs := h.agree (.of_below hb)
theorem PtR.only {L : List Nat} {w w' : World} {u : Value} {cs : List Value} (h : PtR L w u cs) {B : Nat} (ho : U4 B w w') (hB : B ∈ L) : PtR L w' u cs := h.agree (.of_only ho hB)
theorem PtR.more {L : List Nat} {w w' : World} {u : Value} {cs : List Value} (h : PtR L w u cs) (hb : Below w.heap.size w w') {B : Nat} (hB : w.heap.size <= B) : PtR (B :: L) w' u cs := by
  have h := h
  obtain ⟨h0, X, o, h1, h2, h3⟩ := h
  have hlt := ZY h3 h0
  refine ⟨h0, X, o, h1, ?_, Zy h3 (.of_below (L := L) hb) h2⟩
  simp only [List.mem_cons, not_or]
  exact ⟨by omega, h2⟩
/-- A slice whose elements are these rows, off the call's own blocks. -/
def Zh (s : Nat) (L : List Nat) (w : World) (v : Value) (rs : List (List Value)) : Prop :=
  0 < s /\ (∀ r ∈ rs, r.length = s) /\ ∃ a cap, v = .slice a rs.length cap /\ rs.length <= cap /\ cap <= maxLen /\ (a = none -> cap = 0) /\ (rs ≠ [] -> ∃ X o, a = some ⟨X, o, none⟩ /\ X ∉ L /\ w.rangeAt X o rs.flatten)
theorem Yx {s : Nat} : ∀ {rs : List (List Value)}, (∀ r ∈ rs, r.length = s) -> rs.flatten.length = rs.length * s
  | [], _ => by simp
  | r :: rs, h => by
    rw [List.flatten_cons, List.length_append, Yx (fun r hr => h r (List.mem_cons_of_mem _ hr)), h r (by simp), List.length_cons, Nat.succ_mul, Nat.add_comm]
theorem GQ {s : Nat} : ∀ {rs : List (List Value)} (i : Nat), (∀ r ∈ rs, r.length = s) -> rs.flatten.drop (i * s) = (rs.drop i).flatten
  | rs, 0, _ => by simp
  | [], i + 1, _ => by simp
  | r :: rs, i + 1, h => by
    have hr := h r (by simp)
    rw [List.flatten_cons, Nat.succ_mul, Nat.add_comm, <- List.drop_drop, <- hr, List.drop_left, hr, GQ i (fun r hr => h r (List.mem_cons_of_mem _ hr)), List.drop_succ_cons]
theorem ES {s : Nat} : ∀ {rs : List (List Value)} (i : Nat), (∀ r ∈ rs, r.length = s) -> rs.flatten.take (i * s) = (rs.take i).flatten
  | rs, 0, _ => by simp
  | [], i + 1, _ => by simp
  | r :: rs, i + 1, h => by
    have hr := h r (by simp)
    rw [List.flatten_cons, Nat.succ_mul, Nat.add_comm, List.take_add, <- hr, List.take_left, List.drop_left, hr, ES i (fun r hr => h r (List.mem_cons_of_mem _ hr)), List.take_succ_cons, List.flatten_cons]
theorem QbC {s : Nat} {rs : List (List Value)} {i : Nat} {r : List Value} (h : ∀ r ∈ rs, r.length = s) (hi : rs[i]? = some r) : (rs.flatten.drop (i * s)).take s = r := by
  obtain ⟨hl, he⟩ := List.getElem?_eq_some_iff.1 hi
  have hr := h r (List.mem_of_getElem? hi)
  rw [GQ i h, List.drop_eq_getElem_cons hl, he, List.flatten_cons, <- hr, List.take_left]
theorem Zh.agree {s : Nat} {L : List Nat} {w w' : World} {v : Value} {rs : List (List Value)} (h : Zh s L w v rs) (ha : JK L w w') : Zh s L w' v rs := by
  obtain ⟨h0, hr, a, cap, h1, h2, h3, h4, h5⟩ := h
  refine ⟨h0, hr, a, cap, h1, h2, h3, h4, fun hn => ?_⟩
  obtain ⟨X, o, e, hX, hc⟩ := h5 hn
  exact ⟨X, o, e, hX, Zy hc ha hX⟩
theorem Zh.below {s : Nat} {L : List Nat} {w w' : World} {v : Value} {rs : List (List Value)} (h : Zh s L w v rs) (hb : Below w.heap.size w w') : Zh s L w' v rs := h.agree (.of_below hb)
theorem Zh.only {s : Nat} {L : List Nat} {w w' : World} {v : Value} {rs : List (List Value)} (h : Zh s L w v rs) {B : Nat} (ho : U4 B w w') (hB : B ∈ L) : Zh s L w' v rs := h.agree (.of_only ho hB)
theorem Zh.more {s : Nat} {L : List Nat} {w w' : World} {v : Value} {rs : List (List Value)} (h : Zh s L w v rs) (hb : Below w.heap.size w w') {B : Nat} (hB : w.heap.size <= B) : Zh s (B :: L) w' v rs := by
  obtain ⟨h0, hr, a, cap, h1, h2, h3, h4, h5⟩ := h.below hb
  obtain ⟨_, _, a', cap', h1', _, _, _, h5'⟩ := h
  refine ⟨h0, hr, a, cap, h1, h2, h3, h4, fun hn => ?_⟩
  obtain ⟨X, o, e, hX, hc⟩ := h5 hn
  obtain ⟨X', o', e', hX', hc'⟩ := h5' hn
  refine ⟨X, o, e, ?_, hc⟩
  have hlen : 0 < rs.flatten.length := by
    rw [Yx hr]
    exact Nat.mul_pos (List.length_pos_iff.2 hn) h0
  have hlt := ZY hc' hlen
  have : X = X' := by rw [h1] at h1'; simp only [Value.slice.injEq] at h1'; rw [e, e'] at h1'; simp at h1'; exact h1'.1.1
  simp only [List.mem_cons, not_or]
  exact ⟨by omega, hX⟩
theorem Zh.less {s : Nat} {L L' : List Nat} {w : World} {v : Value} {rs : List (List Value)} (h : Zh s L w v rs) (hl : ∀ x, x ∈ L' -> x ∈ L) : Zh s L' w v rs := by
  obtain ⟨h0, hr, a, cap, h1, h2, h3, h4, h5⟩ := h
  refine ⟨h0, hr, a, cap, h1, h2, h3, h4, fun hn => ?_⟩
  obtain ⟨X, o, e, hX, hc⟩ := h5 hn
  exact ⟨X, o, e, fun hx => hX (hl X hx), hc⟩
theorem Zh.nil {s : Nat} {L : List Nat} {w : World} (hs : 0 < s) : Zh s L w (.slice none 0 0) [] := ⟨hs, by simp, none, 0, rfl, Nat.le_refl _, by unfold maxLen; omega, fun _ => rfl, fun h => absurd rfl h⟩
theorem Zh.len {s : Nat} {L : List Nat} {w : World} {v : Value} {rs : List (List Value)} (h : Zh s L w v rs) : rs.length <= maxLen := by
  obtain ⟨_, _, a, cap, _, h2, h3, _⟩ := h
  omega

theorem Yc : ∀ v ∈ ([] : List Value), v.oneCell' = true := fun v h => by cases h
theorem Qx {v : Value} {l : List Value} (h : v.oneCell' = true) (t : ∀ u ∈ l, u.oneCell' = true) : ∀ u ∈ v :: l, u.oneCell' = true := fun u hu => by
  cases hu with
  | head => exact h
  | tail _ hu => exact t u hu
theorem QcO {v : Value} (h : v.oneCell' = true) : v.cells.toList = [v] := by cases v <;> simp_all [Value.cells, Value.oneCell']
def Qb3 (P : Program) (t n : Nat) : Bool := (match P.underlying t with | some (.struct _) => true | some (.array _ _) => true | _ => false) && (match P.info? t with | some i => i.size == n | none => false)
def Ed (P : Program) (t : Nat) : Bool := (match P.underlying t with | none => false | some (.struct _) => false | some (.array _ _) => false | some _ => true) && (match P.info? t with | some i => i.size == 1 | none => false)
def ZV (P : Program) (t n : Nat) : Bool := match P.info? t with | some i => i.size == n | none => false
def UL (P : Program) (t s : Nat) : Bool := match P.underlying t with | some (.slice e) => ZV P e s | _ => false
/-- A struct's field lies so many cells behind its beginning. -/
def Qfw (P : Program) (s : TypeId) (f off : Nat) : Bool := match P.underlying s with
  | some (.struct fs) => match fs[f]? with
    | some fd => fd.offset == off && (match P.info? fd.type with | some i => i.size != 0 | none => false)
    | none => false
  | _ => false
section
variable {P : Program}
theorem Uw {t n : Nat} (h : ZV P t n = true) : ∃ i, P.info? t = some i /\ i.size = n := by
  unfold ZV at h
  split at h
  . rename_i i hi; exact ⟨i, hi, by simpa using h⟩
  . cases h
theorem Vz {t n : Nat} (h : ZV P t n = true) : (P.info? t).map (·.size) = some n := by
  obtain ⟨i, hi, hn⟩ := Uw h
  rw [hi, <- hn]; rfl
theorem Hw {t n : Nat} (h : Qb3 P t n = true) : ∃ d, P.underlying t = some d /\ d.isRow = true /\ (P.info? t).map (·.size) = some n := by
  unfold Qb3 at h
  simp only [Bool.and_eq_true] at h
  obtain ⟨h1, h2⟩ := h
  have h3 := Vz (P := P) (t := t) (n := n) h2
  split at h1
  . rename_i fs hu; exact ⟨_, hu, rfl, h3⟩
  . rename_i m e hu; exact ⟨_, hu, rfl, h3⟩
  . cases h1
theorem Hv {t : Nat} (h : Ed P t = true) : ∃ d, P.underlying t = some d /\ (match d with | .struct _ | .array _ _ => true | _ => false) = false /\ (P.info? t).map (·.size) = some 1 := by
  unfold Ed at h
  simp only [Bool.and_eq_true] at h
  obtain ⟨h1, h2⟩ := h
  have h3 := Vz (P := P) (t := t) (n := 1) h2
  split at h1
  . cases h1
  . cases h1
  . cases h1
  . rename_i d hs ha hu
    exact ⟨_, hu, by cases d <;> simp_all, h3⟩
theorem JQ {t s : Nat} (h : UL P t s = true) : ∃ e, P.underlying t = some (.slice e) /\ (P.info? e).map (·.size) = some s := by
  unfold UL at h
  split at h
  . rename_i e hu; exact ⟨e, hu, Vz h⟩
  . cases h
theorem ZS (b o j : Nat) : (⟨b, o, none⟩ : Addr).add j = ⟨b, o + j, none⟩ := Go.Addr.add_mid b o j
theorem Qgp {w : World} {s : TypeId} {f off : Nat} (hf : Qfw P s f off = true) (B o0 : Nat) : (Instr.fieldAt s (.pointer (some ⟨B, o0, none⟩)) f).run P w = .ok (.pointer (some ⟨B, o0 + off, none⟩)) w := by
  unfold Qfw at hf
  cases hu : P.underlying s with
  | none => rw [hu] at hf; cases hf
  | some d =>
    rw [hu] at hf
    cases d <;> simp only [Bool.false_eq_true] at hf
    rename_i fs
    cases hfs : fs[f]? with
    | none => rw [hfs] at hf; cases hf
    | some fd =>
      rw [hfs] at hf
      simp only [Bool.and_eq_true, beq_iff_eq] at hf
      obtain ⟨h1, h2⟩ := hf
      subst h1
      cases hi : P.info? fd.type with
      | none => rw [hi] at h2; cases h2
      | some i =>
        rw [hi] at h2
        have hne : i.size ≠ 0 := by simpa using h2
        simp [Instr.fieldAt, fieldPlace, Instr.sureAddr, Sem.run_bind, run_underlying hu w, hfs, sizeOf, typeInfo, hi, hne, ZS]
theorem QaR {w : World} {t e : TypeId} {n c s : Nat} (hu : P.underlying t = some (.slice e)) (hs : (P.info? e).map (·.size) = some s) (X o0 : Nat) (k : IntKind) (i : Int) (h0 : 0 <= i) (h1 : i < n) :
    (Instr.indexAt t (.slice (some ⟨X, o0, none⟩) n c) (.int k i)).run P w = .ok (.pointer (some ⟨X, o0 + i.toNat * s, none⟩)) w := by
  cases hi : P.info? e with
  | none => rw [hi] at hs; cases hs
  | some q =>
    have hq : q.size = s := by simpa [hi] using hs
    simp [Instr.indexAt, asIntOf, Sem.run_bind, run_underlying hu w, h0, h1, sizeOf, typeInfo, hi, hq, ZS]
theorem Qgo {w : World} {t e : TypeId} {n s : Nat} (hu : P.underlying t = some (.array n e)) (hs : (P.info? e).map (·.size) = some s) (B o0 : Nat) (k : IntKind) (i : Int) (h0 : 0 <= i) (h1 : i < n) :
    (Instr.indexAt t (.pointer (some ⟨B, o0, none⟩)) (.int k i)).run P w = .ok (.pointer (some ⟨B, o0 + i.toNat * s, none⟩)) w := by
  cases hi : P.info? e with
  | none => rw [hi] at hs; cases hs
  | some q =>
    have hq : q.size = s := by simpa [hi] using hs
    simp [Instr.indexAt, asIntOf, Instr.sureAddr, Sem.run_bind, run_underlying hu w, h0, h1, sizeOf, typeInfo, hi, hq, ZS]
end
section
variable {P : Program} {ops : Array Oper} {o : Oper} {N : Nat} {f : Fl} {w : World}
/-- What a new block of the call's own is. -/
def Qkd (w : World) (cs : List Value) (u : Value) (W : World) : Prop := u = .pointer (some ⟨w.heap.size, 0, none⟩) /\ Q8 W w.heap.size cs /\ Below w.heap.size w W /\ w.heap.size < W.heap.size
theorem Fy (w : World) (t : TypeId) (V : Value) : Qkd w V.cells.toList (.pointer (some ⟨w.heap.size, 0, none⟩)) (w.alloc (.cells V.cells t)) :=
  ⟨rfl, ⟨t, by rw [heap_alloc_new]⟩, (Below.refl _ _).alloc (Nat.le_refl _) _, (Array.getElem?_eq_some_iff.1 (heap_alloc_new w _)).1⟩
theorem QhV {t : TypeId} {x : Operand} {V : Value} {cs : List Value} (ho : o.op = .box t x) (hx : ev f x = some V) (hc : V.cells.toList = cs) (hw : Qu ops o f = some true := by rfl) : DR P ops o N f w (Qkd w cs) := fun a ha => by
  have hx := ha.ev hx
  subst hc
  exact Qt.of_wp (Qj ha hw) fun K hK => by
    unfold Oper.wp execOp
    simp only [ho, hx, Sem.run_bind, Instr.box, newVar, newRow, run_newObj_alloc, Sem.run_pure, Result.andThen_ok]
    exact hK _ _ (Fy w t V)
theorem Z0 {t : TypeId} {Z : Value} {cs : List Value} (ho : o.op = .alloc t) (hz : (P.info? t).bind (·.zero) = some Z) (hc : Z.cells.toList = cs) (hw : Qu ops o f = some true := by rfl) : DR P ops o N f w (Qkd w cs) := fun a ha => by
  subst hc
  exact Qt.of_wp (Qj ha hw) fun K hK => by
    cases hi : P.info? t with
    | none => rw [hi] at hz; cases hz
    | some i =>
      rw [hi] at hz
      have hz' : i.zero = some Z := hz
      have hti : (typeInfo t).run P w = .ok i w := by simp [typeInfo, hi]
      unfold Oper.wp execOp
      simp only [ho, Sem.run_bind, Instr.alloc, zeroValue, hti, hz', newVar, newRow, run_newObj_alloc, Sem.run_pure, Result.andThen_ok]
      exact hK _ _ (Fy w t Z)
theorem QhS {t : TypeId} {x : Operand} {k off B o0 o1 : Nat} (ho : o.op = .fieldAddr t x k) (hf : Qfw P t k off = true) (hx : ev f x = some (.pointer (some ⟨B, o0, none⟩))) (h1 : o0 + off = o1) (hw : Qu ops o f = some true := by rfl) : DV P ops o N f w (.pointer (some ⟨B, o1, none⟩)) := fun a ha => by
  have hx := ha.ev hx
  exact Qt.pure (Qj ha hw) _ (by unfold execOp; simp only [ho, hx, Sem.run_bind, Qgp hf, Result.andThen_ok, h1]; rfl) ⟨rfl, rfl⟩
theorem Qm {t e : TypeId} {x y : Operand} {n s B o0 o1 : Nat} {K : IntKind} {i : Int} (ho : o.op = .indexAddr t x y) (hu : P.underlying t = some (.array n e)) (hs : ZV P e s = true) (hx : ev f x = some (.pointer (some ⟨B, o0, none⟩))) (hy : ev f y = some (.int K i)) (h0 : 0 <= i /\ i < n) (h1 : o0 + i.toNat * s = o1) (hw : Qu ops o f = some true := by rfl) : DV P ops o N f w (.pointer (some ⟨B, o1, none⟩)) := fun a ha => by
  have hx := ha.ev hx
  have hy := ha.ev hy
  exact Qt.pure (Qj ha hw) _ (by unfold execOp; simp only [ho, hx, hy, Sem.run_bind, Qgo hu (Vz hs) B o0 K i h0.1 h0.2, Result.andThen_ok, h1]; rfl) ⟨rfl, rfl⟩
theorem Qv {t : TypeId} {x : Operand} {B o0 : Nat} {v : Value} (ho : o.op = .load t x) (ht : Ed P t = true) (hx : ev f x = some (.pointer (some ⟨B, o0, none⟩))) (hc : w.cell? ⟨B, o0, none⟩ = some v) (hw : Qu ops o f = some true := by rfl) : DV P ops o N f w v := fun a ha => by
  obtain ⟨d, hu, hd, _⟩ := Hv ht
  have hx := ha.ev hx
  have hagg : (isAgg t).run P w = .ok false w := by
    unfold isAgg
    rw [Sem.run_bind, run_underlying hu w]
    cases d <;> simp_all
  exact Qt.pure (Qj ha hw) v (by unfold execOp; simp [ho, hx, Sem.run_bind, Instr.loadAt, Instr.sureAddr, loadVar, hagg, hc]) ⟨rfl, rfl⟩
theorem Zk {t : TypeId} {x : Operand} {B o0 n : Nat} {cs : List Value} (ho : o.op = .load t x) (ht : Qb3 P t n = true) (hx : ev f x = some (.pointer (some ⟨B, o0, none⟩))) (hc : w.rangeAt B o0 cs) (hn : cs.length = n) (hw : Qu ops o f = some true := by rfl) : DV P ops o N f w (.agg cs.toArray) := fun a ha => by
  obtain ⟨d, hu, hd, hi⟩ := Hw ht
  have hx := ha.ev hx
  exact Qt.of_wp (Qj ha hw) fun K hK => wp_load_mid t x ho B o0 hx cs d hc hu hd (by rw [hi, hn]) (hK _ _ ⟨rfl, rfl⟩)
theorem Xr {t : TypeId} {x y : Operand} {B o0 n : Nat} {V : Value} {vs cs cs' : List Value} (ho : o.op = .store t x y) (ht : ZV P t n = true) (hx : ev f x = some (.pointer (some ⟨B, o0, none⟩))) (hy : ev f y = some V) (hv : V.cells.toList = vs) (h1 : ∀ v ∈ vs, v.oneCell' = true)
    (hb : Q8 w B cs) (hn : vs.length = n) (hl : o0 + n <= cs.length) (hr : cs.take o0 ++ (vs ++ cs.drop (o0 + n)) = cs') (hw : Qu ops o f = some true := by rfl) : DR P ops o N f w fun _ W => Q8 W B cs' /\ U4 B w W := fun a ha => by
  obtain ⟨i, hi, hs⟩ := Uw ht
  have hx := ha.ev hx
  have hy := ha.ev hy
  exact Qt.of_wp (Qj ha hw) fun K hK => by
    obtain ⟨tt, hb'⟩ := hb
    have hst := run_storeCells_at P B o0 tt vs 0 _ w hb' (by simp; omega) h1
    simp only [Nat.add_zero] at hst
    have hcs : (cs.toArray.toList.take o0 ++ vs ++ cs.toArray.toList.drop (o0 + vs.length)) = cs' := by rw [<- hr, hn]; simp
    rw [hcs] at hst
    have hsz : V.cells.size = i.size := by rw [<- Array.length_toList, hv, hn, hs]
    unfold Oper.wp execOp
    simp only [ho, hx, hy, Instr.storeAt, Instr.sureAddr, storeVar, sizeOf, typeInfo, Sem.run_bind, Sem.run_pure, Result.andThen_ok, run_program, hi, hsz, hv, ne_eq, not_true_eq_false, if_false, hst]
    exact hK _ _ ⟨⟨tt, setRow_heap w B _ _ tt _ hb'⟩, VZ w B _⟩
theorem EV {t : TypeId} {x y : Operand} {B n : Nat} {V : Value} {vs cs : List Value} (ho : o.op = .store t x y) (ht : ZV P t n = true) (hx : ev f x = some (.pointer (some ⟨B, 0, none⟩))) (hy : ev f y = some V) (hv : V.cells.toList = vs) (h1 : ∀ v ∈ vs, v.oneCell' = true)
    (hb : Q8 w B cs) (hn : vs.length = n) (hl : cs.length = n) (hw : Qu ops o f = some true := by rfl) : DR P ops o N f w fun _ W => Q8 W B vs /\ U4 B w W :=
  Xr (cs' := vs) ho ht hx hy hv h1 hb hn (by omega) (by rw [List.drop_eq_nil_of_le (by omega)]; simp) hw
-- slices of rows
theorem V4 {t s s' : Nat} {L : List Nat} {x : Operand} {v : Value} {rs : List (List Value)} (ho : o.op = .call { callee := .builtin .len, args := #[x], argTypes := #[t] }) (ht : UL P t s' = true) (hx : ev f x = some v) (hr : Zh s L w v rs) (hw : Qu ops o f = some true := by rfl) : DV P ops o N f w (.int .i64 (rs.length : Int)) := by
  obtain ⟨_, _, a, cap, rfl, _⟩ := hr
  obtain ⟨e, hu, _⟩ := JQ ht
  exact DX ho hu hx hw
theorem Qem {t s : Nat} {L : List Nat} {x y : Operand} {v : Value} {rs : List (List Value)} {K : IntKind} {i : Int} {r : List Value} (k : Nat) (ho : o.op = .indexAddr t x y) (ht : UL P t s = true) (hx : ev f x = some v) (hy : ev f y = some (.int K i)) (hr : Zh s L w v rs) (hk : i = (k : Int)) (hi : rs[k]? = some r) (hw : Qu ops o f = some true := by rfl) :
    DR P ops o N f w fun u W => w = W /\ PtR L w u r := fun a ha => by
  obtain ⟨h0, hl, ad, cap, rfl, h2, h3, h4, h5⟩ := hr
  obtain ⟨e, hu, hs⟩ := JQ ht
  have hx := ha.ev hx
  have hy := ha.ev hy
  subst hk
  have hlt := (List.getElem?_eq_some_iff.1 hi).1
  obtain ⟨X, o0, rfl, hX, hc⟩ := h5 (by intro e; subst e; simp at hlt)
  have hrun := QaR (w := w) (n := rs.length) (c := cap) hu hs X o0 K (k : Int) (by omega) (by omega)
  refine Qt.pure (Qj ha hw) (.pointer (some ⟨X, o0 + k * s, none⟩)) (by unfold execOp; simp only [ho, hx, hy, Sem.run_bind, hrun, Result.andThen_ok]; rfl) ⟨rfl, by rw [hl r (List.mem_of_getElem? hi)]; exact h0, X, _, rfl, hX, ?_⟩
  have := UP hc (k * s) s
  rw [QbC hl hi] at this
  simpa using this
theorem QbJ {t : TypeId} {x : Operand} {L : List Nat} {u v : Value} (ho : o.op = .load t x) (ht : Ed P t = true) (hx : ev f x = some u) (hp : PtR L w u [v]) (hw : Qu ops o f = some true := by rfl) : DV P ops o N f w v := by
  obtain ⟨_, X, o0, rfl, hX, hc⟩ := hp
  exact Qv ho ht hx (by simpa using hc 0 v rfl) hw
theorem Xs {t : TypeId} {parts : Array (Nat × Operand)} {ps : List (Nat × Value)} {cs : List Value} (ho : o.op = .build t parts) (hp : (evl f (parts.toList.map (·.2))).map (fun vs => (parts.toList.map (·.1)).zip vs) = some ps) (hb : P.built t ps = some cs.toArray) (hw : Qu ops o f = some true := by rfl) : DV P ops o N f w (.agg cs.toArray) := fun a ha => by
  have key : (parts.map fun (i, x) => (i, a.eval x)).toList = ps := by
    cases hq : evl f (parts.toList.map (·.2)) with
    | none => rw [hq] at hp; cases hp
    | some vs =>
      rw [hq] at hp
      have h1 := ha.evl hq
      simp only [Option.map_some, Option.some.injEq] at hp
      rw [<- hp, <- h1, Array.toList_map]
      clear hp h1 hq ho
      induction parts.toList with
      | nil => rfl
      | cons p l ih => simp only [List.map_cons, List.zip_cons_cons, List.cons.injEq, true_and]; exact ih
  refine Qt.pure (Qj ha hw) _ ?_ ⟨rfl, rfl⟩
  unfold execOp
  simp only [ho, Sem.run_bind, run_build w t _ _ (by rw [key]; exact hb), Result.andThen_ok]
  rfl
end
/-- The call returns, with this, and leaves the memory that was there. -/
def CV (P : Program) (F : FuncId) (args : List Value) (w : World) (R : Value -> World -> Prop) : Prop := Calls P F args.toArray w fun e w' => ∃ v, e = .returned v /\ R v w' /\ Below w.heap.size w w'
theorem CV.mono {P : Program} {F : FuncId} {args : List Value} {w : World} {R R' : Value -> World -> Prop} (h : CV P F args w R) (hr : ∀ v w', Below w.heap.size w w' -> R v w' -> R' v w') : CV P F args w R' :=
  Calls.mono h fun e w' ⟨v, he, hR, hb⟩ => ⟨v, he, hr v w' hb hR, hb⟩
/-- The end of a call. -/
def Qfx (P : Program) (fn : Func) (R : Value -> World -> Prop) (w0 : World) (a : Act) (w : World) : Prop := a.defers = [] /\ ∃ v, (results fn a.tmps).run P w = .ok v w /\ R v w /\ Below w0.heap.size w0 w
theorem QbN {P : Program} {F : FuncId} {fn : Func} {body : Code} {w : World} {R : Value -> World -> Prop} {N : Nat} {vs : List Value} (hf : P.funcs[F]? = some fn) (hb : fn.body = some body) (hn : fn.ntmps = N) (hN : decide (vs.length <= N) = true) {f : Fl}
    (hfr : (vs.zipIdx.map fun p => (p.2, p.1)) = f) (h : ∀ Q : Exit -> Act -> World -> Prop, (∀ {a W}, Qfx P fn R w a W -> Q .ret a W) -> (∀ {a W}, Qfx P fn R w a W -> Q .normal a W) -> WC P N body Q f w) : CV P F vs w R :=
  QbU vs f hf hb hn hN hfr.symm (h _ (fun {a W} ⟨h1, v, h2, h3, h4⟩ => ⟨h1, v, h2, v, rfl, h3, h4⟩) (fun {a W} ⟨h1, v, h2, h3, h4⟩ => ⟨h1, v, h2, v, rfl, h3, h4⟩))
/-- The call's own blocks lie in the heap. -/
def LL (L : List Nat) (w : World) : Prop := ∀ x ∈ L, x < w.heap.size
theorem LL.nil (w : World) : LL [] w := fun x h => by cases h
theorem LL.more {L : List Nat} {w w' : World} (h : LL L w) (hz : w.heap.size < w'.heap.size) : LL (w.heap.size :: L) w' := fun x hx => by
  cases hx with
  | head => exact hz
  | tail _ hx => have := h x hx; omega
theorem LL.below {L : List Nat} {w w' : World} (h : LL L w) (hb : Below w.heap.size w w') : LL L w' := fun x hx => Nat.lt_of_lt_of_le (h x hx) hb.size
theorem LL.only {L : List Nat} {w w' : World} (h : LL L w) {B : Nat} (ho : U4 B w w') : LL L w' := fun x hx => by rw [ho.size]; exact h x hx
theorem LL.less {L L' : List Nat} {w : World} (h : LL L w) (hl : ∀ x, x ∈ L' -> x ∈ L) : LL L' w := fun x hx => h x (hl x hx)
section
variable {P : Program} {ops : Array Oper} {o : Oper} {N : Nat} {f : Fl} {w : World} {R : Value -> World -> Prop}
theorem ZT {F : FuncId} {fn : Func} {xs : List Operand} {ts : Array TypeId} {vs : List Value} (ho : o.op = .call { callee := .value (.func F), args := xs.toArray, argTypes := ts }) (hf : P.funcs[F]? = some fn) (hn : (fn.name == "runtime.NumGoroutine") = false) (hb : fn.body.isNone = false)
    (hx : evl f xs = some vs) (hc : CV P F vs w R) (hw : Qu ops o f = some true := by rfl) : DR P ops o N f w fun v W => R v W /\ Below w.heap.size w W :=
  Qen (cap := #[]) ho rfl hf hn hb hx (by rw [Array.append_empty]; exact Calls.mono hc fun e w' ⟨v, he, h⟩ => ⟨v, he, h⟩) hw
theorem Qdb {c : Operand} {F : FuncId} {fn : Func} {xs : List Operand} {ts : Array TypeId} {vs cs : List Value} (ho : o.op = .call { callee := .value c, args := xs.toArray, argTypes := ts }) (hcv : ev f c = some (.func (.func F) #[] cs.toArray)) (hf : P.funcs[F]? = some fn) (hn : (fn.name == "runtime.NumGoroutine") = false) (hb : fn.body.isNone = false)
    (hx : evl f xs = some vs) (hc : CV P F (vs ++ cs) w R) (hw : Qu ops o f = some true := by rfl) : DR P ops o N f w fun v W => R v W /\ Below w.heap.size w W :=
  Qen ho hcv hf hn hb hx (by rw [List.append_toArray]; exact Calls.mono hc fun e w' ⟨v, he, h⟩ => ⟨v, he, h⟩) hw
/-- One result. -/
inductive RV (P : Program) (f : Fl) (w : World) : ResultVar -> Value -> Prop
  | tmp {t : Tmp} {v : Value} (h : VQ f t = some v) : RV P f w (.tmp t) v
  | one {t ty B o0 : Nat} {v : Value} (h : VQ f t = some (.pointer (some ⟨B, o0, none⟩))) (ht : Ed P ty = true) (hc : w.cell? ⟨B, o0, none⟩ = some v) : RV P f w (.cell t ty) v
  | agg {t ty B o0 n : Nat} {cs : List Value} (h : VQ f t = some (.pointer (some ⟨B, o0, none⟩))) (ht : Qb3 P ty n = true) (hc : w.rangeAt B o0 cs) (hn : cs.length = n) : RV P f w (.cell t ty) (.agg cs.toArray)
def Dj (tmps : Array Value) : ResultVar -> Sem Value
  | .tmp t => pure (tmps.getD t undef)
  | .cell p ty => do loadVar ty (<- asAddr (tmps.getD p undef))
theorem Ff (fn : Func) (tmps : Array Value) : results fn tmps = (do let vs <- fn.results.mapM (Dj tmps); pure (if h : vs.size = 1 then vs[0] else .tuple vs)) := rfl
theorem RV.run {r : ResultVar} {v : Value} (h : RV P f w r v) {a : Act} (ha : Fr N a f) : (Dj a.tmps r).run P w = .ok v w := by
  unfold Dj
  cases h with
  | tmp h => simp only [Dc ha h]; rfl
  | @one t ty B o0 v h ht hc =>
    obtain ⟨d, hu, hd, _⟩ := Hv ht
    have hagg : (isAgg ty).run P w = .ok false w := by
      unfold isAgg
      rw [Sem.run_bind, run_underlying hu w]
      cases d <;> simp_all
    simp [Dc ha h, asAddr, Sem.run_bind, loadVar, hagg, hc]
  | agg h ht hc hn =>
    obtain ⟨d, hu, hd, hi⟩ := Hw ht
    simp only [Dc ha h, asAddr, Sem.run_bind, Sem.run_pure, Result.andThen_ok]
    exact run_loadVar_mid w _ _ _ _ d hc hu hd (by rw [hi, hn])
variable {fn : Func} {Rr : Ending -> World -> Prop}
theorem fn1 {r0 : ResultVar} {v0 : Value} (h : fn.results = #[r0]) (h0 : RV P f w r0 v0) (hR : Rr (.returned v0) w) {a : Act} (ha : Fr N a f) : fin P fn Rr a w := ⟨ha.1.2, _, by
  rw [Ff, h]
  simp only [List.mapM_toArray, List.mapM_cons, List.mapM_nil, Sem.run_bind, Sem.run_pure, Result.andThen_ok, Sem.run_map]
  have e0 := h0.run ha
  simp only [e0, Result.andThen_ok, Sem.run_bind, Sem.run_pure]
  simp, hR⟩
theorem Qep {w0 : World} {r0 : ResultVar} {v0 : Value} (h : fn.results = #[r0]) (h0 : RV P f w r0 v0) (hR : R v0 w) (hb : Below w0.heap.size w0 w) {a : Act} (ha : Fr N a f) : Qfx P fn R w0 a w := by
  obtain ⟨x, v, hv, v', he, h1, h2⟩ := fn1 (Rr := fun e w' => ∃ v, e = .returned v /\ R v w' /\ Below w0.heap.size w0 w') h h0 ⟨_, rfl, hR, hb⟩ ha
  cases he
  exact ⟨x, _, hv, h1, h2⟩
end
end Go.Proofs.YtbiboamaigedjaaGreatDoor
namespace Go.Proofs.YtbiboamaigedjaaGreatDoor
open Go.RowKit
set_option linter.unusedVariables false
set_option linter.constructorNameAsVariable false
set_option linter.unusedSimpArgs false

/-- Where the own blocks lie, and the data that is read. -/
structure QS where
  b : Nat -> Nat
  d : Nat -> Nat × Nat
/-- A value by symbols: p an own block, x a cell of it at an index, q data that is read, c a test, w what is there just if a test holds. -/
inductive SV where
  | v (x : Value)
  | i (K : IntKind) (n : Int)
  | lit (K : IntKind) (c : Nat)
  | c (p : Prop) (d : Decidable p)
  | l (b : Bool)
  | s (x : ByteArray)
  | p (k o : Nat)
  | x (k o s : Nat) (n : Int)
  | o (a : Option Addr) (len cap : Nat)
  | q (j o : Nat)
  | y (k o len cap : Nat)
  | z (j o len cap : Nat)
  | r (j o s : Nat) (n : Int)
  | t (l : List SV)
  | g (l : List SV)
  | a (K : IntKind) (zs : List Int) (n : Nat)
  | f (F : FuncId) (l : List SV)
  | w (p : Prop) (d : Decidable p) (x : SV)
  | u
/-- The cells that a value takes among others: an array of numbers stands as one. -/
def SV.cs (v : Value) : SV -> List Value
  | .a K zs _ => zs.map (Value.int K)
  | _ => [v]
mutual
def SV.den (ρ : QS) : SV -> Value
  | .v x => x
  | .i K n => .int K n
  | .lit K c => .int K (c : Int)
  | .c p d => .bool (@decide p d)
  | .l b => .bool b
  | .s x => .string x
  | .p k o => .pointer (some ⟨ρ.b k, o, none⟩)
  | .x k o s n => .pointer (some ⟨ρ.b k, o + n.toNat * s, none⟩)
  | .o a l c => .slice a l c
  | .q j o => .pointer (some ⟨(ρ.d j).1, (ρ.d j).2 + o, none⟩)
  | .y k o l c => .slice (some ⟨ρ.b k, o, none⟩) l c
  | .z j o l c => .slice (some ⟨(ρ.d j).1, (ρ.d j).2 + o, none⟩) l c
  | .r j o s n => .pointer (some ⟨(ρ.d j).1, (ρ.d j).2 + (o + n.toNat * s), none⟩)
  | .t l => .tuple (QO ρ l).toArray
  | .g l => .agg (Qp ρ l).toArray
  | .a K zs _ => .agg (zs.map (Value.int K)).toArray
  | .f F l => .func (.func F) #[] (QO ρ l).toArray
  | .w p d x => match d with
    | .isTrue _ => x.den ρ
    | .isFalse _ => undef
  | .u => undef
def QO (ρ : QS) : List SV -> List Value
  | [] => []
  | x :: l => x.den ρ :: QO ρ l
def Qp (ρ : QS) : List SV -> List Value
  | [] => []
  | x :: l => x.cs (x.den ρ) ++ Qp ρ l
end
/-- So many cells it takes. -/
def SV.wd : SV -> Nat
  | .a _ _ n => n
  | _ => 1
def SV.ok : SV -> Prop
  | .a _ zs n => zs.length = n
  | _ => True
def YK : List SV -> Prop
  | [] => True
  | x :: l => x.ok /\ YK l
def YC : List SV -> Nat
  | [] => 0
  | x :: l => x.wd + YC l
mutual
/-- It names own blocks and data below n alone. -/
def SV.wf (n : Nat) : SV -> Bool
  | .p k _ => Nat.blt k n
  | .x k _ _ _ => Nat.blt k n
  | .o _ _ _ => true
  | .q j _ => Nat.blt j n
  | .y k _ _ _ => Nat.blt k n
  | .z j _ _ _ => Nat.blt j n
  | .r j _ _ _ => Nat.blt j n
  | .t l => VU n l
  | .g l => VU n l
  | .f _ l => VU n l
  | .w _ _ x => x.wf n
  | .v _ => true
  | .i _ _ => true
  | .lit _ _ => true
  | .c _ _ => true
  | .l _ => true
  | .s _ => true
  | .a _ _ _ => true
  | .u => true
def VU (n : Nat) : List SV -> Bool
  | [] => true
  | x :: l => match x.wf n with
    | true => VU n l
    | false => false
end
theorem DZ (ρ : QS) : ∀ l : List SV, QO ρ l = l.map (SV.den ρ)
  | [] => rfl
  | x :: l => by rw [QO, DZ ρ l]; rfl
theorem FT (ρ : QS) (l l' : List SV) : QO ρ (l ++ l') = QO ρ l ++ QO ρ l' := by simp [DZ]
theorem Z3 (ρ : QS) : ∀ l l' : List SV, Qp ρ (l ++ l') = Qp ρ l ++ Qp ρ l'
  | [], l' => by simp only [List.nil_append, Qp]
  | x :: l, l' => by simp only [List.cons_append, Qp, Z3 ρ l l', List.append_assoc]
theorem FW {x : SV} (h : x.ok) (v : Value) : (x.cs v).length = x.wd := by
  cases x <;> simp_all [SV.cs, SV.ok, SV.wd]
theorem Xm (ρ : QS) : ∀ {l : List SV}, YK l -> (Qp ρ l).length = YC l
  | [], _ => by simp only [Qp, YC, List.length_nil]
  | x :: l, h => by simp only [Qp, YC, List.length_append, FW h.1, Xm ρ h.2]
theorem Z5 : ∀ {l l' : List SV}, YK (l ++ l') ↔ YK l /\ YK l'
  | [], l' => by simp [YK]
  | x :: l, l' => by simp only [List.cons_append, YK, Z5 (l := l) (l' := l'), and_assoc]
theorem QbL {ρ : QS} {l : List SV} {k : Nat} {x : SV} (h : l[k]? = some x) : (QO ρ l)[k]? = some (x.den ρ) := by rw [DZ, List.getElem?_map, h]; rfl
/-- The same below n. -/
def QS.upto (n : Nat) (ρ ρ' : QS) : Prop := ∀ k, k < n -> ρ.b k = ρ'.b k /\ ρ.d k = ρ'.d k
theorem QY {k n : Nat} (h : Nat.blt k n = true) : k < n := Nat.lt_of_lt_of_le (Nat.lt_succ_self k) (by simpa [Nat.blt] using h)
mutual
theorem SV.den_upto {n : Nat} {ρ ρ' : QS} (h : QS.upto n ρ ρ') : ∀ x : SV, x.wf n = true -> x.den ρ = x.den ρ'
  | .v x, _ => by simp only [SV.den]
  | .i K n, _ => by simp only [SV.den]
  | .lit K c, _ => by simp only [SV.den]
  | .c p d, _ => by simp only [SV.den]
  | .l b, _ => by simp only [SV.den]
  | .s x, _ => by simp only [SV.den]
  | .p k o, hw => by have := (h k (QY (by simpa [SV.wf] using hw))).1; simp only [SV.den, this]
  | .o _ _ _, _ => by simp only [SV.den]
  | .x k o s n, hw => by have := (h k (QY (by simpa [SV.wf] using hw))).1; simp only [SV.den, this]
  | .q j o, hw => by have := (h j (QY (by simpa [SV.wf] using hw))).2; simp only [SV.den, this]
  | .y k _ _ _, hw => by have := (h k (QY (by simpa [SV.wf] using hw))).1; simp only [SV.den, this]
  | .z j _ _ _, hw => by have := (h j (QY (by simpa [SV.wf] using hw))).2; simp only [SV.den, this]
  | .r j _ _ _, hw => by have := (h j (QY (by simpa [SV.wf] using hw))).2; simp only [SV.den, this]
  | .t l, hw => by simp only [SV.den, JV h l (by simpa [SV.wf] using hw)]
  | .g l, hw => by simp only [SV.den, Xv h l (by simpa [SV.wf] using hw)]
  | .a K zs _, _ => by simp only [SV.den]
  | .f F l, hw => by simp only [SV.den, JV h l (by simpa [SV.wf] using hw)]
  | .w p d x, hw => by
    have := SV.den_upto h x (by simpa [SV.wf] using hw)
    cases d with
    | isTrue hp => simp only [SV.den, this]
    | isFalse hp => simp only [SV.den]
  | .u, _ => by simp only [SV.den]
theorem JV {n : Nat} {ρ ρ' : QS} (h : QS.upto n ρ ρ') : ∀ l : List SV, VU n l = true -> QO ρ l = QO ρ' l
  | [], _ => by simp only [QO]
  | x :: l, hw => by
    unfold VU at hw
    split at hw
    . rename_i hx
      simp only [QO, SV.den_upto h x hx, JV h l hw]
    . cases hw
theorem Xv {n : Nat} {ρ ρ' : QS} (h : QS.upto n ρ ρ') : ∀ l : List SV, VU n l = true -> Qp ρ l = Qp ρ' l
  | [], _ => by simp only [Qp]
  | x :: l, hw => by
    unfold VU at hw
    split at hw
    . rename_i hx
      simp only [Qp, SV.den_upto h x hx, Xv h l hw]
    . cases hw
end
abbrev SF := List (Nat × SV)
def lk : SF -> Nat -> Option SV
  | [], _ => none
  | (k, v) :: l, t => match Nat.beq k t with
    | true => some v
    | false => lk l t
def QI (ρ : QS) : SF -> Fl
  | [] => []
  | (k, v) :: l => (k, v.den ρ) :: QI ρ l
theorem Yw {ρ : QS} : ∀ {f : SF} {t : Nat} {v : SV}, lk f t = some v -> VQ (QI ρ f) t = some (v.den ρ)
  | [], _, _, h => by cases h
  | (k, u) :: l, t, v, h => by
    unfold lk at h
    unfold QI VQ
    cases hk : Nat.beq k t with
    | true => rw [hk] at h; cases h; rfl
    | false => rw [hk] at h; exact Yw h
def wfF (n : Nat) : SF -> Bool
  | [] => true
  | (_, v) :: l => match v.wf n with
    | true => wfF n l
    | false => false
theorem Ym {n : Nat} {ρ ρ' : QS} (h : QS.upto n ρ ρ') : ∀ f : SF, wfF n f = true -> QI ρ f = QI ρ' f
  | [], _ => rfl
  | (k, v) :: l, hw => by
    unfold wfF at hw
    split at hw
    . rename_i hx
      simp only [QI, SV.den_upto h v hx, Ym h l hw]
    . cases hw
/-- What an own block holds. -/
abbrev Cl := List SV
abbrev SM := List (Nat × Cl)
abbrev SD := List (Nat × List SV)
def HR (n : Nat) : SM -> Bool
  | [] => true
  | (k, c) :: l => match Nat.blt k n with
    | true => match VU n c with
      | true => HR n l
      | false => false
    | false => false
def Hk (n : Nat) : SD -> Bool
  | [] => true
  | (k, c) :: l => match Nat.blt k n with
    | true => match VU n c with
      | true => Hk n l
      | false => false
    | false => false
theorem Gy {n : Nat} : ∀ {m : SM}, HR n m = true -> ∀ x ∈ m, x.1 < n /\ VU n x.2 = true
  | [], _, x, hx => by cases hx
  | (k, c) :: l, hw, x, hx => by
    unfold HR at hw
    split at hw
    . rename_i h1
      split at hw
      . rename_i h2
        cases hx with
        | head => exact ⟨QY h1, h2⟩
        | tail _ hx => exact Gy hw x hx
      . cases hw
    . cases hw
theorem HV {n : Nat} : ∀ {m : SD}, Hk n m = true -> ∀ x ∈ m, x.1 < n /\ VU n x.2 = true
  | [], _, x, hx => by cases hx
  | (k, c) :: l, hw, x, hx => by
    unfold Hk at hw
    split at hw
    . rename_i h1
      split at hw
      . rename_i h2
        cases hx with
        | head => exact ⟨QY h1, h2⟩
        | tail _ hx => exact HV hw x hx
      . cases hw
    . cases hw
/-- The call's own blocks, and those that were its caller's. -/
def own (ρ : QS) (m : SM) (L0 : List Nat) : List Nat := m.map (fun x => ρ.b x.1) ++ L0
/-- What the call may have done to the world: nothing to what lay off these blocks. -/
structure Stp (L : List Nat) (w w' : World) : Prop where
  size : w.heap.size <= w'.heap.size
  block : ∀ k, k ∉ L -> k < w.heap.size -> w'.heap[k]? = w.heap[k]?
theorem Stp.refl (L : List Nat) (w : World) : Stp L w w := ⟨Nat.le_refl _, fun _ _ _ => rfl⟩
theorem Stp.of_below {L : List Nat} {w w' : World} (h : Below w.heap.size w w') : Stp L w w' := ⟨h.size, fun k _ hk => h.block k hk⟩
theorem Stp.of_only {L : List Nat} {B : Nat} {w w' : World} (h : U4 B w w') (hB : B ∈ L) : Stp L w w' := ⟨by rw [h.size]; exact Nat.le_refl _, fun k hk _ => h.block k (fun e => hk (e ▸ hB))⟩
theorem Stp.agree {L : List Nat} {w w' : World} (h : Stp L w w') : JK L w w' := ⟨h.size, fun k hk h' => h.block k hk h'⟩
/-- A fact on memory off the own blocks, that outlasts all that the call does. -/
structure QN where
  h : List Nat -> World -> Prop
  s : ∀ {L L' w w'}, h L w -> Stp L w w' -> (∀ x ∈ L', x ∈ L \/ w.heap.size <= x) -> h L' w'
def Hs : List QN -> List Nat -> World -> Prop
  | [], _, _ => True
  | φ :: l, L, w => φ.h L w /\ Hs l L w
theorem Hs.stp {L L' : List Nat} {w w' : World} (hs : Stp L w w') (hl : ∀ x ∈ L', x ∈ L \/ w.heap.size <= x) : ∀ {Γ : List QN}, Hs Γ L w -> Hs Γ L' w'
  | [], _ => trivial
  | φ :: l, h => ⟨φ.s h.1 hs hl, Hs.stp hs hl h.2⟩
theorem Hs.get {L : List Nat} {w : World} {φ : QN} : ∀ {Γ : List QN} {i : Nat}, Hs Γ L w -> Γ[i]? = some φ -> φ.h L w
  | [], i, _, h => by simp at h
  | ψ :: l, 0, h, hi => by simp at hi; subst hi; exact h.1
  | ψ :: l, i + 1, h, hi => Hs.get (Γ := l) (i := i) h.2 (by simpa using hi)
theorem Hs.app {L : List Nat} {w : World} : ∀ {Γ Δ : List QN}, Hs Γ L w -> Hs Δ L w -> Hs (Γ ++ Δ) L w
  | [], _, _, h => h
  | φ :: l, Δ, h, h' => ⟨h.1, Hs.app h.2 h'⟩
theorem Zh.stp {s : Nat} {L L' : List Nat} {w w' : World} {v : Value} {rs : List (List Value)} (h : Zh s L w v rs) (hs : Stp L w w') (hl : ∀ x ∈ L', x ∈ L \/ w.heap.size <= x) : Zh s L' w' v rs := by
  obtain ⟨h0, hr, a, cap, h1, h2, h3, h4, h5⟩ := h.agree hs.agree
  obtain ⟨_, _, a', cap', h1', _, _, _, h5'⟩ := h
  refine ⟨h0, hr, a, cap, h1, h2, h3, h4, fun hn => ?_⟩
  obtain ⟨X, o, e, hX, hc⟩ := h5 hn
  obtain ⟨X', o', e', hX', hc'⟩ := h5' hn
  refine ⟨X, o, e, fun hx => ?_, hc⟩
  have hlen : 0 < rs.flatten.length := by
    rw [Yx hr]
    exact Nat.mul_pos (List.length_pos_iff.2 hn) h0
  have hlt := ZY hc' hlen
  have : X = X' := by rw [h1] at h1'; simp only [Value.slice.injEq] at h1'; rw [e, e'] at h1'; simp at h1'; exact h1'.1.1
  rcases hl X hx with h | h
  . exact hX h
  . omega
/-- A slice of rows. -/
def fR (s : Nat) (v : Value) (rs : List (List Value)) : QN := ⟨fun L w => Zh s L w v rs, Zh.stp⟩
/-- What holds of the world, of what the symbols say. -/
structure WM (ρ : QS) (L0 : List Nat) (w0 : World) (m : SM) (d : SD) (n : Nat) (Γ : List QN) (w : World) : Prop where
  mem : ∀ x ∈ m, Q8 w (ρ.b x.1) (Qp ρ x.2) /\ YK x.2
  key : ∀ x ∈ m, x.1 < n
  nod : (m.map fun x => ρ.b x.1).Nodup
  low : ∀ x ∈ m, w0.heap.size <= ρ.b x.1
  bel : Below w0.heap.size w0 w
  dat : ∀ x ∈ d, (ρ.d x.1).1 ∉ own ρ m L0 /\ w.rangeAt (ρ.d x.1).1 (ρ.d x.1).2 (Qp ρ x.2) /\ YK x.2 /\ 0 < YC x.2
  dky : ∀ x ∈ d, x.1 < n
  ll : LL L0 w
  hs : Hs Γ (own ρ m L0) w
theorem WM.lt {ρ : QS} {L0 : List Nat} {w0 : World} {m : SM} {d : SD} {n : Nat} {Γ : List QN} {w : World} (h : WM ρ L0 w0 m d n Γ w) : LL (own ρ m L0) w := fun x hx => by
  unfold own at hx
  rcases List.mem_append.1 hx with h1 | h1
  . obtain ⟨y, hy, rfl⟩ := List.mem_map.1 h1
    exact (h.mem y hy).1.lt
  . exact h.ll x h1
/-- A step that leaves the own blocks as they are. -/
theorem WM.below {ρ : QS} {L0 : List Nat} {w0 : World} {m : SM} {d : SD} {n : Nat} {Γ : List QN} {w w' : World} (h : WM ρ L0 w0 m d n Γ w) (hb : Below w.heap.size w w') : WM ρ L0 w0 m d n Γ w' :=
  ⟨fun x hx => ⟨(h.mem x hx).1.below hb, (h.mem x hx).2⟩, h.key, h.nod, h.low, Qk h.bel hb, fun x hx => ⟨(h.dat x hx).1, Zy (h.dat x hx).2.1 (JK.of_below (L := own ρ m L0) hb) (h.dat x hx).1, (h.dat x hx).2.2⟩, h.dky, h.ll.below hb, h.hs.stp (.of_below hb) fun x hx => .inl hx⟩
def Qgk {α : Type} (k : Nat) (c : Cl) : SM -> (SM -> α) -> α
  | [], K => K []
  | (j, x) :: l, K => match Nat.beq j k with
    | true => K ((j, c) :: l)
    | false => Qgk k c l fun l' => K ((j, x) :: l')
def Km (k : Nat) (c : Cl) : SM -> SM
  | [] => []
  | (j, x) :: l => match Nat.beq j k with
    | true => (j, c) :: l
    | false => (j, x) :: Km k c l
theorem De {α : Type} {k : Nat} {c : Cl} : ∀ {m : SM} {K : SM -> α}, Qgk k c m K = K (Km k c m)
  | [], K => rfl
  | (j, x) :: l, K => by
    unfold Qgk Km
    cases hk : Nat.beq j k with
    | true => rfl
    | false => exact De
def ZI : SM -> Nat -> Option Cl
  | [], _ => none
  | (j, x) :: l, k => match Nat.beq j k with
    | true => some x
    | false => ZI l k
theorem Zu : ∀ {m : SM} {k : Nat} {c : Cl}, ZI m k = some c -> (k, c) ∈ m
  | [], _, _, h => by cases h
  | (j, x) :: l, k, c, h => by
    unfold ZI at h
    cases hk : Nat.beq j k with
    | true => rw [hk] at h; cases h; have := Nat.eq_of_beq_eq_true hk; subst this; exact .head _
    | false => rw [hk] at h; exact .tail _ (Zu h)
theorem QaY {k : Nat} {c : Cl} : ∀ m : SM, (Km k c m).map Prod.fst = m.map Prod.fst
  | [] => rfl
  | (j, x) :: l => by
    unfold Km
    cases hk : Nat.beq j k with
    | true => rfl
    | false => simp only [List.map_cons, QaY l]
theorem Dn {k : Nat} {c : Cl} {ρ : QS} (m : SM) : (Km k c m).map (fun x => ρ.b x.1) = m.map fun x => ρ.b x.1 := by
  have h := congrArg (List.map ρ.b) (QaY (k := k) (c := c) m)
  rw [List.map_map, List.map_map] at h
  exact h
theorem Vv {k : Nat} {c : Cl} : ∀ {m : SM} {x : Nat × Cl}, (m.map Prod.fst).Nodup -> x ∈ Km k c m -> (x.1 = k /\ x.2 = c) \/ (x ∈ m /\ x.1 ≠ k)
  | [], x, _, h => by cases h
  | (j, y) :: l, x, hn, h => by
    unfold Km at h
    simp only [List.map_cons, List.nodup_cons] at hn
    cases hk : Nat.beq j k with
    | true =>
      rw [hk] at h
      have e := Nat.eq_of_beq_eq_true hk
      subst e
      cases h with
      | head => exact .inl ⟨rfl, rfl⟩
      | tail _ h => exact .inr ⟨.tail _ h, fun e => hn.1 (e ▸ List.mem_map_of_mem h)⟩
    | false =>
      rw [hk] at h
      cases h with
      | head => exact .inr ⟨.head _, Nat.ne_of_beq_eq_false hk⟩
      | tail _ h =>
        rcases Vv hn.2 h with h | h
        . exact .inl h
        . exact .inr ⟨.tail _ h.1, h.2⟩
theorem Zn {ρ : QS} {m : SM} (h : (m.map fun x => ρ.b x.1).Nodup) : (m.map Prod.fst).Nodup := by
  have : (m.map fun x => ρ.b x.1) = (m.map Prod.fst).map ρ.b := by simp
  rw [this] at h
  exact (List.pairwise_map.1 h).imp fun h e => h (by rw [e])
theorem Uy {ρ : QS} : ∀ {m : SM}, (m.map fun x => ρ.b x.1).Nodup -> ∀ {x y}, x ∈ m -> y ∈ m -> x.1 ≠ y.1 -> ρ.b x.1 ≠ ρ.b y.1
  | [], _, x, y, hx, _, _ => by cases hx
  | z :: l, h, x, y, hx, hy, hn => by
    simp only [List.map_cons, List.nodup_cons] at h
    cases hx with
    | head =>
      cases hy with
      | head => exact absurd rfl hn
      | tail _ hy => exact fun e => h.1 (e ▸ List.mem_map_of_mem (f := fun x => ρ.b x.1) hy)
    | tail _ hx =>
      cases hy with
      | head => exact fun e => h.1 (e ▸ List.mem_map_of_mem (f := fun x => ρ.b x.1) hx)
      | tail _ hy => exact Uy h.2 hx hy hn
/-- An own block is written. -/
theorem WM.put {ρ : QS} {L0 : List Nat} {w0 : World} {m : SM} {d : SD} {n : Nat} {Γ : List QN} {w w' : World} (h : WM ρ L0 w0 m d n Γ w) {k : Nat} {c c' : Cl} (hk : ZI m k = some c) (hb : Q8 w' (ρ.b k) (Qp ρ c')) (hc : YK c') (ho : U4 (ρ.b k) w w') : WM ρ L0 w0 (Km k c' m) d n Γ w' := by
  have hkm := Zu hk
  have hown : own ρ (Km k c' m) L0 = own ρ m L0 := by unfold own; rw [Dn]
  have hB : ρ.b k ∈ own ρ m L0 := List.mem_append_left _ (List.mem_map_of_mem (f := fun x : Nat × Cl => ρ.b x.1) hkm)
  refine ⟨fun x hx => ?_, fun x hx => ?_, by rw [Dn]; exact h.nod, fun x hx => ?_, ho.below h.bel (h.low _ hkm), fun x hx => ?_, h.dky, h.ll.only ho, ?_⟩
  . rcases Vv (Zn h.nod) hx with ⟨e1, e2⟩ | ⟨h1, h2⟩
    . rw [e1, e2]; exact ⟨hb, hc⟩
    . exact ⟨(h.mem x h1).1.other ho (Uy h.nod h1 hkm h2), (h.mem x h1).2⟩
  . rcases Vv (Zn h.nod) hx with ⟨e1, e2⟩ | ⟨h1, h2⟩
    . rw [e1]; exact h.key _ hkm
    . exact h.key x h1
  . rcases Vv (Zn h.nod) hx with ⟨e1, e2⟩ | ⟨h1, h2⟩
    . rw [e1]; exact h.low _ hkm
    . exact h.low x h1
  . rw [hown]
    exact ⟨(h.dat x hx).1, Zy (h.dat x hx).2.1 (JK.of_only ho hB) (h.dat x hx).1, (h.dat x hx).2.2⟩
  . rw [hown]
    exact h.hs.stp (.of_only ho hB) fun x hx => .inl hx
def QS.setb (ρ : QS) (n B : Nat) : QS := ⟨fun k => if k = n then B else ρ.b k, ρ.d⟩
def QS.setd (ρ : QS) (n : Nat) (B : Nat × Nat) : QS := ⟨ρ.b, fun k => if k = n then B else ρ.d k⟩
theorem QS.setb_upto (ρ : QS) (n B : Nat) : QS.upto n ρ (ρ.setb n B) := fun k hk => ⟨by simp only [QS.setb]; rw [if_neg (by omega)], rfl⟩
theorem QS.setd_upto (ρ : QS) (n : Nat) (B : Nat × Nat) : QS.upto n ρ (ρ.setd n B) := fun k hk => ⟨rfl, by simp only [QS.setd]; rw [if_neg (by omega)]⟩
theorem QS.setb_at (ρ : QS) (n B : Nat) : (ρ.setb n B).b n = B := by simp [QS.setb]
theorem QS.setd_at (ρ : QS) (n : Nat) (B : Nat × Nat) : (ρ.setd n B).d n = B := by simp [QS.setd]
theorem K4 {n : Nat} {ρ ρ' : QS} (h : QS.upto n ρ ρ') {m : SM} (hk : ∀ x ∈ m, x.1 < n) : (m.map fun x => ρ'.b x.1) = m.map fun x => ρ.b x.1 := List.map_congr_left fun x hx => ((h x.1 (hk x hx)).1).symm
/-- Another environment that is the same below n. -/
theorem WM.upto {ρ ρ' : QS} {L0 : List Nat} {w0 : World} {m : SM} {d : SD} {n : Nat} {Γ : List QN} {w : World} (h : WM ρ L0 w0 m d n Γ w) (he : QS.upto n ρ ρ') (hm : HR n m = true) (hd : Hk n d = true) : WM ρ' L0 w0 m d n Γ w := by
  have e := K4 he h.key
  have hown : own ρ' m L0 = own ρ m L0 := by unfold own; rw [e]
  refine ⟨fun x hx => ?_, h.key, by rw [e]; exact h.nod, fun x hx => ?_, h.bel, fun x hx => ?_, h.dky, h.ll, by rw [hown]; exact h.hs⟩
  . rw [<- (he x.1 (h.key x hx)).1, <- Xv he x.2 (Gy hm x hx).2]; exact h.mem x hx
  . rw [<- (he x.1 (h.key x hx)).1]; exact h.low x hx
  . rw [hown, <- (he x.1 (h.dky x hx)).2, <- Xv he x.2 (HV hd x hx).2]; exact h.dat x hx
/-- A new block. -/
theorem WM.new {ρ : QS} {L0 : List Nat} {w0 : World} {m : SM} {d : SD} {n : Nat} {Γ : List QN} {w w' : World} (h : WM ρ L0 w0 m d n Γ w) (hm : HR n m = true) (hd : Hk n d = true) {c : Cl} (hc : YK c) (hcw : VU n c = true) {B : Nat} (hB : w.heap.size <= B) (hb : Below w.heap.size w w') (hk : Q8 w' B (Qp ρ c)) :
    WM (ρ.setb n B) L0 w0 ((n, c) :: m) d (n + 1) Γ w' := by
  have h1 := (h.below hb).upto (QS.setb_upto ρ n B) hm hd
  have hlt := h.lt
  have hown : own (ρ.setb n B) ((n, c) :: m) L0 = B :: own (ρ.setb n B) m L0 := by unfold own; simp [QS.setb_at]
  have hown2 : own (ρ.setb n B) m L0 = own ρ m L0 := by unfold own; rw [K4 (QS.setb_upto ρ n B) h.key]
  have hbs := h.bel.size
  refine ⟨fun x hx => ?_, fun x hx => ?_, ?_, fun x hx => ?_, h1.bel, fun x hx => ?_, fun x hx => Nat.lt_succ_of_lt (h.dky x hx), h1.ll, ?_⟩
  . cases hx with
    | head => rw [QS.setb_at, <- Xv (QS.setb_upto ρ n B) c hcw]; exact ⟨hk, hc⟩
    | tail _ hx => exact h1.mem x hx
  . cases hx with
    | head => exact Nat.lt_succ_self _
    | tail _ hx => exact Nat.lt_succ_of_lt (h.key x hx)
  . rw [List.map_cons, List.nodup_cons]
    refine ⟨fun hx => ?_, h1.nod⟩
    rw [QS.setb_at] at hx
    obtain ⟨y, hy, he⟩ := List.mem_map.1 hx
    rw [<- ((QS.setb_upto ρ n B) y.1 (h.key y hy)).1] at he
    have := (h.mem y hy).1.lt
    omega
  . cases hx with
    | head => rw [QS.setb_at]; omega
    | tail _ hx => exact h1.low x hx
  . obtain ⟨h2, h3, h4, h4'⟩ := h1.dat x hx
    refine ⟨?_, h3, h4, h4'⟩
    rw [hown]
    simp only [List.mem_cons, not_or]
    refine ⟨?_, h2⟩
    obtain ⟨_, h5, _⟩ := h.dat x hx
    have := ZY h5 (by rw [Xm _ h4]; exact h4')
    rw [<- ((QS.setb_upto ρ n B) x.1 (h.dky x hx)).2]
    omega
  . rw [hown, hown2]
    refine h.hs.stp (.of_below hb) fun x hx => ?_
    cases hx with
    | head => exact .inr hB
    | tail _ hx => exact .inl hx
/-- What one reads. -/
theorem WM.cell {ρ : QS} {L0 : List Nat} {w0 : World} {m : SM} {d : SD} {n : Nat} {Γ : List QN} {w : World} (h : WM ρ L0 w0 m d n Γ w) {k : Nat} {c : Cl} (hk : ZI m k = some c) : Q8 w (ρ.b k) (Qp ρ c) /\ YK c := h.mem _ (Zu hk)
theorem WM.f {ρ : QS} {L0 : List Nat} {w0 : World} {m : SM} {d : SD} {n : Nat} {Γ : List QN} {w : World} (h : WM ρ L0 w0 m d n Γ w) (i : Nat) {φ : QN} (hi : Γ[i]? = some φ := by rfl) : φ.h (own ρ m L0) w := h.hs.get hi
end Go.Proofs.YtbiboamaigedjaaGreatDoor
namespace Go.Proofs.YtbiboamaigedjaaGreatDoor
open Go.RowKit
set_option linter.unusedVariables false
set_option linter.unusedSimpArgs false
set_option maxRecDepth 8000
set_option maxHeartbeats 2000000

theorem Oper.wp_weakenN {P : Program} {o : Oper} {a : Act} {w : World} {K : Act -> World -> Prop} {Q' Q : Exit -> Act -> World -> Prop} (hq : ∀ e a w, e ≠ .normal -> Q' e a w -> Q e a w) (h : Oper.wp P o a w K Q') : Oper.wp P o a w K Q := by
  unfold Oper.wp at *
  generalize (execOp a.eval o).run P w = r at *
  cases r with
  | ok n w' =>
    cases n <;> simp only [Oper.upon] at h ⊢ <;>
      first
        | exact h
        | exact Calls.mono h (fun e w'' he => by
            cases e with
            | returned u => exact he
            | panicked c => exact hq _ _ _ (by simp) he
            | outgrown => obtain ⟨x, y, hxy⟩ := he; exact ⟨x, y, hq _ _ _ (by simp) hxy⟩)
  | halt x w' =>
    cases x <;> simp only [Oper.upon] at h ⊢
    case panic u => exact hq _ _ _ (by simp) h
/-- What an operation waits for, through others. -/
def GG (md : Region.Mode) (ops : Array Oper) : Nat -> Nat -> Nat -> Bool
  | 0, _, _ => false
  | n + 1, k, j => (QV md ops k).any fun a => a == j || GG md ops n a j
/-- The first operation behind the first m waits for all of them; each other one for the one ahead of it; guards VQ ahead. -/
def KH (md : Region.Mode) (ops : Array Oper) (m : Nat) : Bool :=
  (List.range ops.size).all fun k => (k < m || (if k = m then (List.range m).all fun j => GG md ops ops.size k j else (QV md ops k).contains (k - 1))) && (match (ops[k]?).bind (·.guard) with | some (g, _) => decide (g < k) | none => true)
section
variable {P : Program} {ops pre : Array Oper} {md : Region.Mode} {Q : Exit -> Act -> World -> Prop} {m : Nat}
theorem G6 (h : KH md ops m = true) {k : Nat} (hk : k < ops.size) (hm : m < k) : k - 1 ∈ QV md ops k := by
  have := List.all_eq_true.1 h k (List.mem_range.2 hk)
  simp only [Bool.and_eq_true, Bool.or_eq_true, decide_eq_true_eq] at this
  rcases this.1 with h1 | h1
  . omega
  . rw [if_neg (by omega)] at h1
    simpa using h1
theorem QeT (h : KH md ops m = true) (hk : m < ops.size) {j : Nat} (hj : j < m) : GG md ops ops.size m j = true := by
  have := List.all_eq_true.1 h m (List.mem_range.2 hk)
  simp only [Bool.and_eq_true, Bool.or_eq_true, decide_eq_true_eq] at this
  rcases this.1 with h1 | h1
  . omega
  . simp only [if_true] at h1
    exact List.all_eq_true.1 h1 j (List.mem_range.2 hj)
theorem J4 {p : Nat -> Prop} (hcl : ∀ a, p a -> ∀ b ∈ QV md ops a, p b) : ∀ (n k j : Nat), GG md ops n k j = true -> (∀ a ∈ QV md ops k, p a) -> p j
  | 0, k, j, h, _ => by simp [GG] at h
  | n + 1, k, j, h, hd => by
    unfold GG at h
    obtain ⟨a, ha, hor⟩ := List.any_eq_true.1 h
    simp only [Bool.or_eq_true, beq_iff_eq] at hor
    rcases hor with rfl | h'
    . exact hd a ha
    . exact J4 hcl n a j h' (hcl a (hd a ha))
theorem QaD (h : KH md ops m = true) {k g : Nat} {o : Oper} {b : Bool} (ho : ops[k]? = some o) (hg : o.guard = some (g, b)) : g < k := by
  have := List.all_eq_true.1 h k (List.mem_range.2 (Array.getElem?_eq_some_iff.1 ho).1)
  simp only [Bool.and_eq_true] at this
  have h2 := this.2
  rw [ho] at h2
  simp only [Option.bind_some, hg, decide_eq_true_eq] at h2
  exact h2
theorem Kk {k : Nat} {listed : Array Bool} (h : k ∈ Region.ready md ops listed) : ∀ j ∈ QV md ops k, listed.getD j false = true := by
  obtain ⟨h0, o, ho, hd⟩ := mem_ready.1 h
  intro j hj
  rw [Yk ho] at hj
  obtain ⟨e, he, rfl⟩ := List.mem_map.1 hj
  obtain ⟨he1, he2⟩ := List.mem_filter.1 he
  exact hd e (by simpa using he1) he2
theorem ZB {listed : Array Bool} {j : Nat} (hj : j < listed.size) : listed.getD j true = listed.getD j false := by
  simp [Array.getD_eq_getD_getElem?, Array.getElem?_eq_getElem hj]
theorem Qgm (hb : Ud md ops = true) (ht : KH md ops m = true) : ∀ (t k : Nat), m <= k -> k + t = ops.size -> ∀ (fuel : Nat), t <= fuel -> ∀ (listed : Array Bool), listed.size = ops.size -> (∀ j, listed.getD j false = decide (j < k)) -> ∀ a w, wpOps P ops Q (List.range' k t) a w -> wpAny P md ops Q fuel listed a w := by
  intro t
  induction t with
  | zero =>
    intro k hm hk fuel hf listed hsz hl a w h
    have hr : Region.ready md ops listed = [] := by
      rw [List.eq_nil_iff_forall_not_mem]
      intro j hj
      obtain ⟨h0, o, ho, _⟩ := mem_ready.1 hj
      have hjs := (Array.getElem?_eq_some_iff.1 ho).1
      rw [ZB (by omega), hl] at h0
      have := of_decide_eq_false h0
      omega
    cases fuel with
    | zero => exact ⟨hr, h⟩
    | succ fuel => exact ⟨fun _ => h, fun i hi => (by rw [hr] at hi; cases hi)⟩
  | succ t ih =>
    intro k hm hk fuel hf listed hsz hl a w h
    cases fuel with
    | zero => omega
    | succ fuel =>
      have hks : k < ops.size := by omega
      have hmem : k ∈ Region.ready md ops listed := by
        refine mem_ready.2 ⟨by rw [ZB (by omega), hl]; simp, _, Array.getElem?_eq_getElem hks, fun e he hbd => ?_⟩
        rw [hl]
        have hd := (Vk hb (Array.getElem?_eq_getElem hks)).2.1
        have := hd e.on (List.mem_map.2 ⟨e, List.mem_filter.2 ⟨by simpa using he, hbd⟩, rfl⟩)
        simpa using this
      refine ⟨fun hr => (by rw [hr] at hmem; cases hmem), fun i hi => ?_⟩
      have hik : i = k := by
        obtain ⟨h0, o, ho, _⟩ := mem_ready.1 hi
        have his := (Array.getElem?_eq_some_iff.1 ho).1
        rw [ZB (by omega), hl] at h0
        have h1 := of_decide_eq_false h0
        rcases Nat.lt_or_ge k i with h2 | h2
        . have := Kk hi (i - 1) (G6 ht his (by omega))
          rw [hl] at this
          have := of_decide_eq_true this
          omega
        . omega
      subst hik
      rw [List.range'_succ, wpOps_cons] at h
      refine wpOp_mono (fun a' w' h' => ih (i + 1) (by omega) (by omega) fuel (by omega) _ (by simp [hsz]) (fun j => ?_) a' w' h') h
      by_cases e : j = i
      . subst e
        simp [Array.getD_eq_getD_getElem?, hsz, hks]
      . rw [getD_set_ne false (fun h => e h.symm), hl]
        simp only [decide_eq_decide]
        omega
def Qk2 (P : Program) (ops : Array Oper) (Q : Exit -> Act -> World -> Prop) (m t : Nat) : Exit -> Act -> World -> Prop
  | .normal, a, w => wpOps P ops Q (List.range' m t) a w
  | _, _, _ => False
theorem Qa2 (hb : Ud md ops = true) (hbp : Ud md pre = true) {suf : List Oper} (hops : ops.toList = pre.toList ++ suf) (ht : KH md ops pre.size = true) : ∀ (fuel : Nat) (listed : Array Bool), listed.size = pre.size -> (∀ j, listed.getD j false = true -> ∀ k ∈ QV md pre j, listed.getD k false = true) -> ∀ a w, wpAny P md pre (Qk2 P ops Q pre.size suf.length) fuel listed a w ->
    wpAny P md ops Q (fuel + suf.length) (listed ++ Array.replicate suf.length false) a w := by
  have hsize : ops.size = pre.size + suf.length := by rw [<- Array.length_toList, hops]; simp
  have hget : ∀ i, i < pre.size -> ops[i]? = pre[i]? := fun i hi => by
    rw [<- Array.getElem?_toList, hops, List.getElem?_append_left (by simpa using hi), Array.getElem?_toList]
  have hlist : ∀ (listed : Array Bool), listed.size = pre.size -> ∀ j, (listed ++ Array.replicate suf.length false).getD j false = listed.getD j false := fun listed hsz j => by
    rw [Array.getD_eq_getD_getElem?, Array.getD_eq_getD_getElem?]
    rcases Nat.lt_or_ge j listed.size with h | h
    . rw [Array.getElem?_append_left h]
    . rw [Array.getElem?_append_right h, Array.getElem?_eq_none h, Array.getElem?_replicate]
      split <;> rfl
  have done : ∀ (listed : Array Bool), listed.size = pre.size -> Region.ready md pre listed = [] -> ∀ a w, wpOps P ops Q (List.range' pre.size suf.length) a w -> ∀ fuel, suf.length <= fuel -> wpAny P md ops Q fuel (listed ++ Array.replicate suf.length false) a w := by
    intro listed hsz hr a w h fuel hf
    have hall := U3 hbp hsz hr
    refine Qgm hb ht suf.length pre.size (Nat.le_refl _) hsize.symm fuel hf _ (by simp [hsz, hsize]) (fun j => ?_) a w h
    rw [hlist listed hsz]
    by_cases hj : j < pre.size
    . rw [hall j hj]; simp [hj]
    . rw [Array.getD_eq_getD_getElem?, Array.getElem?_eq_none (by omega)]
      simp [hj]
  intro fuel
  induction fuel with
  | zero =>
    intro listed hsz hcl a w h
    exact done listed hsz h.1 a w h.2 _ (by omega)
  | succ fuel ih =>
    intro listed hsz hcl a w h
    by_cases hr : Region.ready md pre listed = []
    . exact done listed hsz hr a w (h.1 hr) _ (by omega)
    . obtain ⟨i0, hi0⟩ := List.exists_mem_of_ne_nil _ hr
      have hun : ∃ j, j < pre.size /\ listed.getD j false = false := by
        obtain ⟨h0, o, ho, _⟩ := mem_ready.1 hi0
        have hjs := (Array.getElem?_eq_some_iff.1 ho).1
        exact ⟨i0, hjs, by rw [<- ZB (by omega)]; exact h0⟩
      have hsub : ∀ i, i ∈ Region.ready md ops (listed ++ Array.replicate suf.length false) -> i < pre.size /\ i ∈ Region.ready md pre listed := by
        intro i hi
        obtain ⟨h0, o, ho, hd⟩ := mem_ready.1 hi
        have his := (Array.getElem?_eq_some_iff.1 ho).1
        have hip : i < pre.size := by
          rcases Nat.lt_or_ge i pre.size with h | h
          . exact h
          . exfalso
            have hdeps := Kk hi
            simp only [hlist listed hsz] at hdeps
            have hout : ∀ j, listed.getD j false = true -> j < pre.size := fun j hj => by
              rcases Nat.lt_or_ge j pre.size with h' | h'
              . exact h'
              . simp [Array.getElem?_eq_none (by omega : listed.size <= j)] at hj
            rcases Nat.lt_or_ge pre.size i with h' | h'
            . have := hout _ (hdeps (i - 1) (G6 ht his h'))
              omega
            . have him : i = pre.size := by omega
              subst him
              obtain ⟨j, hj, hlj⟩ := hun
              have := J4 (p := fun j => listed.getD j false = true) (fun b hb' c hc => hcl b hb' c (by
                have : QV md pre b = QV md ops b := by unfold QV; rw [hget b (hout b hb')]
                rw [this]; exact hc)) _ _ _ (QeT ht his hj) hdeps
              rw [hlj] at this
              cases this
        refine ⟨hip, mem_ready.2 ⟨?_, o, by rw [<- hget i hip]; exact ho, fun e he hbd => by rw [<- hlist listed hsz]; exact hd e he hbd⟩⟩
        rw [ZB (by omega)]
        rw [ZB (by simp [hsz]; omega), hlist listed hsz] at h0
        exact h0
      have hsup : i0 ∈ Region.ready md ops (listed ++ Array.replicate suf.length false) := by
        obtain ⟨h0, o, ho, hd⟩ := mem_ready.1 hi0
        have hip := (Array.getElem?_eq_some_iff.1 ho).1
        refine mem_ready.2 ⟨?_, o, by rw [hget i0 hip]; exact ho, fun e he hbd => by rw [hlist listed hsz]; exact hd e he hbd⟩
        rw [ZB (by simp [hsz]; omega), hlist listed hsz, <- ZB (by omega)]
        exact h0
      rw [show fuel + 1 + suf.length = (fuel + suf.length) + 1 by omega]
      refine ⟨fun h' => (by rw [h'] at hsup; cases hsup), fun i hi => ?_⟩
      obtain ⟨hip, hir⟩ := hsub i hi
      have hw := h.2 i hir
      have hset : (listed ++ Array.replicate suf.length false).setIfInBounds i true = listed.setIfInBounds i true ++ Array.replicate suf.length false := by
        rw [Array.setIfInBounds_append, if_pos (by omega)]
      rw [hset]
      have hcl' : ∀ j, (listed.setIfInBounds i true).getD j false = true -> ∀ k ∈ QV md pre j, (listed.setIfInBounds i true).getD k false = true := by
        have hset' : ∀ j, listed.getD j false = true -> (listed.setIfInBounds i true).getD j false = true := fun j hj => by
          by_cases e : j = i
          . subst e
            simp [Array.getD_eq_getD_getElem?, hsz, hip]
          . rw [getD_set_ne false (fun h => e h.symm)]; exact hj
        intro j hj k hk
        by_cases e : j = i
        . subst e
          exact hset' k (Kk hir k hk)
        . rw [getD_set_ne false (fun h => e h.symm)] at hj
          exact hset' k (hcl j hj k hk)
      unfold wpOp at hw ⊢
      rw [hget i hip]
      cases ho : pre[i]? with
      | none => simp only [ho] at hw ⊢; exact ih _ (by simp [hsz]) hcl' a w hw
      | some o =>
        simp only [ho] at hw ⊢
        have hwant : Region.wanted o (yielded ops a.tmps) = Region.wanted o (yielded pre a.tmps) := by
          unfold Region.wanted
          cases hg : o.guard with
          | none => rfl
          | some p =>
            obtain ⟨g, b⟩ := p
            have hgi := QaD ht (by rw [hget i hip]; exact ho) hg
            simp only
            unfold yielded
            rw [hget g (by omega)]
        rw [hwant]
        split
        . next hw1 =>
          rw [if_pos hw1] at hw
          rcases hw with hw | hw
          . refine .inl (Oper.wp_weakenN (Q' := Qk2 P ops Q pre.size suf.length) (fun e a w he h => by cases e <;> first | exact absurd rfl he | exact h.elim) (Oper.wp_mono (fun a' w' h' => ih _ (by simp [hsz]) hcl' a' w' h') hw))
          . obtain ⟨_, _, _, hf⟩ := hw
            exact hf.elim
        . next hw1 =>
          rw [if_neg hw1] at hw
          exact ih _ (by simp [hsz]) hcl' _ _ hw
end
section
variable {P : Program} {N : Nat} {sd : List (Option Tmp × VS)} {dl : List (List Nat)}
/-- The quiet operations ahead, in whatever order; then the others, one by one. -/
theorem WC.drawT {id : Nat} {f : Fl} {w : World} {Q : Exit -> Act -> World -> Prop} (pre suf : List Oper) {ops : List Oper} (hops : pre ++ suf = ops) (sd : List (Option Tmp × VS)) (dl : List (List Nat)) (hm : P.follows .mixedOrders = true) (hb : Ud .any ops.toArray = true) (hbp : Ud .any pre.toArray = true) (ht : KH .any ops.toArray pre.length = true) (hdl : pre.map (Qz .any) = dl)
    (hds : pre.map (·.dst) = sd.map (·.1)) (hN : inN N sd = true) (hmono : VS.mono sd) (hst : Qa P pre.toArray N w sd dl f 0 pre)
    (hend : ∀ W, Below w.heap.size w W -> G0 (fun f W => WL P ops.toArray Q N suf f W) W sd f) : WC P N (.region id ops.toArray true) Q f w := fun a ha => by
  subst hops
  have hlen : dl.length = sd.length := by rw [<- hdl, List.length_map, <- List.length_map (f := (·.dst)), hds, List.length_map]
  have hpl : pre.length = dl.length := by rw [<- hdl, List.length_map]
  refine wp_region_any hm ?_
  have hrep : Array.replicate (pre ++ suf).toArray.size false = Array.replicate pre.toArray.size false ++ Array.replicate suf.length false := by
    simp [Array.replicate_append_replicate]
  rw [hrep]
  have hsz : (pre ++ suf).toArray.size = pre.toArray.size + suf.length := by simp
  rw [hsz]
  refine Qa2 (pre := pre.toArray) (suf := suf) hb hbp (by simp) (by simpa using ht) pre.toArray.size _ (by simp) (fun j hj => by simp [Array.getD_eq_getD_getElem?, Array.getElem?_replicate] at hj; split at hj <;> simp_all) a w.drew ?_
  have hda : ∀ j, QV .any pre.toArray j = (dl[j]?).getD [] := by
    intro j
    subst hdl
    simp only [QV, List.getElem?_map, List.getElem?_toArray]
  have hF0 : ∀ j, (Array.replicate pre.toArray.size false).getD j false = true -> False := fun j hj => by simp [Array.getD_eq_getD_getElem?, Array.getElem?_replicate] at hj; split at hj <;> simp_all
  refine Qaq hbp a (fun _ W => Below w.heap.size w W) (fun j g W => Fw sd j (g j) W) (fun _ _ W W' => Below W.heap.size W W') ?_ ?_ ?_ pre.toArray.size _ (fun _ => undef) a w.drew (by simp) (by
      have := List.countP_le_length (p := fun b => !b) (l := (Array.replicate pre.toArray.size false).toList)
      simpa using this) (fun j hj => (hF0 j hj).elim) (Q4.start fun j hj => hF0 j hj) (Yo (Below.refl _ _) 1) (fun j hj => (hF0 j hj).elim)
  . intro i g W W' j g' hB _ h
    unfold Fw at h ⊢
    cases hs : sd[j]? with
    | none => trivial
    | some p =>
      obtain ⟨d, s⟩ := p
      rw [hs] at h
      cases s with
      | is v => exact h
      | «by» p => exact DC hmono hs _ W W' hB h
  . intro i o hoi L g W _ _ hG hd
    have key : ∀ (l : List Oper) (k : Nat), Qa P pre.toArray N w sd dl f k l -> ∀ j o, l[j]? = some o -> ∀ W, Below w.heap.size w W -> Y6 P pre.toArray o N W sd (fun v W' => Below W.heap.size W W' /\ Fw sd (k + j) v W') ((dl[k + j]?).getD []) f := by
      intro l
      induction l with
      | nil => intro k _ j o h; simp at h
      | cons x l ih =>
        intro k hs j o h
        cases j with
        | zero =>
          simp only [List.getElem?_cons_zero, Option.some.injEq] at h
          subst h
          exact hs.1
        | succ j =>
          have := ih (k + 1) hs.2 j o (by simpa using h)
          rw [show k + (j + 1) = k + 1 + j by omega]
          exact this
    have hk := key pre 0 hst i o (by simpa using hoi) W hG
    rw [Nat.zero_add] at hk
    have hdo : Qz .any o = (dl[i]?).getD [] := by rw [<- hda i, Yk hoi]
    rw [hdo] at hd ⊢
    rw [Do (ds := sd.map (·.1)) (by simpa using hds)]
    have hH : Eo (fun j g w => Fw sd j (g j) w) dl g W ((dl[i]?).getD []) := Eo.of _ fun j hj => by have := hd j hj; rwa [hda j] at this
    refine (Y6.to hN _ f a hk ha hH).mono fun v W' h => ⟨h.1, hG.trans (h.1.mono hG.size), ?_⟩
    simp only [Ki]
    rw [show Yq g i v i = v by simp [Yq]]
    exact h.2
  . intro L g W hL hG hd
    rw [Do (ds := sd.map (·.1)) (by simpa using hds)]
    have hH : Eo (fun j g w => Fw sd j (g j) w) dl g W (List.range' 0 sd.length) := Eo.of _ fun j hj => by
      have hj' : j < pre.toArray.size := by
        simp [List.mem_range'] at hj
        simp
        omega
      have := hd j hj'
      rwa [hda j] at this
    have hfin := G0.to (Q := fun a W => wpList P (pre ++ suf).toArray Q suf a W) hN (fun f h a ha => h a ha) sd 0 f a (by simp) (hend W hG) ha hH
    show wpOps P (pre ++ suf).toArray Q (List.range' pre.toArray.size suf.length) _ _
    rw [wpOps_eq_wpList suf pre.toArray.size (fun j => by simp [List.getElem?_append_right])]
    rw [List.range_eq_range', show pre.toArray.size = sd.length by simp; omega]
    exact hfin
/-- The same, by the number of the quiet ones. -/
theorem WC.drawM {id : Nat} {f : Fl} {w : World} {Q : Exit -> Act -> World -> Prop} (m : Nat) {ops : List Oper} (sd : List (Option Tmp × VS)) (dl : List (List Nat)) (hm : P.follows .mixedOrders = true) (hb : Ud .any ops.toArray = true) (hbp : Ud .any (ops.take m).toArray = true) (ht : KH .any ops.toArray (ops.take m).length = true) (hdl : (ops.take m).map (Qz .any) = dl)
    (hds : (ops.take m).map (·.dst) = sd.map (·.1)) (hN : inN N sd = true) (hmono : VS.mono sd) (hst : Qa P (ops.take m).toArray N w sd dl f 0 (ops.take m))
    (hend : ∀ W, Below w.heap.size w W -> G0 (fun f W => WL P ops.toArray Q N (ops.drop m) f W) W sd f) : WC P N (.region id ops.toArray true) Q f w :=
  WC.drawT (ops.take m) (ops.drop m) (List.take_append_drop m ops) sd dl hm hb hbp ht hdl hds hN hmono hst hend
theorem Qa.cons {ops : Array Oper} {w0 : World} {f : Fl} {k : Nat} {o : Oper} {l : List Oper} (h : ∀ W, Below w0.heap.size w0 W -> Y6 P ops o N W sd (fun v W' => Below W.heap.size W W' /\ Fw sd k v W') ((dl[k]?).getD []) f) (hl : Qa P ops N w0 sd dl f (k + 1) l) : Qa P ops N w0 sd dl f k (o :: l) := ⟨h, hl⟩
end
end Go.Proofs.YtbiboamaigedjaaGreatDoor
