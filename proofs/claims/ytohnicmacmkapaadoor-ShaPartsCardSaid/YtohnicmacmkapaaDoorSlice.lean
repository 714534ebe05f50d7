/- Slices whose elements are rows of numbers: an element's address; a new one of zeros. No program stands here. -/
import Derived.Test.YtohnicmacmkapaaDoorMid
import Derived.Laws.MakeOwn
namespace Go.Proofs.YtohnicmacmkapaaDoor
open Go.RowKit
set_option linter.unusedVariables false
section
variable {P : Program} {ops : Array Oper} {o : Oper} {a : Act} {w : World} {R : Value → World → Prop}
theorem run_indexS {t e : TypeId} {n c s : Nat} (hu : P.underlying t = some (.slice e)) (hs : (P.info? e).map (·.size) = some s) (B o0 : Nat) (k : IntKind) (i : Int) (h0 : 0 ≤ i) (h1 : i < n) :
    (Instr.indexAt t (.slice (some ⟨B, o0, none⟩) n c) (.int k i)).run P w = .ok (.pointer (some ⟨B, o0 + i.toNat * s, none⟩)) w := by
  cases hi : P.info? e with
  | none => rw [hi] at hs; cases hs
  | some q =>
    have hq : q.size = s := by simpa [hi] using hs
    simp [Instr.indexAt, asIntOf, Sem.run_bind, run_underlying hu w, h0, h1, sizeOf, typeInfo, hi, hq, addr_mid]
theorem Does.indexS (hw : Region.wanted o (yielded ops a.tmps) = true) (t : TypeId) (x y : Operand) (ho : o.op = .indexAddr t x y) {e : TypeId} {n c s : Nat} (hu : P.underlying t = some (.slice e)) (hs : (P.info? e).map (·.size) = some s) (B o0 : Nat) (hx : a.eval x = .slice (some ⟨B, o0, none⟩) n c)
    (k : IntKind) (i : Int) (hy : a.eval y = .int k i) (h0 : 0 ≤ i) (h1 : i < n) {o1 : Nat} (h2 : o0 + i.toNat * s = o1) (hR : R (.pointer (some ⟨B, o1, none⟩)) w) : Does P ops o a w R :=
  Does.pure hw _ (by unfold execOp; simp only [ho, hx, hy, Sem.run_bind, run_indexS hu hs B o0 k i h0 h1, Result.andThen_ok, h2]; rfl) hR
theorem madeCells_zero (K : IntKind) (n m : Nat) : madeCells (Array.replicate n (Value.int K 0)) m = if n = 0 then madeCells #[] m else Array.replicate m (Value.int K 0) := by
  by_cases hn : n = 0
  · subst hn; simp
  · rw [if_neg hn]
    apply Array.ext
    · simp [madeCells]
    · intro i h1 h2
      simp [madeCells]
      have : i % n < n := Nat.mod_lt _ (by omega)
      simp [this]
theorem wpList_makeI {rest : List Oper} {Q : Exit → Act → World → Prop} (hgd : o.guard = none) (t e : TypeId) (x y : Operand) (ho : o.op = .makeSlice t x y) (hu : P.underlying t = some (.slice e)) (K : IntKind) (s bytes : Nat) (hz : (P.info? e).bind (·.zero) = some (.agg (Array.replicate s (Value.int K 0)))) (hs : (P.info? e).map (·.size) = some s) (hb : (P.info? e).map (·.bytes) = some bytes)
    (hs0 : s ≠ 0) (n : Nat) (hx : a.eval x = .int .i64 n) (hy : a.eval y = .int .i64 n) (hn : (bytes : Int) * n ≤ 281474976710656) (hn2 : (n : Int) ≤ 9223372036854775807)
    (h : ∀ w1, Arr K w1 w.heap.size (List.replicate (n * s) 0) → w.heap.size < w1.heap.size → Below w.heap.size w w1 → wpList P ops Q rest (a.put o.dst (.slice (some ⟨w.heap.size, 0, none⟩) n n)) w1) : wpList P ops Q (o :: rest) a w := by
  cases hi : P.info? e with
  | none => rw [hi] at hz; cases hz
  | some i =>
    rw [hi] at hz hs hb
    have hz' : i.zero = some (.agg (Array.replicate s (Value.int K 0))) := hz
    have hs' : i.size = s := by simpa using hs
    have hb' : i.bytes = bytes := by simpa using hb
    refine wpList_plain hgd fun KK hK => ?_
    have hr := run_make w t e i _ hu hi hz' .i64 .i64 (n : Int) (n : Int) (by omega) (Int.le_refl _) (by rw [hb']; exact hn) hn2
    unfold Oper.wp execOp
    simp only [ho, hx, hy, Sem.run_bind, hr, Int.toNat_natCast]
    refine hK _ _ (h _ ⟨e, ?_⟩ (Array.getElem?_eq_some_iff.1 (heap_alloc_new w _)).1 ((Below.refl _ _).alloc (Nat.le_refl _) _))
    rw [heap_alloc_new]
    simp only [Value.cells]
    rw [madeCells_zero, if_neg hs0, hs']
    simp
end
end Go.Proofs.YtohnicmacmkapaaDoor
