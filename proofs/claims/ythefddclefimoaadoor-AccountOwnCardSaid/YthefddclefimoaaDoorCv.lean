/- Contracts over walks: what a call gives, and that it writes to no memory that was there; results; loops. No program stands here. -/
import Derived.Test.YthefddclefimoaaDoorMem
namespace Go.Proofs.YthefddclefimoaaDoor
open Go.RowKit
set_option linter.unusedVariables false
set_option linter.unusedSimpArgs false

/-- The call returns, with this, and leaves the memory that was there. -/
def CV (P : Program) (F : FuncId) (args : List Value) (w : World) (R : Value → World → Prop) : Prop := Calls P F args.toArray w fun e w' => ∃ v, e = .returned v ∧ R v w' ∧ Below w.heap.size w w'
theorem CV.mono {P : Program} {F : FuncId} {args : List Value} {w : World} {R R' : Value → World → Prop} (h : CV P F args w R) (hr : ∀ v w', Below w.heap.size w w' → R v w' → R' v w') : CV P F args w R' :=
  Calls.mono h fun e w' ⟨v, he, hR, hb⟩ => ⟨v, he, hr v w' hb hR, hb⟩
/-- The end of a call. -/
def finV (P : Program) (fn : Func) (R : Value → World → Prop) (w0 : World) (a : Act) (w : World) : Prop := a.defers = [] ∧ ∃ v, (results fn a.tmps).run P w = .ok v w ∧ R v w ∧ Below w0.heap.size w0 w
theorem cv_enter {P : Program} {F : FuncId} {fn : Func} {body : Code} {w : World} {R : Value → World → Prop} {N : Nat} {vs : List Value} (hf : P.funcs[F]? = some fn) (hb : fn.body = some body) (hn : fn.ntmps = N) (hN : decide (vs.length ≤ N) = true) {f : Fl}
    (hfr : (vs.zipIdx.map fun p => (p.2, p.1)) = f) (h : ∀ Q : Exit → Act → World → Prop, (∀ {a W}, finV P fn R w a W → Q .ret a W) → (∀ {a W}, finV P fn R w a W → Q .normal a W) → WC P N body Q f w) : CV P F vs w R :=
  calls_sx vs f hf hb hn hN hfr.symm (h _ (fun {a W} ⟨h1, v, h2, h3, h4⟩ => ⟨h1, v, h2, v, rfl, h3, h4⟩) (fun {a W} ⟨h1, v, h2, h3, h4⟩ => ⟨h1, v, h2, v, rfl, h3, h4⟩))
/-- The call's own blocks lie in the heap. -/
def LL (L : List Nat) (w : World) : Prop := ∀ x ∈ L, x < w.heap.size
theorem LL.nil (w : World) : LL [] w := fun x h => by cases h
theorem LL.more {L : List Nat} {w w' : World} (h : LL L w) (hz : w.heap.size < w'.heap.size) : LL (w.heap.size :: L) w' := fun x hx => by
  cases hx with
  | head => exact hz
  | tail _ hx => have := h x hx; omega
theorem LL.below {L : List Nat} {w w' : World} (h : LL L w) (hb : Below w.heap.size w w') : LL L w' := fun x hx => Nat.lt_of_lt_of_le (h x hx) hb.size
theorem LL.only {L : List Nat} {w w' : World} (h : LL L w) {B : Nat} (ho : Only B w w') : LL L w' := fun x hx => by rw [ho.size]; exact h x hx
theorem LL.less {L L' : List Nat} {w : World} (h : LL L w) (hl : ∀ x, x ∈ L' → x ∈ L) : LL L' w := fun x hx => h x (hl x hx)
theorem LL.tail {L : List Nat} {w : World} {B : Nat} (h : LL (B :: L) w) : LL L w := fun x hx => h x (.tail _ hx)
theorem bnot_t {b : Bool} (h : (!b) = true) : b = false := by cases b <;> simp_all
theorem bnot_f {b : Bool} (h : (!b) = false) : b = true := by cases b <;> simp_all
theorem bvar_f {b : Bool} (h : b = false) : ¬ b = true := by simp [h]
theorem band_t {a b : Bool} (h : (a && b) = true) : a = true ∧ b = true := by cases a <;> simp_all
theorem bor_f {a b : Bool} (h : (a || b) = false) : a = false ∧ b = false := by cases a <;> simp_all
section
variable {P : Program} {ops : Array Oper} {o : Oper} {N : Nat} {f : Fl} {w : World} {R : Value → World → Prop}
theorem dx_cv {F : FuncId} {fn : Func} {xs : List Operand} {ts : Array TypeId} {vs : List Value} (ho : o.op = .call { callee := .value (.func F), args := xs.toArray, argTypes := ts }) (hf : P.funcs[F]? = some fn) (hn : (fn.name == "runtime.NumGoroutine") = false) (hb : fn.body.isNone = false)
    (hx : evl f xs = some vs) (hc : CV P F vs w R) (hw : wantF ops o f = some true := by rfl) : DR P ops o N f w fun v W => R v W ∧ Below w.heap.size w W :=
  dx_call (cap := #[]) ho rfl hf hn hb hx (by rw [Array.append_empty]; exact Calls.mono hc fun e w' ⟨v, he, h⟩ => ⟨v, he, h⟩) hw
theorem dx_cvc {c : Operand} {F : FuncId} {fn : Func} {xs : List Operand} {ts : Array TypeId} {vs cs : List Value} (ho : o.op = .call { callee := .value c, args := xs.toArray, argTypes := ts }) (hcv : ev f c = some (.func (.func F) #[] cs.toArray)) (hf : P.funcs[F]? = some fn) (hn : (fn.name == "runtime.NumGoroutine") = false) (hb : fn.body.isNone = false)
    (hx : evl f xs = some vs) (hc : CV P F (vs ++ cs) w R) (hw : wantF ops o f = some true := by rfl) : DR P ops o N f w fun v W => R v W ∧ Below w.heap.size w W :=
  dx_call ho hcv hf hn hb hx (by rw [List.append_toArray]; exact Calls.mono hc fun e w' ⟨v, he, h⟩ => ⟨v, he, h⟩) hw
/-- A function value: what a call of it gives. -/
def FV (P : Program) (g : Value) (args : List Value) (w : World) (R : Value → World → Prop) : Prop := ∃ F cs fn, g = .func (.func F) #[] cs ∧ P.funcs[F]? = some fn ∧ (fn.name == "runtime.NumGoroutine") = false ∧ fn.body.isNone = false ∧ CV P F (args ++ cs.toList) w R
theorem FV.mono {g : Value} {args : List Value} {R' : Value → World → Prop} (h : FV P g args w R) (hr : ∀ v w', Below w.heap.size w w' → R v w' → R' v w') : FV P g args w R' := by
  obtain ⟨F, cs, fn, h1, h2, h3, h4, h5⟩ := h
  exact ⟨F, cs, fn, h1, h2, h3, h4, h5.mono hr⟩
theorem dx_fv {c : Operand} {g : Value} {xs : List Operand} {ts : Array TypeId} {vs : List Value} (ho : o.op = .call { callee := .value c, args := xs.toArray, argTypes := ts }) (hcv : ev f c = some g)
    (hx : evl f xs = some vs) (hc : FV P g vs w R) (hw : wantF ops o f = some true := by rfl) : DR P ops o N f w fun v W => R v W ∧ Below w.heap.size w W := by
  obtain ⟨F, cs, fn, rfl, hf, hn, hb, hc⟩ := hc
  exact dx_cvc (cs := cs.toList) ho (by simpa using hcv) hf hn hb hx hc hw
theorem fv_of {F : FuncId} {cs : List Value} {fn : Func} {args : List Value} (hf : P.funcs[F]? = some fn) (hn : (fn.name == "runtime.NumGoroutine") = false) (hb : fn.body.isNone = false) (hc : CV P F (args ++ cs) w R) : FV P (.func (.func F) #[] cs.toArray) args w R := ⟨F, cs.toArray, fn, rfl, hf, hn, hb, hc⟩
/-- One result. -/
inductive RV (P : Program) (f : Fl) (w : World) : ResultVar → Value → Prop
  | tmp {t : Tmp} {v : Value} (h : look f t = some v) : RV P f w (.tmp t) v
  | one {t ty B o0 : Nat} {v : Value} (h : look f t = some (.pointer (some ⟨B, o0, none⟩))) (ht : oneB P ty = true) (hc : w.cell? ⟨B, o0, none⟩ = some v) : RV P f w (.cell t ty) v
  | agg {t ty B o0 n : Nat} {cs : List Value} (h : look f t = some (.pointer (some ⟨B, o0, none⟩))) (ht : aggB P ty n = true) (hc : w.rangeAt B o0 cs) (hn : cs.length = n) : RV P f w (.cell t ty) (.agg cs.toArray)
def resOne (tmps : Array Value) : ResultVar → Sem Value
  | .tmp t => pure (tmps.getD t undef)
  | .cell p ty => do loadVar ty (← asAddr (tmps.getD p undef))
theorem results_eq (fn : Func) (tmps : Array Value) : results fn tmps = (do let vs ← fn.results.mapM (resOne tmps); pure (if h : vs.size = 1 then vs[0] else .tuple vs)) := rfl
theorem RV.run {r : ResultVar} {v : Value} (h : RV P f w r v) {a : Act} (ha : Fr N a f) : (resOne a.tmps r).run P w = .ok v w := by
  unfold resOne
  cases h with
  | tmp h => simp only [slot_fr ha h]; rfl
  | @one t ty B o0 v h ht hc =>
    obtain ⟨d, hu, hd, _⟩ := of_oneB ht
    have hagg : (isAgg ty).run P w = .ok false w := by
      unfold isAgg
      rw [Sem.run_bind, run_underlying hu w]
      cases d <;> simp_all
    simp [slot_fr ha h, asAddr, Sem.run_bind, loadVar, hagg, hc]
  | agg h ht hc hn =>
    obtain ⟨d, hu, hd, hi⟩ := of_aggB ht
    simp only [slot_fr ha h, asAddr, Sem.run_bind, Sem.run_pure, Result.andThen_ok]
    exact run_loadVar_mid w _ _ _ _ d hc hu hd (by rw [hi, hn])
variable {fn : Func} {Rr : Ending → World → Prop}
theorem fn0 (h : fn.results = #[]) (hR : Rr (.returned (.tuple #[])) w) {a : Act} (ha : Fr N a f) : fin P fn Rr a w := ⟨ha.1.2, _, by simp [results, h], hR⟩
theorem fn1 {r0 : ResultVar} {v0 : Value} (h : fn.results = #[r0]) (h0 : RV P f w r0 v0) (hR : Rr (.returned v0) w) {a : Act} (ha : Fr N a f) : fin P fn Rr a w := ⟨ha.1.2, _, by
  rw [results_eq, h]
  simp only [List.mapM_toArray, List.mapM_cons, List.mapM_nil, Sem.run_bind, Sem.run_pure, Result.andThen_ok, Sem.run_map]
  have e0 := h0.run ha
  simp only [e0, Result.andThen_ok, Sem.run_bind, Sem.run_pure]
  simp, hR⟩
theorem fn2 {r0 r1 : ResultVar} {v0 v1 : Value} (h : fn.results = #[r0, r1]) (h0 : RV P f w r0 v0) (h1 : RV P f w r1 v1) (hR : Rr (.returned (.tuple #[v0, v1])) w) {a : Act} (ha : Fr N a f) : fin P fn Rr a w := ⟨ha.1.2, _, by
  rw [results_eq, h]
  simp only [List.mapM_toArray, List.mapM_cons, List.mapM_nil, Sem.run_bind, Sem.run_pure, Result.andThen_ok, Sem.run_map]
  have e0 := h0.run ha
  have e1 := h1.run ha
  simp only [e0, e1, Result.andThen_ok, Sem.run_bind, Sem.run_pure]
  simp, hR⟩
theorem fn3 {r0 r1 r2 : ResultVar} {v0 v1 v2 : Value} (h : fn.results = #[r0, r1, r2]) (h0 : RV P f w r0 v0) (h1 : RV P f w r1 v1) (h2 : RV P f w r2 v2) (hR : Rr (.returned (.tuple #[v0, v1, v2])) w) {a : Act} (ha : Fr N a f) : fin P fn Rr a w := ⟨ha.1.2, _, by
  rw [results_eq, h]
  simp only [List.mapM_toArray, List.mapM_cons, List.mapM_nil, Sem.run_bind, Sem.run_pure, Result.andThen_ok, Sem.run_map]
  have e0 := h0.run ha
  have e1 := h1.run ha
  have e2 := h2.run ha
  simp only [e0, e1, e2, Result.andThen_ok, Sem.run_bind, Sem.run_pure]
  simp, hR⟩
theorem fn4 {r0 r1 r2 r3 : ResultVar} {v0 v1 v2 v3 : Value} (h : fn.results = #[r0, r1, r2, r3]) (h0 : RV P f w r0 v0) (h1 : RV P f w r1 v1) (h2 : RV P f w r2 v2) (h3 : RV P f w r3 v3) (hR : Rr (.returned (.tuple #[v0, v1, v2, v3])) w) {a : Act} (ha : Fr N a f) : fin P fn Rr a w := ⟨ha.1.2, _, by
  rw [results_eq, h]
  simp only [List.mapM_toArray, List.mapM_cons, List.mapM_nil, Sem.run_bind, Sem.run_pure, Result.andThen_ok, Sem.run_map]
  have e0 := h0.run ha
  have e1 := h1.run ha
  have e2 := h2.run ha
  have e3 := h3.run ha
  simp only [e0, e1, e2, e3, Result.andThen_ok, Sem.run_bind, Sem.run_pure]
  simp, hR⟩
theorem fn5 {r0 r1 r2 r3 r4 : ResultVar} {v0 v1 v2 v3 v4 : Value} (h : fn.results = #[r0, r1, r2, r3, r4]) (h0 : RV P f w r0 v0) (h1 : RV P f w r1 v1) (h2 : RV P f w r2 v2) (h3 : RV P f w r3 v3) (h4 : RV P f w r4 v4) (hR : Rr (.returned (.tuple #[v0, v1, v2, v3, v4])) w) {a : Act} (ha : Fr N a f) : fin P fn Rr a w := ⟨ha.1.2, _, by
  rw [results_eq, h]
  simp only [List.mapM_toArray, List.mapM_cons, List.mapM_nil, Sem.run_bind, Sem.run_pure, Result.andThen_ok, Sem.run_map]
  have e0 := h0.run ha
  have e1 := h1.run ha
  have e2 := h2.run ha
  have e3 := h3.run ha
  have e4 := h4.run ha
  simp only [e0, e1, e2, e3, e4, Result.andThen_ok, Sem.run_bind, Sem.run_pure]
  simp, hR⟩
theorem cv_ret1 {w0 : World} {r0 : ResultVar} {v0 : Value} (h : fn.results = #[r0]) (h0 : RV P f w r0 v0) (hR : R v0 w) (hb : Below w0.heap.size w0 w) {a : Act} (ha : Fr N a f) : finV P fn R w0 a w := by
  obtain ⟨x, v, hv, v', he, h1, h2⟩ := fn1 (Rr := fun e w' => ∃ v, e = .returned v ∧ R v w' ∧ Below w0.heap.size w0 w') h h0 ⟨_, rfl, hR, hb⟩ ha
  cases he
  exact ⟨x, _, hv, h1, h2⟩
theorem cv_ret2 {w0 : World} {r0 r1 : ResultVar} {v0 v1 : Value} (h : fn.results = #[r0, r1]) (h0 : RV P f w r0 v0) (h1 : RV P f w r1 v1) (hR : R (.tuple #[v0, v1]) w) (hb : Below w0.heap.size w0 w) {a : Act} (ha : Fr N a f) : finV P fn R w0 a w := by
  obtain ⟨x, v, hv, v', he, h1, h2⟩ := fn2 (Rr := fun e w' => ∃ v, e = .returned v ∧ R v w' ∧ Below w0.heap.size w0 w') h h0 h1 ⟨_, rfl, hR, hb⟩ ha
  cases he
  exact ⟨x, _, hv, h1, h2⟩
theorem cv_ret3 {w0 : World} {r0 r1 r2 : ResultVar} {v0 v1 v2 : Value} (h : fn.results = #[r0, r1, r2]) (h0 : RV P f w r0 v0) (h1 : RV P f w r1 v1) (h2 : RV P f w r2 v2) (hR : R (.tuple #[v0, v1, v2]) w) (hb : Below w0.heap.size w0 w) {a : Act} (ha : Fr N a f) : finV P fn R w0 a w := by
  obtain ⟨x, v, hv, v', he, h1, h2⟩ := fn3 (Rr := fun e w' => ∃ v, e = .returned v ∧ R v w' ∧ Below w0.heap.size w0 w') h h0 h1 h2 ⟨_, rfl, hR, hb⟩ ha
  cases he
  exact ⟨x, _, hv, h1, h2⟩
theorem cv_ret4 {w0 : World} {r0 r1 r2 r3 : ResultVar} {v0 v1 v2 v3 : Value} (h : fn.results = #[r0, r1, r2, r3]) (h0 : RV P f w r0 v0) (h1 : RV P f w r1 v1) (h2 : RV P f w r2 v2) (h3 : RV P f w r3 v3) (hR : R (.tuple #[v0, v1, v2, v3]) w) (hb : Below w0.heap.size w0 w) {a : Act} (ha : Fr N a f) : finV P fn R w0 a w := by
  obtain ⟨x, v, hv, v', he, h1, h2⟩ := fn4 (Rr := fun e w' => ∃ v, e = .returned v ∧ R v w' ∧ Below w0.heap.size w0 w') h h0 h1 h2 h3 ⟨_, rfl, hR, hb⟩ ha
  cases he
  exact ⟨x, _, hv, h1, h2⟩
theorem cv_ret5 {w0 : World} {r0 r1 r2 r3 r4 : ResultVar} {v0 v1 v2 v3 v4 : Value} (h : fn.results = #[r0, r1, r2, r3, r4]) (h0 : RV P f w r0 v0) (h1 : RV P f w r1 v1) (h2 : RV P f w r2 v2) (h3 : RV P f w r3 v3) (h4 : RV P f w r4 v4) (hR : R (.tuple #[v0, v1, v2, v3, v4]) w) (hb : Below w0.heap.size w0 w) {a : Act} (ha : Fr N a f) : finV P fn R w0 a w := by
  obtain ⟨x, v, hv, v', he, h1, h2⟩ := fn5 (Rr := fun e w' => ∃ v, e = .returned v ∧ R v w' ∧ Below w0.heap.size w0 w') h h0 h1 h2 h3 h4 ⟨_, rfl, hR, hb⟩ ha
  cases he
  exact ⟨x, _, hv, h1, h2⟩
end
end Go.Proofs.YthefddclefimoaaDoor
