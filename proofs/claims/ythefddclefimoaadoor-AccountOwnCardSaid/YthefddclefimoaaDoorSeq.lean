/- Straight code on a frame that no text spells out: what each operation yields, and how it is put. No program stands here. -/
import Derived.Test.YthefddclefimoaaDoorOrdA

namespace Go.Proofs.YthefddclefimoaaDoor
open Go.RowKit
set_option linter.unusedVariables false
set_option linter.unusedSimpArgs false

/-- A frame of so many slots, nothing deferred. -/
def Fm (n : Nat) (a : Act) : Prop := a.tmps.size = n ∧ a.defers = []
/-- What the other slots hold stays. -/
def Kept (a a' : Act) (d : Nat) : Prop := ∀ t u, decide (t = d) = false → a.eval (.tmp t) = u → a'.eval (.tmp t) = u
theorem eval_tmps (a : Act) (t : Nat) : a.eval (.tmp t) = a.tmps[t]?.getD undef := by simp [Act.eval, Array.getD_eq_getD_getElem?]
theorem Fm.put {n : Nat} {a : Act} (h : Fm n a) (d : Option Tmp) (v : Value) : Fm n (a.put d v) := ⟨by rw [put_size]; exact h.1, by rw [put_defers]; exact h.2⟩
theorem Fm.putL {n : Nat} {ds : List (Option Tmp)} {f : Nat → Value} : ∀ {l : List Nat} {a : Act}, Fm n a → Fm n (putL ds f l a)
  | [], a, h => h
  | j :: l, a, h => Fm.putL (l := l) (h.put _ _)
theorem put_here {n d : Nat} {a : Act} (h : Fm n a) (hd : decide (d < n) = true) (v : Value) : (a.put (some d) v).eval (.tmp d) = v := by
  rw [eval_tmps, put_get, if_pos ⟨rfl, by rw [h.1]; exact of_decide_eq_true hd⟩]
  rfl
theorem put_kept {a : Act} {d : Nat} (v : Value) : Kept a (a.put (some d) v) d := fun t u ht hu => by
  rw [eval_tmps, put_get, if_neg (fun h => by have := of_decide_eq_false ht; cases h.1; exact this rfl), ← eval_tmps, hu]

section
variable {P : Program} {ops : Array Oper} {o : Oper} {a : Act} {w : World} {R : Value → World → Prop} {rest : List Oper} {Q : Exit → Act → World → Prop} {n : Nat}

theorem sq_put {d : Nat} (hf : Fm n a) (ho : o.dst = some d) (hd : decide (d < n) = true) (hdo : Does P ops o a w R)
    (h : ∀ v w' a', R v w' → Fm n a' → a'.eval (.tmp d) = v → Kept a a' d → wpList P ops Q rest a' w') : wpList P ops Q (o :: rest) a w :=
  wpList_does hdo fun v w' hR => by rw [ho]; exact h v w' _ hR (hf.put _ _) (put_here hf hd v) (put_kept v)
theorem sq_val {d : Nat} {v : Value} (hf : Fm n a) (ho : o.dst = some d) (hd : decide (d < n) = true) (hdo : ∀ R : Value → World → Prop, R v w → Does P ops o a w R)
    (h : ∀ a', Fm n a' → a'.eval (.tmp d) = v → Kept a a' d → wpList P ops Q rest a' w) : wpList P ops Q (o :: rest) a w :=
  sq_put hf ho hd (hdo (fun v' w' => v' = v ∧ w' = w) ⟨rfl, rfl⟩) fun v' w' a' hR hf' hv hk => by obtain ⟨rfl, rfl⟩ := hR; exact h a' hf' hv hk
theorem sq_do (ho : o.dst = none) (hdo : Does P ops o a w R) (h : ∀ v w', R v w' → wpList P ops Q rest a w') : wpList P ops Q (o :: rest) a w :=
  wpList_does hdo fun v w' hR => by rw [ho]; exact h v w' hR
theorem unwanted_of {g t : Nat} {b c : Bool} (hg : o.guard = some (g, b)) (hd : dstAt ops g = some t) (hv : a.eval (.tmp t) = .bool c) (hbc : (c == b) = false) : Region.wanted o (yielded ops a.tmps) = false := by
  have h : a.tmps[t]? = some (.bool c) := by
    rw [eval_tmps] at hv
    cases hq : a.tmps[t]? with
    | none => rw [hq] at hv; simp [undef] at hv
    | some x => rw [hq] at hv; simp at hv; rw [hv]
  have hy : yielded ops a.tmps g = some c := by
    unfold dstAt at hd
    unfold yielded
    rw [hd]
    simp [h]
  unfold Region.wanted
  rw [hg]
  simp only [hy]
  cases b <;> cases c <;> simp_all
theorem sq_off {d : Nat} (hf : Fm n a) (ho : o.dst = some d) (hw : Region.wanted o (yielded ops a.tmps) = false)
    (h : ∀ a', Fm n a' → Kept a a' d → wpList P ops Q rest a' w) : wpList P ops Q (o :: rest) a w :=
  wpList_does (Does.off (R := fun v w' => w' = w) hw rfl) fun v w' hR => by rw [ho, hR]; exact h _ (hf.put _ _) (put_kept v)
theorem sq_offn (ho : o.dst = none) (hw : Region.wanted o (yielded ops a.tmps) = false) (h : wpList P ops Q rest a w) : wpList P ops Q (o :: rest) a w :=
  wpList_does (Does.off (R := fun v w' => w' = w) hw rfl) fun v w' hR => by rw [ho, hR]; exact h

theorem Does.move (hw : Region.wanted o (yielded ops a.tmps) = true) {x : Operand} (ho : o.op = .move x) {v : Value} (hx : a.eval x = v) (hR : R v w) : Does P ops o a w R :=
  Does.pure hw v (by unfold execOp; simp only [ho, hx]; rfl) hR
theorem Does.assign (hw : Region.wanted o (yielded ops a.tmps) = true) {x : Operand} (ho : o.op = .assign x) {v : Value} (hx : a.eval x = v) (hR : R v w) : Does P ops o a w R :=
  Does.pure hw v (by unfold execOp; simp only [ho, hx]; rfl) hR
theorem Does.pick (hw : Region.wanted o (yielded ops a.tmps) = true) {c x y : Operand} (ho : o.op = .pick c x y) {b : Bool} (hc : a.eval c = .bool b) {v : Value} (hv : (if b then a.eval x else a.eval y) = v) (hR : R v w) : Does P ops o a w R :=
  Does.pure hw v (by unfold execOp; simp only [ho, hc, asBool, Sem.run_bind, Sem.run_pure, Result.andThen_ok]; rw [← hv]) hR
theorem Does.not (hw : Region.wanted o (yielded ops a.tmps) = true) {t : TypeId} {x : Operand} (ho : o.op = .unOp .not t x) {b : Bool} (hx : a.eval x = .bool b) {c : Bool} (hc : (!b) = c) (hR : R (.bool c) w) : Does P ops o a w R :=
  Does.pure hw _ (by unfold execOp; simp only [ho, hx]; simp [Op.unary, hc]) hR
theorem Does.add (hw : Region.wanted o (yielded ops a.tmps) = true) {t t' : TypeId} {x y : Operand} (ho : o.op = .binOp .add t x y t') {K : IntKind} {m n : Int} (hx : a.eval x = .int K m) (hy : a.eval y = .int K n) {r : Int} (hr : K.wrap (m + n) = r) (hR : R (.int K r) w) : Does P ops o a w R :=
  Does.pure hw _ (by unfold execOp; simp only [ho, hx, hy, eqGuard, Sem.run_bind, Sem.run_pure, Result.andThen_ok]; simp [binOp, Op.intArith, hr]) hR
theorem Does.sub (hw : Region.wanted o (yielded ops a.tmps) = true) {t t' : TypeId} {x y : Operand} (ho : o.op = .binOp .sub t x y t') {K : IntKind} {m n : Int} (hx : a.eval x = .int K m) (hy : a.eval y = .int K n) {r : Int} (hr : K.wrap (m - n) = r) (hR : R (.int K r) w) : Does P ops o a w R :=
  Does.pure hw _ (by unfold execOp; simp only [ho, hx, hy, eqGuard, Sem.run_bind, Sem.run_pure, Result.andThen_ok]; simp [binOp, Op.intArith, hr]) hR
theorem Does.mul (hw : Region.wanted o (yielded ops a.tmps) = true) {t t' : TypeId} {x y : Operand} (ho : o.op = .binOp .mul t x y t') {K : IntKind} {m n : Int} (hx : a.eval x = .int K m) (hy : a.eval y = .int K n) {r : Int} (hr : K.wrap (m * n) = r) (hR : R (.int K r) w) : Does P ops o a w R :=
  Does.pure hw _ (by unfold execOp; simp only [ho, hx, hy, eqGuard, Sem.run_bind, Sem.run_pure, Result.andThen_ok]; simp [binOp, Op.intArith, hr]) hR
theorem Does.quo (hw : Region.wanted o (yielded ops a.tmps) = true) {t t' : TypeId} {x y : Operand} (ho : o.op = .binOp .quo t x y t') {K : IntKind} {m n : Int} (hx : a.eval x = .int K m) (hy : a.eval y = .int K n) (hn : n ≠ 0) {r : Int} (hr : K.wrap (m.tdiv n) = r) (hR : R (.int K r) w) : Does P ops o a w R :=
  Does.pure hw _ (by unfold execOp; simp only [ho, hx, hy, eqGuard, Sem.run_bind, Sem.run_pure, Result.andThen_ok]; simp [binOp, Op.intDiv, hn, hr]) hR
theorem Does.rem (hw : Region.wanted o (yielded ops a.tmps) = true) {t t' : TypeId} {x y : Operand} (ho : o.op = .binOp .rem t x y t') {K : IntKind} {m n : Int} (hx : a.eval x = .int K m) (hy : a.eval y = .int K n) (hn : n ≠ 0) {r : Int} (hr : m.tmod n = r) (hR : R (.int K r) w) : Does P ops o a w R :=
  Does.pure hw _ (by unfold execOp; simp only [ho, hx, hy, eqGuard, Sem.run_bind, Sem.run_pure, Result.andThen_ok]; simp [binOp, Op.intDiv, hn, hr]) hR
theorem Does.and (hw : Region.wanted o (yielded ops a.tmps) = true) {t t' : TypeId} {x y : Operand} (ho : o.op = .binOp .and t x y t') {K : IntKind} {m n : Int} (hx : a.eval x = .int K m) (hy : a.eval y = .int K n) {r : Int} (hr : bits .and K m n = r) (hR : R (.int K r) w) : Does P ops o a w R :=
  Does.pure hw _ (by unfold execOp; simp only [ho, hx, hy, eqGuard, Sem.run_bind, Sem.run_pure, Result.andThen_ok]; simp [binOp, Op.intBits, ← hr, bits]) hR
theorem Does.or (hw : Region.wanted o (yielded ops a.tmps) = true) {t t' : TypeId} {x y : Operand} (ho : o.op = .binOp .or t x y t') {K : IntKind} {m n : Int} (hx : a.eval x = .int K m) (hy : a.eval y = .int K n) {r : Int} (hr : bits .or K m n = r) (hR : R (.int K r) w) : Does P ops o a w R :=
  Does.pure hw _ (by unfold execOp; simp only [ho, hx, hy, eqGuard, Sem.run_bind, Sem.run_pure, Result.andThen_ok]; simp [binOp, Op.intBits, ← hr, bits]) hR
theorem Does.xor (hw : Region.wanted o (yielded ops a.tmps) = true) {t t' : TypeId} {x y : Operand} (ho : o.op = .binOp .xor t x y t') {K : IntKind} {m n : Int} (hx : a.eval x = .int K m) (hy : a.eval y = .int K n) {r : Int} (hr : bits .xor K m n = r) (hR : R (.int K r) w) : Does P ops o a w R :=
  Does.pure hw _ (by unfold execOp; simp only [ho, hx, hy, eqGuard, Sem.run_bind, Sem.run_pure, Result.andThen_ok]; simp [binOp, Op.intBits, ← hr, bits]) hR
theorem Does.lss (hw : Region.wanted o (yielded ops a.tmps) = true) {t t' : TypeId} {x y : Operand} (ho : o.op = .binOp .lss t x y t') {K : IntKind} {m n : Int} (hx : a.eval x = .int K m) (hy : a.eval y = .int K n) {b : Bool} (hb : decide (m < n) = b) (hR : R (.bool b) w) : Does P ops o a w R :=
  Does.pure hw _ (by unfold execOp; simp only [ho, hx, hy, eqGuard, Sem.run_bind, Sem.run_pure, Result.andThen_ok]; simp [binOp, Op.intCmp, ← hb]) hR
theorem Does.leq (hw : Region.wanted o (yielded ops a.tmps) = true) {t t' : TypeId} {x y : Operand} (ho : o.op = .binOp .leq t x y t') {K : IntKind} {m n : Int} (hx : a.eval x = .int K m) (hy : a.eval y = .int K n) {b : Bool} (hb : decide (m ≤ n) = b) (hR : R (.bool b) w) : Does P ops o a w R :=
  Does.pure hw _ (by unfold execOp; simp only [ho, hx, hy, eqGuard, Sem.run_bind, Sem.run_pure, Result.andThen_ok]; simp [binOp, Op.intCmp, ← hb]) hR
theorem Does.gtr (hw : Region.wanted o (yielded ops a.tmps) = true) {t t' : TypeId} {x y : Operand} (ho : o.op = .binOp .gtr t x y t') {K : IntKind} {m n : Int} (hx : a.eval x = .int K m) (hy : a.eval y = .int K n) {b : Bool} (hb : decide (m > n) = b) (hR : R (.bool b) w) : Does P ops o a w R :=
  Does.pure hw _ (by unfold execOp; simp only [ho, hx, hy, eqGuard, Sem.run_bind, Sem.run_pure, Result.andThen_ok]; simp [binOp, Op.intCmp, ← hb]) hR
theorem Does.geq (hw : Region.wanted o (yielded ops a.tmps) = true) {t t' : TypeId} {x y : Operand} (ho : o.op = .binOp .geq t x y t') {K : IntKind} {m n : Int} (hx : a.eval x = .int K m) (hy : a.eval y = .int K n) {b : Bool} (hb : decide (m ≥ n) = b) (hR : R (.bool b) w) : Does P ops o a w R :=
  Does.pure hw _ (by unfold execOp; simp only [ho, hx, hy, eqGuard, Sem.run_bind, Sem.run_pure, Result.andThen_ok]; simp [binOp, Op.intCmp, ← hb]) hR
theorem Does.eqlN (hw : Region.wanted o (yielded ops a.tmps) = true) {t t' : TypeId} {x y : Operand} (ho : o.op = .binOp .eql t x y t') {K : IntKind} {m n : Int} (hx : a.eval x = .int K m) (hy : a.eval y = .int K n) {b : Bool} (hb : (m == n) = b) (hR : R (.bool b) w) : Does P ops o a w R :=
  Does.pure hw _ (by unfold execOp; simp only [ho, hx, hy, eqGuard, Sem.run_bind, Sem.run_pure, Result.andThen_ok]; simp [binOp, Op.intCmp, ← hb]) hR
theorem Does.neqN (hw : Region.wanted o (yielded ops a.tmps) = true) {t t' : TypeId} {x y : Operand} (ho : o.op = .binOp .neq t x y t') {K : IntKind} {m n : Int} (hx : a.eval x = .int K m) (hy : a.eval y = .int K n) {b : Bool} (hb : (m != n) = b) (hR : R (.bool b) w) : Does P ops o a w R :=
  Does.pure hw _ (by unfold execOp; simp only [ho, hx, hy, eqGuard, Sem.run_bind, Sem.run_pure, Result.andThen_ok]; simp [binOp, Op.intCmp, ← hb]) hR
theorem Does.shl (hw : Region.wanted o (yielded ops a.tmps) = true) {t t' : TypeId} {x y : Operand} (ho : o.op = .binOp .shl t x y t') {K K2 : IntKind} {m n : Int} (hx : a.eval x = .int K m) (hy : a.eval y = .int K2 n) (hn : 0 ≤ n) (hn2 : n ≤ K.bits) {r : Int} (hr : K.wrap (m * 2 ^ n.toNat) = r) (hR : R (.int K r) w) : Does P ops o a w R := by
  have e1 : min n.toNat K.bits = n.toNat := Nat.min_eq_left (by omega)
  have e2 : ¬ n < 0 := by omega
  exact Does.pure hw _ (by unfold execOp; simp only [ho, hx, hy, eqGuard, Sem.run_bind, Sem.run_pure, Result.andThen_ok]; simp [binOp, Op.shift, e1, e2, hr]) hR
theorem Does.shr (hw : Region.wanted o (yielded ops a.tmps) = true) {t t' : TypeId} {x y : Operand} (ho : o.op = .binOp .shr t x y t') {K K2 : IntKind} {m n : Int} (hx : a.eval x = .int K m) (hy : a.eval y = .int K2 n) (hn : 0 ≤ n) (hn2 : n ≤ K.bits) {r : Int} (hr : m / 2 ^ n.toNat = r) (hR : R (.int K r) w) : Does P ops o a w R := by
  have e1 : min n.toNat K.bits = n.toNat := Nat.min_eq_left (by omega)
  have e2 : ¬ n < 0 := by omega
  have e3 : m.fdiv (2 ^ n.toNat) = m / 2 ^ n.toNat := Int.fdiv_eq_ediv_of_nonneg _ (by rw [show (2 : Int) ^ n.toNat = ((2 ^ n.toNat : Nat) : Int) by simp]; exact Int.natCast_nonneg _)
  exact Does.pure hw _ (by unfold execOp; simp only [ho, hx, hy, eqGuard, Sem.run_bind, Sem.run_pure, Result.andThen_ok]; simp [binOp, Op.shift, e1, e2, e3, hr]) hR
theorem Does.conv (hw : Region.wanted o (yielded ops a.tmps) = true) {s d : TypeId} {x : Operand} (ho : o.op = .convert s d x) {K K' : IntKind} {ts : TypeDesc} (hs : P.underlying s = some ts) (hd : P.underlying d = some (.int K')) {m : Int} (hx : a.eval x = .int K m) {r : Int} (hr : K'.wrap m = r) (hR : R (.int K' r) w) : Does P ops o a w R :=
  Does.pure hw _ (by unfold execOp; simp only [ho, hx, convert, Sem.run_bind, run_underlying hs, run_underlying hd, Result.andThen_ok]; simp [Conv.intToInt, hr]) hR
theorem Does.lenS (hw : Region.wanted o (yielded ops a.tmps) = true) {t : TypeId} {x : Operand} (ho : o.op = .call { callee := .builtin .len, args := #[x], argTypes := #[t] }) {e : TypeId} (ht : P.underlying t = some (.slice e)) {p : Option Addr} {l c : Nat} (hx : a.eval x = .slice p l c) (hR : R (.int .i64 (l : Int)) w) : Does P ops o a w R :=
  Does.pure hw _ (by unfold execOp; simp only [ho, resolve, invoke, builtin, Sem.run_bind, Sem.run_pure, Result.andThen_ok, List.map_toArray, List.map_cons, List.map_nil, hx]; simp [Builtin.len_, run_underlying ht, goInt]) hR
end
theorem then_normal {next : Act → World → Prop} {Q : Exit → Act → World → Prop} {a : Act} {w : World} (h : next a w) : Exit.then next Q .normal a w := h
theorem eval_c (a : Act) (v : Value) : a.eval (.const v) = v := rfl
theorem wrap64_id {x : Int} (h : -9223372036854775808 ≤ x ∧ x ≤ 9223372036854775807) : IntKind.i64.wrap x = x := by
  simp [IntKind.wrap, IntKind.bits, IntKind.signed]
  omega
theorem wrapu64_id {x : Int} (h : 0 ≤ x ∧ x < 18446744073709551616) : IntKind.u64.wrap x = x := by
  rw [IntKind.wrap_u64]; omega
theorem wrapu8_id {x : Int} (h : 0 ≤ x ∧ x < 256) : IntKind.u8.wrap x = x := by
  rw [IntKind.wrap_u8']; omega
end Go.Proofs.YthefddclefimoaaDoor
