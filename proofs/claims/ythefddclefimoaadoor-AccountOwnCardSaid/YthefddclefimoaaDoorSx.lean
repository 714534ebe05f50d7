/- Walks over frames that are lists: what a slot holds is looked up by computation; each operation is one step, in code whose order is fixed and in code whose order is drawn. No program stands here. -/
import Derived.Test.YthefddclefimoaaDoorSeq
namespace Go.Proofs.YthefddclefimoaaDoor
open Go.RowKit
set_option linter.unusedVariables false
set_option linter.unusedSimpArgs false

abbrev Fl := List (Nat × Value)
def look : Fl → Nat → Option Value
  | [], _ => none
  | (k, v) :: l, t => match Nat.beq k t with
    | true => some v
    | false => look l t
def ev (f : Fl) : Operand → Option Value
  | .tmp t => look f t
  | .const v => some v
  | .global g => some (.pointer (some ⟨g, 0, none⟩))
  | .func g => some (.func (.func g) #[] #[])
def evl (f : Fl) : List Operand → Option (List Value)
  | [] => some []
  | x :: l => match ev f x with
    | none => none
    | some v => match evl f l with
      | none => none
      | some vs => some (v :: vs)
/-- A frame that holds what the list says. -/
def Fr (N : Nat) (a : Act) (f : Fl) : Prop := Fm N a ∧ ∀ t v, look f t = some v → a.eval (.tmp t) = v
def Sub : Fl → Fl → Prop
  | [], _ => True
  | (t, v) :: l, f => look f t = some v ∧ Sub l f
theorem Fr.ev {N : Nat} {a : Act} {f : Fl} {x : Operand} {v : Value} (h : Fr N a f) (hx : ev f x = some v) : a.eval x = v := by
  cases x with
  | tmp t => exact h.2 t v hx
  | const u => simpa [Go.Proofs.YthefddclefimoaaDoor.ev, Act.eval] using hx
  | global g => simpa [Go.Proofs.YthefddclefimoaaDoor.ev, Act.eval] using hx
  | func g => simpa [Go.Proofs.YthefddclefimoaaDoor.ev, Act.eval] using hx
theorem Fr.evl {N : Nat} {a : Act} {f : Fl} (h : Fr N a f) : ∀ {xs : List Operand} {vs : List Value}, evl f xs = some vs → xs.map a.eval = vs
  | [], vs, hx => by simpa [Go.Proofs.YthefddclefimoaaDoor.evl] using hx
  | x :: l, vs, hx => by
    unfold Go.Proofs.YthefddclefimoaaDoor.evl at hx
    cases h1 : Go.Proofs.YthefddclefimoaaDoor.ev f x with
    | none => rw [h1] at hx; cases hx
    | some v =>
      cases h2 : Go.Proofs.YthefddclefimoaaDoor.evl f l with
      | none => rw [h1, h2] at hx; cases hx
      | some us =>
        rw [h1, h2] at hx
        cases hx
        rw [List.map_cons, h.ev h1, Fr.evl h h2]
theorem look_sub : ∀ {f' f : Fl}, Sub f' f → ∀ {t v}, look f' t = some v → look f t = some v
  | [], _, _, t, v, h => by cases h
  | (k, u) :: l, f, hs, t, v, h => by
    unfold look at h
    cases hk : Nat.beq k t with
    | true =>
      rw [hk] at h
      cases h
      have : k = t := Nat.eq_of_beq_eq_true hk
      subst this
      exact hs.1
    | false =>
      rw [hk] at h
      exact look_sub hs.2 h
theorem Fr.sub {N : Nat} {a : Act} {f f' : Fl} (h : Fr N a f) (hs : Sub f' f) : Fr N a f' := ⟨h.1, fun t v hv => h.2 t v (look_sub hs hv)⟩
theorem Fr.put {N : Nat} {a : Act} {f : Fl} (h : Fr N a f) {d : Nat} (hd : decide (d < N) = true) (v : Value) : Fr N (a.put (some d) v) ((d, v) :: f) := by
  refine ⟨h.1.put _ _, fun t u hu => ?_⟩
  unfold look at hu
  cases hk : Nat.beq d t with
  | true =>
    rw [hk] at hu
    cases hu
    have : d = t := Nat.eq_of_beq_eq_true hk
    subst this
    exact put_here h.1 hd v
  | false =>
    rw [hk] at hu
    exact put_kept v t u (by simpa using (fun e : t = d => Nat.ne_of_beq_eq_false hk e.symm)) (h.2 t u hu)
theorem Fr.putn {N : Nat} {a : Act} {f : Fl} (h : Fr N a f) (v : Value) : Fr N (a.put none v) f := h

def wantF (ops : Array Oper) (o : Oper) (f : Fl) : Option Bool := match o.guard with
  | none => some true
  | some (g, b) => match dstAt ops g with
    | none => none
    | some t => match look f t with
      | some (.bool c) => some (c == b)
      | some _ => some false
      | none => none
theorem unwanted_nb {ops : Array Oper} {o : Oper} {a : Act} {g t : Nat} {b : Bool} {v : Value} (hg : o.guard = some (g, b)) (hd : dstAt ops g = some t) (hv : a.eval (.tmp t) = v) (hnb : ∀ c, v ≠ .bool c) : Region.wanted o (yielded ops a.tmps) = false := by
  have hy : yielded ops a.tmps g = none := by
    unfold dstAt at hd
    unfold yielded
    rw [hd]
    rw [eval_tmps] at hv
    cases hq : a.tmps[t]? with
    | none => simp [hq]
    | some x =>
      rw [hq] at hv
      simp only [Option.getD_some] at hv
      subst hv
      cases x <;> simp_all
  unfold Region.wanted
  rw [hg]
  simp [hy]
theorem wantF_of {ops : Array Oper} {o : Oper} {f : Fl} {N : Nat} {a : Act} (h : Fr N a f) {b : Bool} (hw : wantF ops o f = some b) : Region.wanted o (yielded ops a.tmps) = b := by
  unfold wantF at hw
  cases hg : o.guard with
  | none => rw [hg] at hw; cases hw; unfold Region.wanted; rw [hg]
  | some p =>
    obtain ⟨g, c⟩ := p
    rw [hg] at hw
    simp only at hw
    cases hd : dstAt ops g with
    | none => rw [hd] at hw; cases hw
    | some t =>
      rw [hd] at hw
      simp only at hw
      split at hw
      · rename_i c' hl
        cases hw
        have hv := h.2 t _ hl
        cases hcc : (c' == c) with
        | true => have : c' = c := by simpa using hcc
                  subst this; exact wanted_of hg hd hv
        | false => exact unwanted_of hg hd hv hcc
      · rename_i v hnb hl
        cases hw
        exact unwanted_nb hg hd (h.2 t _ hl) (fun c e => hnb c e)
      · cases hw

/-- One operation, over a frame that is a list. -/
def DR (P : Program) (ops : Array Oper) (o : Oper) (N : Nat) (f : Fl) (w : World) (R : Value → World → Prop) : Prop := ∀ a, Fr N a f → Does P ops o a w R
/-- One that yields this value and leaves the world alone. -/
def DV (P : Program) (ops : Array Oper) (o : Oper) (N : Nat) (f : Fl) (w : World) (v : Value) : Prop := DR P ops o N f w fun v' w' => v' = v ∧ w' = w
def WL (P : Program) (ops : Array Oper) (Q : Exit → Act → World → Prop) (N : Nat) (l : List Oper) (f : Fl) (w : World) : Prop := ∀ a, Fr N a f → wpList P ops Q l a w
def WC (P : Program) (N : Nat) (c : Code) (Q : Exit → Act → World → Prop) (f : Fl) (w : World) : Prop := ∀ a, Fr N a f → c.wp P Q a w

section
variable {P : Program} {ops : Array Oper} {o : Oper} {N : Nat} {f : Fl} {w : World} {R : Value → World → Prop} {rest : List Oper} {Q : Exit → Act → World → Prop}

theorem DR.mono {R' : Value → World → Prop} (h : DR P ops o N f w R) (hr : ∀ v w', R v w' → R' v w') : DR P ops o N f w R' := fun a ha => (h a ha).mono hr
theorem DV.dr {v : Value} (h : DV P ops o N f w v) (hr : R v w) : DR P ops o N f w R := DR.mono h fun v' w' e => by obtain ⟨rfl, rfl⟩ := e; exact hr
theorem WL.val {d : Nat} {v : Value} (hd : DV P ops o N f w v) (ho : o.dst = some d) (hN : decide (d < N) = true) (k : WL P ops Q N rest ((d, v) :: f) w) : WL P ops Q N (o :: rest) f w := fun a ha =>
  wpList_does (hd a ha) fun v' w' e => by obtain ⟨rfl, rfl⟩ := e; rw [ho]; exact k _ (ha.put hN _)
theorem WL.get {d : Nat} (hd : DR P ops o N f w R) (ho : o.dst = some d) (hN : decide (d < N) = true) (k : ∀ v w', R v w' → WL P ops Q N rest ((d, v) :: f) w') : WL P ops Q N (o :: rest) f w := fun a ha =>
  wpList_does (hd a ha) fun v' w' e => by rw [ho]; exact k v' w' e _ (ha.put hN _)
theorem WL.do (hd : DR P ops o N f w R) (ho : o.dst = none) (k : ∀ v w', R v w' → WL P ops Q N rest f w') : WL P ops Q N (o :: rest) f w := fun a ha =>
  wpList_does (hd a ha) fun v' w' e => by rw [ho]; exact k v' w' e _ ha
theorem WL.off {d : Nat} (hw : wantF ops o f = some false) (ho : o.dst = some d) (hN : decide (d < N) = true) (k : WL P ops Q N rest ((d, undef) :: f) w) : WL P ops Q N (o :: rest) f w := fun a ha =>
  wpList_does (Does.off (R := fun v' w' => v' = undef ∧ w' = w) (wantF_of ha hw) ⟨rfl, rfl⟩) fun v' w' e => by obtain ⟨rfl, rfl⟩ := e; rw [ho]; exact k _ (ha.put hN _)
theorem WL.offn (hw : wantF ops o f = some false) (ho : o.dst = none) (k : WL P ops Q N rest f w) : WL P ops Q N (o :: rest) f w := fun a ha =>
  wpList_does (Does.off (R := fun v' w' => w' = w) (wantF_of ha hw) rfl) fun v' w' e => by rw [ho, e]; exact k _ ha
theorem WL.nil (h : ∀ a, Fr N a f → Q .normal a w) : WL P ops Q N [] f w := fun a ha => wpList_nil (h a ha)
/-- A slot that holds a bool: both ways. -/
theorem WL.split {l : List Oper} (t : Nat) {b : Bool} (hl : look f t = some (.bool b)) (ht : b = true → WL P ops Q N l ((t, .bool true) :: f) w) (hf : b = false → WL P ops Q N l ((t, .bool false) :: f) w) : WL P ops Q N l f w := fun a ha => by
  have key : ∀ c, b = c → Fr N a ((t, .bool c) :: f) := fun c hc => ⟨ha.1, fun t' v hv => by
    unfold look at hv
    cases hk : Nat.beq t t' with
    | true => rw [hk] at hv; cases hv; have := Nat.eq_of_beq_eq_true hk; subst this; subst hc; exact ha.2 t _ hl
    | false => rw [hk] at hv; exact ha.2 t' v hv⟩
  cases hb : b with
  | true => exact ht hb a (key _ hb)
  | false => exact hf hb a (key _ hb)

theorem beq_dec (m n : Int) : (m == n) = decide (m = n) := by
  by_cases h : m = n
  · simp [h]
  · simp [h]
-- operations that yield, and leave the world alone
theorem dx_move {x : Operand} {v : Value} (ho : o.op = .move x) (hx : ev f x = some v) (hw : wantF ops o f = some true := by rfl) : DV P ops o N f w v := fun a ha => Does.move (wantF_of ha hw) ho (ha.ev hx) ⟨rfl, rfl⟩
theorem dx_assign {x : Operand} {v : Value} (ho : o.op = .assign x) (hx : ev f x = some v) (hw : wantF ops o f = some true := by rfl) : DV P ops o N f w v := fun a ha => Does.assign (wantF_of ha hw) ho (ha.ev hx) ⟨rfl, rfl⟩
theorem dx_pick {c x y : Operand} {b : Bool} {v : Value} (ho : o.op = .pick c x y) (hc : ev f c = some (.bool b)) (hv : (bif b then ev f x else ev f y) = some v) (hw : wantF ops o f = some true := by rfl) : DV P ops o N f w v := fun a ha =>
  Does.pick (wantF_of ha hw) ho (ha.ev hc) (by cases b <;> simp at hv ⊢ <;> exact ha.ev hv) ⟨rfl, rfl⟩
theorem dx_and {c x : Operand} {b d : Bool} (ho : o.op = .pick c x (.const (.bool false))) (hc : ev f c = some (.bool b)) (hx : ev f x = some (.bool d)) (hw : wantF ops o f = some true := by rfl) : DV P ops o N f w (.bool (b && d)) := fun a ha =>
  Does.pick (wantF_of ha hw) ho (ha.ev hc) (by cases b <;> simp [ha.ev hx, eval_c]) ⟨rfl, rfl⟩
theorem dx_or {c y : Operand} {b d : Bool} (ho : o.op = .pick c (.const (.bool true)) y) (hc : ev f c = some (.bool b)) (hy : ev f y = some (.bool d)) (hw : wantF ops o f = some true := by rfl) : DV P ops o N f w (.bool (b || d)) := fun a ha =>
  Does.pick (wantF_of ha hw) ho (ha.ev hc) (by cases b <;> simp [ha.ev hy, eval_c]) ⟨rfl, rfl⟩
theorem dx_not {t : TypeId} {x : Operand} {b : Bool} (ho : o.op = .unOp .not t x) (hx : ev f x = some (.bool b)) (hw : wantF ops o f = some true := by rfl) : DV P ops o N f w (.bool (!b)) := fun a ha =>
  Does.not (wantF_of ha hw) ho (ha.ev hx) rfl ⟨rfl, rfl⟩
theorem dx_add {t t' : TypeId} {x y : Operand} {K : IntKind} {m n r : Int} (ho : o.op = .binOp .add t x y t') (hx : ev f x = some (.int K m)) (hy : ev f y = some (.int K n)) (hr : K.wrap (m + n) = r) (hw : wantF ops o f = some true := by rfl) : DV P ops o N f w (.int K r) := fun a ha =>
  Does.add (wantF_of ha hw) ho (ha.ev hx) (ha.ev hy) hr ⟨rfl, rfl⟩
theorem dx_sub {t t' : TypeId} {x y : Operand} {K : IntKind} {m n r : Int} (ho : o.op = .binOp .sub t x y t') (hx : ev f x = some (.int K m)) (hy : ev f y = some (.int K n)) (hr : K.wrap (m - n) = r) (hw : wantF ops o f = some true := by rfl) : DV P ops o N f w (.int K r) := fun a ha =>
  Does.sub (wantF_of ha hw) ho (ha.ev hx) (ha.ev hy) hr ⟨rfl, rfl⟩
theorem dx_mul {t t' : TypeId} {x y : Operand} {K : IntKind} {m n r : Int} (ho : o.op = .binOp .mul t x y t') (hx : ev f x = some (.int K m)) (hy : ev f y = some (.int K n)) (hr : K.wrap (m * n) = r) (hw : wantF ops o f = some true := by rfl) : DV P ops o N f w (.int K r) := fun a ha =>
  Does.mul (wantF_of ha hw) ho (ha.ev hx) (ha.ev hy) hr ⟨rfl, rfl⟩
theorem dx_quo {t t' : TypeId} {x y : Operand} {K : IntKind} {m n r : Int} (ho : o.op = .binOp .quo t x y t') (hx : ev f x = some (.int K m)) (hy : ev f y = some (.int K n)) (hn : n ≠ 0) (hr : K.wrap (m.tdiv n) = r) (hw : wantF ops o f = some true := by rfl) : DV P ops o N f w (.int K r) := fun a ha =>
  Does.quo (wantF_of ha hw) ho (ha.ev hx) (ha.ev hy) hn hr ⟨rfl, rfl⟩
theorem dx_rem {t t' : TypeId} {x y : Operand} {K : IntKind} {m n r : Int} (ho : o.op = .binOp .rem t x y t') (hx : ev f x = some (.int K m)) (hy : ev f y = some (.int K n)) (hn : n ≠ 0) (hr : m.tmod n = r) (hw : wantF ops o f = some true := by rfl) : DV P ops o N f w (.int K r) := fun a ha =>
  Does.rem (wantF_of ha hw) ho (ha.ev hx) (ha.ev hy) hn hr ⟨rfl, rfl⟩
theorem dx_and_i {t t' : TypeId} {x y : Operand} {K : IntKind} {m n r : Int} (ho : o.op = .binOp .and t x y t') (hx : ev f x = some (.int K m)) (hy : ev f y = some (.int K n)) (hr : bits .and K m n = r) (hw : wantF ops o f = some true := by rfl) : DV P ops o N f w (.int K r) := fun a ha =>
  Does.and (wantF_of ha hw) ho (ha.ev hx) (ha.ev hy) hr ⟨rfl, rfl⟩
theorem dx_or_i {t t' : TypeId} {x y : Operand} {K : IntKind} {m n r : Int} (ho : o.op = .binOp .or t x y t') (hx : ev f x = some (.int K m)) (hy : ev f y = some (.int K n)) (hr : bits .or K m n = r) (hw : wantF ops o f = some true := by rfl) : DV P ops o N f w (.int K r) := fun a ha =>
  Does.or (wantF_of ha hw) ho (ha.ev hx) (ha.ev hy) hr ⟨rfl, rfl⟩
theorem dx_xor_i {t t' : TypeId} {x y : Operand} {K : IntKind} {m n r : Int} (ho : o.op = .binOp .xor t x y t') (hx : ev f x = some (.int K m)) (hy : ev f y = some (.int K n)) (hr : bits .xor K m n = r) (hw : wantF ops o f = some true := by rfl) : DV P ops o N f w (.int K r) := fun a ha =>
  Does.xor (wantF_of ha hw) ho (ha.ev hx) (ha.ev hy) hr ⟨rfl, rfl⟩
theorem dx_lss {t t' : TypeId} {x y : Operand} {K : IntKind} {m n : Int} (ho : o.op = .binOp .lss t x y t') (hx : ev f x = some (.int K m)) (hy : ev f y = some (.int K n)) (hw : wantF ops o f = some true := by rfl) : DV P ops o N f w (.bool (decide (m < n))) := fun a ha =>
  Does.lss (wantF_of ha hw) ho (ha.ev hx) (ha.ev hy) rfl ⟨rfl, rfl⟩
theorem dx_leq {t t' : TypeId} {x y : Operand} {K : IntKind} {m n : Int} (ho : o.op = .binOp .leq t x y t') (hx : ev f x = some (.int K m)) (hy : ev f y = some (.int K n)) (hw : wantF ops o f = some true := by rfl) : DV P ops o N f w (.bool (decide (m ≤ n))) := fun a ha =>
  Does.leq (wantF_of ha hw) ho (ha.ev hx) (ha.ev hy) rfl ⟨rfl, rfl⟩
theorem dx_gtr {t t' : TypeId} {x y : Operand} {K : IntKind} {m n : Int} (ho : o.op = .binOp .gtr t x y t') (hx : ev f x = some (.int K m)) (hy : ev f y = some (.int K n)) (hw : wantF ops o f = some true := by rfl) : DV P ops o N f w (.bool (decide (n < m))) := fun a ha =>
  Does.gtr (wantF_of ha hw) ho (ha.ev hx) (ha.ev hy) rfl ⟨rfl, rfl⟩
theorem dx_geq {t t' : TypeId} {x y : Operand} {K : IntKind} {m n : Int} (ho : o.op = .binOp .geq t x y t') (hx : ev f x = some (.int K m)) (hy : ev f y = some (.int K n)) (hw : wantF ops o f = some true := by rfl) : DV P ops o N f w (.bool (decide (n ≤ m))) := fun a ha =>
  Does.geq (wantF_of ha hw) ho (ha.ev hx) (ha.ev hy) rfl ⟨rfl, rfl⟩
theorem dx_eql {t t' : TypeId} {x y : Operand} {K : IntKind} {m n : Int} (ho : o.op = .binOp .eql t x y t') (hx : ev f x = some (.int K m)) (hy : ev f y = some (.int K n)) (hw : wantF ops o f = some true := by rfl) : DV P ops o N f w (.bool (decide (m = n))) := fun a ha =>
  Does.eqlN (wantF_of ha hw) ho (ha.ev hx) (ha.ev hy) (beq_dec m n) ⟨rfl, rfl⟩
theorem dx_neq {t t' : TypeId} {x y : Operand} {K : IntKind} {m n : Int} (ho : o.op = .binOp .neq t x y t') (hx : ev f x = some (.int K m)) (hy : ev f y = some (.int K n)) (hw : wantF ops o f = some true := by rfl) : DV P ops o N f w (.bool (!decide (m = n))) := fun a ha =>
  Does.neqN (wantF_of ha hw) ho (ha.ev hx) (ha.ev hy) (by rw [bne, beq_dec m n]) ⟨rfl, rfl⟩
theorem dx_conv {s d : TypeId} {x : Operand} {K K' : IntKind} {ts : TypeDesc} {m r : Int} (ho : o.op = .convert s d x) (hs : P.underlying s = some ts) (hd : P.underlying d = some (.int K')) (hx : ev f x = some (.int K m)) (hr : K'.wrap m = r) (hw : wantF ops o f = some true := by rfl) : DV P ops o N f w (.int K' r) := fun a ha =>
  Does.conv (wantF_of ha hw) ho hs hd (ha.ev hx) hr ⟨rfl, rfl⟩
theorem dx_len {t e : TypeId} {x : Operand} {p : Option Addr} {l c : Nat} (ho : o.op = .call { callee := .builtin .len, args := #[x], argTypes := #[t] }) (ht : P.underlying t = some (.slice e)) (hx : ev f x = some (.slice p l c)) (hw : wantF ops o f = some true := by rfl) : DV P ops o N f w (.int .i64 (l : Int)) := fun a ha =>
  Does.lenS (wantF_of ha hw) ho ht (ha.ev hx) ⟨rfl, rfl⟩
theorem dx_lenA {t e : TypeId} {x : Operand} {v : Value} {n : Nat} (ho : o.op = .call { callee := .builtin .len, args := #[x], argTypes := #[t] }) (ht : P.underlying t = some (.array n e)) (hx : ev f x = some v) (hw : wantF ops o f = some true := by rfl) : DV P ops o N f w (.int .i64 (n : Int)) := fun a ha => by
  have hx := ha.ev hx
  exact Does.pure (wantF_of ha hw) _ (by unfold execOp; simp only [ho, resolve, invoke, builtin, Sem.run_bind, Sem.run_pure, Result.andThen_ok, List.map_toArray, List.map_cons, List.map_nil, hx]; simp [Builtin.len_, run_underlying ht, goInt]) ⟨rfl, rfl⟩
theorem dx_lenT {t : TypeId} {x : Operand} {s : ByteArray} (ho : o.op = .call { callee := .builtin .len, args := #[x], argTypes := #[t] }) (ht : P.underlying t = some .string) (hx : ev f x = some (.string s)) (hw : wantF ops o f = some true := by rfl) : DV P ops o N f w (.int .i64 (s.size : Int)) := fun a ha => by
  have hx := ha.ev hx
  exact Does.pure (wantF_of ha hw) _ (by unfold execOp; simp only [ho, resolve, invoke, builtin, Sem.run_bind, Sem.run_pure, Result.andThen_ok, List.map_toArray, List.map_cons, List.map_nil, hx]; simp [Builtin.len_, run_underlying ht, goInt]) ⟨rfl, rfl⟩
theorem dx_extract {x : Operand} {i : Nat} {vs : Array Value} {v : Value} (ho : o.op = .extract x i) (hx : ev f x = some (.tuple vs)) (hv : vs[i]? = some v) (hw : wantF ops o f = some true := by rfl) : DV P ops o N f w v := fun a ha => by
  have hx := ha.ev hx
  exact Does.pure (wantF_of ha hw) _ (by unfold execOp; simp only [ho, hx, Instr.extract, hv, Sem.run_bind, Sem.run_pure, Result.andThen_ok]) ⟨rfl, rfl⟩
theorem dx_func {fn : Fn} {first captured : Array Operand} {cs : List Value} (ho : o.op = .makeFunc fn first captured) (h1 : first = #[]) (hc : evl f captured.toList = some cs) (hw : wantF ops o f = some true := by rfl) : DV P ops o N f w (.func fn #[] cs.toArray) := fun a ha => by
  have hx := ha.evl hc
  exact Does.pure (wantF_of ha hw) _ (by unfold execOp; simp only [ho, h1, Instr.makeFunc, Sem.run_bind, Sem.run_pure, Result.andThen_ok]; rw [← hx]; congr 3 <;> first | (simp; done) | (rw [← Array.toList_map])) ⟨rfl, rfl⟩
-- strings
theorem str_beq (s t : ByteArray) : (s.toList == t.toList) = decide (s = t) := by
  by_cases h : s = t
  · rw [str_eq_yes h, decide_eq_true h]
  · rw [str_eq_no h, decide_eq_false h]
def sless (s t : ByteArray) : Bool := Op.bytesLess s.toList t.toList
theorem dx_eqlT {t t' : TypeId} {x y : Operand} {m n : ByteArray} (ho : o.op = .binOp .eql t x y t') (hx : ev f x = some (.string m)) (hy : ev f y = some (.string n)) (hw : wantF ops o f = some true := by rfl) : DV P ops o N f w (.bool (decide (m = n))) := fun a ha => by
  have hx := ha.ev hx
  have hy := ha.ev hy
  exact Does.pure (wantF_of ha hw) _ (by unfold execOp; simp only [ho, hx, hy, eqGuard, Sem.run_bind, Sem.run_pure, Result.andThen_ok]; simp [binOp, Op.stringOp, str_beq]) ⟨rfl, rfl⟩
theorem dx_neqT {t t' : TypeId} {x y : Operand} {m n : ByteArray} (ho : o.op = .binOp .neq t x y t') (hx : ev f x = some (.string m)) (hy : ev f y = some (.string n)) (hw : wantF ops o f = some true := by rfl) : DV P ops o N f w (.bool (!decide (m = n))) := fun a ha => by
  have hx := ha.ev hx
  have hy := ha.ev hy
  exact Does.pure (wantF_of ha hw) _ (by unfold execOp; simp only [ho, hx, hy, eqGuard, Sem.run_bind, Sem.run_pure, Result.andThen_ok]; simp [binOp, Op.stringOp, str_beq]) ⟨rfl, rfl⟩
theorem dx_lssT {t t' : TypeId} {x y : Operand} {m n : ByteArray} (ho : o.op = .binOp .lss t x y t') (hx : ev f x = some (.string m)) (hy : ev f y = some (.string n)) (hw : wantF ops o f = some true := by rfl) : DV P ops o N f w (.bool (sless m n)) := fun a ha => by
  have hx := ha.ev hx
  have hy := ha.ev hy
  exact Does.pure (wantF_of ha hw) _ (by unfold execOp; simp only [ho, hx, hy, eqGuard, Sem.run_bind, Sem.run_pure, Result.andThen_ok]; simp [binOp, Op.stringOp, sless]) ⟨rfl, rfl⟩
theorem dx_geqT {t t' : TypeId} {x y : Operand} {m n : ByteArray} (ho : o.op = .binOp .geq t x y t') (hx : ev f x = some (.string m)) (hy : ev f y = some (.string n)) (hw : wantF ops o f = some true := by rfl) : DV P ops o N f w (.bool (!sless m n)) := fun a ha => by
  have hx := ha.ev hx
  have hy := ha.ev hy
  exact Does.pure (wantF_of ha hw) _ (by unfold execOp; simp only [ho, hx, hy, eqGuard, Sem.run_bind, Sem.run_pure, Result.andThen_ok]; simp [binOp, Op.stringOp, sless]) ⟨rfl, rfl⟩
theorem dx_gtrT {t t' : TypeId} {x y : Operand} {m n : ByteArray} (ho : o.op = .binOp .gtr t x y t') (hx : ev f x = some (.string m)) (hy : ev f y = some (.string n)) (hw : wantF ops o f = some true := by rfl) : DV P ops o N f w (.bool (!(sless m n || decide (m = n)))) := fun a ha => by
  have hx := ha.ev hx
  have hy := ha.ev hy
  exact Does.pure (wantF_of ha hw) _ (by unfold execOp; simp only [ho, hx, hy, eqGuard, Sem.run_bind, Sem.run_pure, Result.andThen_ok]; simp [binOp, Op.stringOp, sless, str_beq]) ⟨rfl, rfl⟩
theorem dx_addT {t t' : TypeId} {x y : Operand} {m n : ByteArray} (ho : o.op = .binOp .add t x y t') (hx : ev f x = some (.string m)) (hy : ev f y = some (.string n)) (hs : m.size + n.size ≤ 9223372036854775807) (hw : wantF ops o f = some true := by rfl) : DV P ops o N f w (.string (m ++ n)) := fun a ha => by
  have hx := ha.ev hx
  have hy := ha.ev hy
  have hz : ¬ ((m.size + n.size : Nat) : Int) > IntKind.i64.max := by have : IntKind.i64.max = 9223372036854775807 := by decide
                                                                      rw [this]; omega
  exact Does.pure (wantF_of ha hw) _ (by unfold execOp; simp only [ho, hx, hy, eqGuard, Sem.run_bind, Sem.run_pure, Result.andThen_ok]; simp only [binOp, Op.stringOp, if_neg hz]; simp) ⟨rfl, rfl⟩
-- a call
theorem evl_args {a : Act} {xs : List Operand} {vs : List Value} (h : xs.map a.eval = vs) : xs.toArray.map a.eval = vs.toArray := by rw [← h]; simp
theorem dx_call {c : Operand} {F : FuncId} {fn : Func} {xs : List Operand} {ts : Array TypeId} {vs : List Value} {cap : Array Value} (ho : o.op = .call { callee := .value c, args := xs.toArray, argTypes := ts }) (hcv : ev f c = some (.func (.func F) #[] cap)) (hf : P.funcs[F]? = some fn) (hn : (fn.name == "runtime.NumGoroutine") = false) (hb : fn.body.isNone = false)
    (hx : evl f xs = some vs) (hc : Calls P F (vs.toArray ++ cap) w fun e w' => ∃ v, e = .returned v ∧ R v w') (hw : wantF ops o f = some true := by rfl) : DR P ops o N f w R := fun a ha => by
  have he := evl_args (ha.evl hx)
  have hc' := ha.ev hcv
  exact Does.call (wantF_of ha hw) F (vs.toArray ++ cap) (by
    unfold execOp
    simp only [ho, resolve, he, hc', Deferred.ofValue, Sem.run_bind, Sem.run_pure, Result.andThen_ok, invoke]
    simp only [Array.empty_append, callFunc, Sem.run_bind, run_program, Result.andThen_ok, hf, hn, hb]
    rfl) hc
end
end Go.Proofs.YthefddclefimoaaDoor
