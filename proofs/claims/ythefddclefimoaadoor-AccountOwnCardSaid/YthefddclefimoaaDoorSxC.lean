/- Code over frames that are lists; regions whose order is drawn. No program stands here. -/
import Derived.Test.YthefddclefimoaaDoorSx
import Derived.Deep.LoopGhost
namespace Go.Proofs.YthefddclefimoaaDoor
open Go.RowKit
set_option linter.unusedVariables false
set_option linter.unusedSimpArgs false

section
variable {P : Program} {N : Nat} {f : Fl} {w : World} {Q : Exit → Act → World → Prop}
theorem WC.seq {x y : Code} (h : ∀ K : Act → World → Prop, (∀ {f w}, WC P N y Q f w → ∀ a, Fr N a f → K a w) → WC P N x (Exit.then K Q) f w) : WC P N (.seq x y) Q f w := fun a ha =>
  wp_seq_k fun K hK => h K (fun {f w} hy a ha => hK a w (hy a ha)) a ha
theorem WC.skip (h : ∀ a, Fr N a f → Q .normal a w) : WC P N .skip Q f w := fun a ha => wp_skip (h a ha)
theorem WC.exit {id : Nat} (h : ∀ a, Fr N a f → Q (.exit id) a w) : WC P N (.exit id) Q f w := fun a ha => wp_exit (h a ha)
theorem WC.ret (h : ∀ a, Fr N a f → Q .ret a w) : WC P N .ret Q f w := fun a ha => wp_ret (h a ha)
theorem WC.block {id : Nat} {c : Code} (h : WC P N c (Exit.inBlock id Q) f w) : WC P N (.block id c) Q f w := fun a ha => wp_block (h a ha)
theorem WC.region {id : Nat} {l : List Oper} (h : WL P l.toArray Q N l f w) : WC P N (.region id l.toArray false) Q f w := fun a ha => wp_region_lit (h a ha)
theorem WC.cond {c : Operand} {x y : Code} {b : Bool} (hc : ev f c = some (.bool b)) (ht : b = true → WC P N x Q f w) (hf : b = false → WC P N y Q f w) : WC P N (.cond c x y) Q f w := fun a ha =>
  wp_cond_split (ha.ev hc) (fun h => ht h a ha) (fun h => hf h a ha)
theorem WC.condT {c : Operand} {x y : Code} (hc : ev f c = some (.bool true)) (h : WC P N x Q f w) : WC P N (.cond c x y) Q f w := fun a ha => wp_cond_true (ha.ev hc) (h a ha)
theorem WC.condF {c : Operand} {x y : Code} (hc : ev f c = some (.bool false)) (h : WC P N y Q f w) : WC P N (.cond c x y) Q f w := fun a ha => wp_cond_false (ha.ev hc) (h a ha)
theorem WC.sub {c : Code} {f' : Fl} (hs : Sub f' f) (h : WC P N c Q f' w) : WC P N c Q f w := fun a ha => h a (ha.sub hs)
theorem WC.loop {σ : Type} {c : Code} (fr : σ → Fl) (I : σ → World → Prop) (μ : σ → Nat) (s0 : σ) (hs : Sub (fr s0) f) (h0 : I s0 w)
    (round : ∀ (K : Act → World → Prop) s w, I s w → (∀ {f' w'} (s' : σ), I s' w' → μ s' < μ s → Sub (fr s') f' → ∀ a, Fr N a f' → K a w') → WC P N c (Exit.then K Q) (fr s) w) : WC P N (.loop c) Q f w := fun a ha =>
  wp_loop_ghost (fun n a w => ∃ s, μ s = n ∧ I s w ∧ Fr N a (fr s)) (μ s0) ⟨s0, rfl, h0, ha.sub hs⟩ fun n a w hI => by
    obtain ⟨s, rfl, hI, hfr⟩ := hI
    exact round _ s w hI (fun {f' w'} s' hI' hlt hsub a' hf' => ⟨μ s', hlt, s', rfl, hI', hf'.sub hsub⟩) a hfr
theorem WC.loop2 {α β : Type} {c : Code} (fr : α → β → Fl) (I : α → β → World → Prop) (μ : α → β → Nat) (a0 : α) (b0 : β) (hs : Sub (fr a0 b0) f) (h0 : I a0 b0 w)
    (round : ∀ (K : Act → World → Prop) a b w, I a b w → (∀ {f' w'} (a' : α) (b' : β), I a' b' w' → μ a' b' < μ a b → Sub (fr a' b') f' → ∀ x, Fr N x f' → K x w') → WC P N c (Exit.then K Q) (fr a b) w) : WC P N (.loop c) Q f w :=
  WC.loop (σ := α × β) (fun s => fr s.1 s.2) (fun s => I s.1 s.2) (fun s => μ s.1 s.2) (a0, b0) hs h0 fun K s w hI hK => round K s.1 s.2 w hI fun a' b' h1 h2 h3 => hK (a', b') h1 h2 h3
theorem WC.loop3 {α β γ : Type} {c : Code} (fr : α → β → γ → Fl) (I : α → β → γ → World → Prop) (μ : α → β → γ → Nat) (a0 : α) (b0 : β) (c0 : γ) (hs : Sub (fr a0 b0 c0) f) (h0 : I a0 b0 c0 w)
    (round : ∀ (K : Act → World → Prop) a b c' w, I a b c' w → (∀ {f' w'} (a' : α) (b' : β) (c'' : γ), I a' b' c'' w' → μ a' b' c'' < μ a b c' → Sub (fr a' b' c'') f' → ∀ x, Fr N x f' → K x w') → WC P N c (Exit.then K Q) (fr a b c') w) : WC P N (.loop c) Q f w :=
  WC.loop (σ := α × β × γ) (fun s => fr s.1 s.2.1 s.2.2) (fun s => I s.1 s.2.1 s.2.2) (fun s => μ s.1 s.2.1 s.2.2) (a0, b0, c0) hs h0 fun K s w hI hK => round K s.1 s.2.1 s.2.2 w hI fun a' b' c' h1 h2 h3 => hK (a', b', c') h1 h2 h3
end
theorem calls_fm {P : Program} {f : FuncId} {fn : Func} {args : Array Value} {body : Code} {w : World} {R : Ending → World → Prop} {N : Nat} (hf : P.funcs[f]? = some fn) (hb : fn.body = some body) (hn : fn.ntmps = N) (hN : decide (args.size ≤ N) = true)
    (h : ∀ a, Fm N a → (∀ t v, args[t]? = some v → a.eval (.tmp t) = v) → body.wp P (bodyPost P fn R) a w) : Calls P f args w R := by
  refine calls_of_wp hf hb ?_
  refine h _ ⟨?_, rfl⟩ fun t v hv => ?_
  · have := of_decide_eq_true hN
    simp [hn]
    omega
  · have ht := (Array.getElem?_eq_some_iff.1 hv).1
    rw [eval_tmps]
    have he := Array.getElem?_eq_getElem ht
    rw [he] at hv
    simp [Array.getElem?_append, ht]
    exact Option.some.inj hv
theorem calls_sx {P : Program} {F : FuncId} {fn : Func} {body : Code} {w : World} {R : Ending → World → Prop} {N : Nat} (vs : List Value) (f : Fl) (hf : P.funcs[F]? = some fn) (hb : fn.body = some body) (hn : fn.ntmps = N) (hN : decide (vs.length ≤ N) = true)
    (hfr : f = (vs.zipIdx.map fun p => (p.2, p.1))) (h : WC P N body (bodyPost P fn R) f w) : Calls P F vs.toArray w R := by
  refine calls_fm hf hb hn (by simpa using hN) fun a hfm harg => h a ⟨hfm, fun t v hv => harg t v ?_⟩
  subst hfr
  have key : ∀ (l : List Value) (k : Nat), look ((l.zipIdx k).map fun p => (p.2, p.1)) t = some v → k ≤ t ∧ l[t - k]? = some v := by
    intro l
    induction l with
    | nil => intro k hk; cases hk
    | cons x l ih =>
      intro k hk
      simp only [List.zipIdx_cons, List.map_cons] at hk
      unfold look at hk
      cases hb : Nat.beq k t with
      | true =>
        rw [hb] at hk
        cases hk
        have := Nat.eq_of_beq_eq_true hb
        subst this
        simp
      | false =>
        rw [hb] at hk
        obtain ⟨h1, h2⟩ := ih (k + 1) hk
        refine ⟨by omega, ?_⟩
        rw [show t - k = (t - (k + 1)) + 1 by omega]
        simpa using h2
  have := (key vs 0 hv).2
  simpa using this
/-- The end of a call: results that are slots. -/
def fin (P : Program) (fn : Func) (R : Ending → World → Prop) (a : Act) (w : World) : Prop := a.defers = [] ∧ ∃ v, (results fn a.tmps).run P w = .ok v w ∧ R (.returned v) w
section
variable {P : Program} {fn : Func} {R : Ending → World → Prop} {N : Nat} {f : Fl} {w : World}
theorem slot_fr {a : Act} {t : Nat} {v : Value} (ha : Fr N a f) (h : look f t = some v) : a.tmps.getD t undef = v := ha.2 t v h
theorem fin0 (h : fn.results = #[]) (hR : R (.returned (.tuple #[])) w) : ∀ a, Fr N a f → fin P fn R a w := fun a ha => ⟨ha.1.2, _, by simp [results, h], hR⟩
theorem fin1 {t0 : Nat} {v0 : Value} (h : fn.results = #[.tmp t0]) (h0 : look f t0 = some v0) (hR : R (.returned v0) w) : ∀ a, Fr N a f → fin P fn R a w := fun a ha => ⟨ha.1.2, _, by simp only [results, h, List.mapM_toArray, List.mapM_cons, List.mapM_nil, slot_fr ha h0]; simp, hR⟩
theorem fin2 {t0 t1 : Nat} {v0 v1 : Value} (h : fn.results = #[.tmp t0, .tmp t1]) (h0 : look f t0 = some v0) (h1 : look f t1 = some v1) (hR : R (.returned (.tuple #[v0, v1])) w) : ∀ a, Fr N a f → fin P fn R a w := fun a ha => ⟨ha.1.2, _, by simp only [results, h, List.mapM_toArray, List.mapM_cons, List.mapM_nil, slot_fr ha h0, slot_fr ha h1]; simp, hR⟩
theorem fin3 {t0 t1 t2 : Nat} {v0 v1 v2 : Value} (h : fn.results = #[.tmp t0, .tmp t1, .tmp t2]) (h0 : look f t0 = some v0) (h1 : look f t1 = some v1) (h2 : look f t2 = some v2) (hR : R (.returned (.tuple #[v0, v1, v2])) w) : ∀ a, Fr N a f → fin P fn R a w := fun a ha => ⟨ha.1.2, _, by simp only [results, h, List.mapM_toArray, List.mapM_cons, List.mapM_nil, slot_fr ha h0, slot_fr ha h1, slot_fr ha h2]; simp, hR⟩
theorem fin4 {t0 t1 t2 t3 : Nat} {v0 v1 v2 v3 : Value} (h : fn.results = #[.tmp t0, .tmp t1, .tmp t2, .tmp t3]) (h0 : look f t0 = some v0) (h1 : look f t1 = some v1) (h2 : look f t2 = some v2) (h3 : look f t3 = some v3) (hR : R (.returned (.tuple #[v0, v1, v2, v3])) w) : ∀ a, Fr N a f → fin P fn R a w := fun a ha => ⟨ha.1.2, _, by simp only [results, h, List.mapM_toArray, List.mapM_cons, List.mapM_nil, slot_fr ha h0, slot_fr ha h1, slot_fr ha h2, slot_fr ha h3]; simp, hR⟩
theorem fin5 {t0 t1 t2 t3 t4 : Nat} {v0 v1 v2 v3 v4 : Value} (h : fn.results = #[.tmp t0, .tmp t1, .tmp t2, .tmp t3, .tmp t4]) (h0 : look f t0 = some v0) (h1 : look f t1 = some v1) (h2 : look f t2 = some v2) (h3 : look f t3 = some v3) (h4 : look f t4 = some v4) (hR : R (.returned (.tuple #[v0, v1, v2, v3, v4])) w) : ∀ a, Fr N a f → fin P fn R a w := fun a ha => ⟨ha.1.2, _, by simp only [results, h, List.mapM_toArray, List.mapM_cons, List.mapM_nil, slot_fr ha h0, slot_fr ha h1, slot_fr ha h2, slot_fr ha h3, slot_fr ha h4]; simp, hR⟩
theorem fin6 {t0 t1 t2 t3 t4 t5 : Nat} {v0 v1 v2 v3 v4 v5 : Value} (h : fn.results = #[.tmp t0, .tmp t1, .tmp t2, .tmp t3, .tmp t4, .tmp t5]) (h0 : look f t0 = some v0) (h1 : look f t1 = some v1) (h2 : look f t2 = some v2) (h3 : look f t3 = some v3) (h4 : look f t4 = some v4) (h5 : look f t5 = some v5) (hR : R (.returned (.tuple #[v0, v1, v2, v3, v4, v5])) w) : ∀ a, Fr N a f → fin P fn R a w := fun a ha => ⟨ha.1.2, _, by simp only [results, h, List.mapM_toArray, List.mapM_cons, List.mapM_nil, slot_fr ha h0, slot_fr ha h1, slot_fr ha h2, slot_fr ha h3, slot_fr ha h4, slot_fr ha h5]; simp, hR⟩
end
/-- What an operation of a drawn region yields: a value, or what it is like. -/
inductive VS where
  | is (v : Value)
  | by (p : Value → World → Prop)
def VS.ok : VS → Value → World → Prop
  | .is v, u, _ => u = v
  | .by p, u, w => p u w
def VS.mono : List (Option Tmp × VS) → Prop
  | [] => True
  | (_, .is _) :: l => VS.mono l
  | (_, .by p) :: l => (∀ u W W', Below W.heap.size W W' → p u W → p u W') ∧ VS.mono l
/-- One step, from the frame with what it waits for. -/
def DStep (P : Program) (ops : Array Oper) (o : Oper) (N : Nat) (W : World) (sd : List (Option Tmp × VS)) (R : Value → World → Prop) : List Nat → Fl → Prop
  | [], f => DR P ops o N f W R
  | j :: l, f => match sd[j]? with
    | some (some d, .is v) => DStep P ops o N W sd R l ((d, v) :: f)
    | some (some d, .by p) => ∀ u, p u W → DStep P ops o N W sd R l ((d, u) :: f)
    | some (none, .by p) => ∀ u, p u W → DStep P ops o N W sd R l f
    | _ => DStep P ops o N W sd R l f
def okAt (sd : List (Option Tmp × VS)) (k : Nat) (v : Value) (w : World) : Prop := match sd[k]? with
  | some (_, s) => s.ok v w
  | none => True
def DSteps (P : Program) (ops : Array Oper) (N : Nat) (w0 : World) (sd : List (Option Tmp × VS)) (dl : List (List Nat)) (f : Fl) : Nat → List Oper → Prop
  | _, [] => True
  | k, o :: l => (∀ W, Below w0.heap.size w0 W → DStep P ops o N W sd (fun v W' => Below W.heap.size W W' ∧ okAt sd k v W') ((dl[k]?).getD []) f) ∧ DSteps P ops N w0 sd dl f (k + 1) l
def DEnd (K : Fl → World → Prop) (W : World) : List (Option Tmp × VS) → Fl → Prop
  | [], f => K f W
  | (some d, .is v) :: l, f => DEnd K W l ((d, v) :: f)
  | (some d, .by p) :: l, f => ∀ u, p u W → DEnd K W l ((d, u) :: f)
  | (none, .by p) :: l, f => ∀ u, p u W → DEnd K W l f
  | (none, .is _) :: l, f => DEnd K W l f
def inN (N : Nat) (sd : List (Option Tmp × VS)) : Bool := sd.all fun p => match p.1 with
  | some d => decide (d < N)
  | none => true
section
variable {P : Program} {ops : Array Oper} {N : Nat} {sd : List (Option Tmp × VS)} {dl : List (List Nat)}
theorem restr_self (g : Nat → Value) (j : Nat) (l : List Nat) : restr g (j :: l) j = g j := by simp [restr]
theorem inN_at (hN : inN N sd = true) {j d : Nat} {s : VS} (h : sd[j]? = some (some d, s)) : decide (d < N) = true := by
  have := List.all_eq_true.1 hN _ (List.mem_of_getElem? h)
  simpa using this
theorem DStep.to {o : Oper} {W : World} {R : Value → World → Prop} (hN : inN N sd = true) {g : Nat → Value} : ∀ (l : List Nat) (f : Fl) (a : Act), DStep P ops o N W sd R l f → Fr N a f → HypL (fun j g w => okAt sd j (g j) w) dl g W l → Does P ops o (putL (sd.map (·.1)) g l a) W R
  | [], f, a, h, ha, _ => h a ha
  | j :: l, f, a, h, ha, hh => by
    obtain ⟨h1, h2⟩ := hh
    simp only [restr_self] at h1
    unfold DStep at h
    unfold putL
    rw [List.getElem?_map]
    cases hs : sd[j]? with
    | none => rw [hs] at h; exact DStep.to hN l f _ h ha h2
    | some p =>
      obtain ⟨d, s⟩ := p
      rw [hs] at h
      unfold okAt at h1
      rw [hs] at h1
      cases d with
      | none =>
        cases s with
        | is v => exact DStep.to hN l f _ h ha h2
        | «by» p => exact DStep.to hN l f _ (h _ h1) ha h2
      | some d =>
        have hd := inN_at hN hs
        cases s with
        | is v => exact DStep.to hN l _ _ h (by have e : g j = v := h1; rw [← e]; exact ha.put hd _) h2
        | «by» p => exact DStep.to hN l _ _ (h _ h1) (ha.put hd _) h2
theorem DEnd.to {K : Fl → World → Prop} {W : World} (hN : inN N sd = true) {Q : Act → World → Prop} (hK : ∀ f, K f W → ∀ a, Fr N a f → Q a W) {g : Nat → Value} : ∀ (l : List (Option Tmp × VS)) (k : Nat) (f : Fl) (a : Act), sd.drop k = l → DEnd K W l f → Fr N a f → HypL (fun j g w => okAt sd j (g j) w) dl g W (List.range' k l.length) → Q (putL (sd.map (·.1)) g (List.range' k l.length) a) W
  | [], k, f, a, _, h, ha, _ => hK f h a ha
  | (d, s) :: l, k, f, a, he, h, ha, hh => by
    have hs : sd[k]? = some (d, s) := by
      have := congrArg List.head? he
      simpa [List.head?_drop] using this
    have ht : sd.drop (k + 1) = l := by rw [← List.drop_drop, he]; rfl
    rw [List.length_cons, List.range'_succ] at hh ⊢
    obtain ⟨h1, h2⟩ := hh
    simp only [restr_self] at h1
    unfold okAt at h1
    rw [hs] at h1
    unfold putL
    rw [List.getElem?_map, hs]
    cases d with
    | none =>
      cases s with
      | is v => exact DEnd.to hN hK l (k + 1) f _ ht h ha h2
      | «by» p => exact DEnd.to hN hK l (k + 1) f _ ht (h _ h1) ha h2
    | some d =>
      have hd := inN_at hN hs
      cases s with
      | is v => exact DEnd.to hN hK l (k + 1) _ _ ht h (by have e : g k = v := h1; rw [← e]; exact ha.put hd _) h2
      | «by» p => exact DEnd.to hN hK l (k + 1) _ _ ht (h _ h1) (ha.put hd _) h2
theorem mono_at : ∀ {sd : List (Option Tmp × VS)}, VS.mono sd → ∀ {j : Nat} {d : Option Tmp} {p : Value → World → Prop}, sd[j]? = some (d, .by p) → ∀ u W W', Below W.heap.size W W' → p u W → p u W'
  | [], _, j, d, p, h => by simp at h
  | (d', .is v) :: l, hm, j, d, p, h => by
    cases j with
    | zero => simp at h
    | succ j => exact mono_at (sd := l) hm (by simpa using h)
  | (d', .by q) :: l, hm, j, d, p, h => by
    cases j with
    | zero =>
      simp only [List.getElem?_cons_zero, Option.some.injEq, Prod.mk.injEq, VS.by.injEq] at h
      rw [← h.2]
      exact hm.1
    | succ j => exact mono_at (sd := l) hm.2 (by simpa using h)
/-- A region whose order is drawn, and that writes to no memory that was there. -/
theorem WC.draw {id : Nat} {f : Fl} {w : World} {Q : Exit → Act → World → Prop} (sd : List (Option Tmp × VS)) (dl : List (List Nat)) (hm : P.follows .mixedOrders = true) (hb : ordB .any ops = true) (hdl : ops.toList.map (depsOf .any) = dl)
    (hds : ops.toList.map (·.dst) = sd.map (·.1)) (hN : inN N sd = true) (hmono : VS.mono sd) (hst : DSteps P ops N w sd dl f 0 ops.toList)
    (hend : ∀ W, Below w.heap.size w W → DEnd (fun f W => ∀ a, Fr N a f → Q .normal a W) W sd f) : WC P N (.region id ops true) Q f w := fun a ha => by
  have hlen : dl.length = sd.length := by rw [← hdl, List.length_map, ← List.length_map (f := (·.dst)), hds, List.length_map]
  refine wp_region_ord dl (sd.map (·.1)) dl.length (fun _ W => Below w.heap.size w W) (fun j g W => okAt sd j (g j) W) (fun _ _ _ => False) hm hb hdl hds (fun _ W W' h h' => h'.trans (h.mono h'.size)) ?_ (fun _ _ _ _ _ _ h => h.elim) (below_draws (Below.refl _ _) 1) ?_ ?_
  · intro j g W W' hB h
    unfold okAt at h ⊢
    cases hs : sd[j]? with
    | none => trivial
    | some p =>
      obtain ⟨d, s⟩ := p
      rw [hs] at h
      cases s with
      | is v => exact h
      | «by» p => exact mono_at hmono hs _ W W' hB h
  · have key : ∀ (l : List Oper) (k : Nat), DSteps P ops N w sd dl f k l → k + l.length ≤ dl.length → StepL P ops (sd.map (·.1)) dl dl.length a (fun _ W => Below w.heap.size w W) (fun j g W => okAt sd j (g j) W) (fun _ _ _ => False) k l := by
      intro l
      induction l with
      | nil => intro k _ _; trivial
      | cons o l ih =>
        intro k hs hk
        rw [List.length_cons] at hk
        refine StepL.other (by simp; omega) (fun b g W _ hG hH => ?_) (ih (k + 1) hs.2 (by omega))
        refine (DStep.to hN _ f a (hs.1 W hG) ha hH).mono fun v W' h => ⟨h.1, ?_⟩
        simp only [restr_self]
        rw [show upd g k v k = v by simp [upd]]
        exact h.2
    refine key _ _ hst ?_
    rw [← hdl]
    simp
  · intro g W hG hH
    rw [hlen, List.range_eq_range'] at hH ⊢
    exact DEnd.to (Q := fun a W => Q .normal a W) hN (fun f h a ha => h a ha) sd 0 f a (by simp) (hend W hG) ha hH
end
end Go.Proofs.YthefddclefimoaaDoor
