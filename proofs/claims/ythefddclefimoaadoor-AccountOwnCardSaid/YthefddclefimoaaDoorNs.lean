/- What slices.Clone leaves: nothing, or a slice of one's own; and that changes behind a base are none ahead of it. No program stands here. -/
import Derived.Test.YthefddclefimoaaDoorIns
namespace Go.Proofs.YthefddclefimoaaDoor
open Go.RowKit
set_option linter.unusedVariables false
set_option linter.unusedSimpArgs false
/-- Nil, or new since the base: a block of its own. -/
def NewS (s base : Nat) (rs : List (List Value)) (u : Value) (w : World) : Prop := (u = .slice none 0 0 ∧ rs = [] ∧ 0 < s) ∨ ∃ B sp, base ≤ B ∧ u = .slice (some ⟨B, 0, none⟩) rs.length (rs ++ sp).length ∧ RwB s w B (rs ++ sp) ∧ (rs = [] → sp = [])
theorem NewS.below {s base : Nat} {rs : List (List Value)} {u : Value} {w w' : World} (h : NewS s base rs u w) (hb : Below w.heap.size w w') : NewS s base rs u w' := by
  rcases h with h | ⟨B, sp, h1, h2, h3, h4⟩
  · exact .inl h
  · exact .inr ⟨B, sp, h1, h2, h3.below hb, h4⟩
theorem NewS.le {s base n : Nat} {rs : List (List Value)} {u : Value} {w : World} (h : NewS s base rs u w) (hn : n ≤ base) : NewS s n rs u w := by
  rcases h with h | ⟨B, sp, h1, h2⟩
  · exact .inl h
  · exact .inr ⟨B, sp, Nat.le_trans hn h1, h2⟩
theorem NewS.of_own {s base B : Nat} {rs : List (List Value)} {u : Value} {w : World} (h : OwS s w u rs B) (hb : base ≤ B) (hn : rs ≠ []) : NewS s base rs u w := by
  obtain ⟨sp, h1, h2⟩ := h.open
  exact .inr ⟨B, sp, hb, h1, h2, fun e => absurd e hn⟩
theorem NewS.of_lit {s base : Nat} {u : Value} {w : World} (h : NewE s base u w) : NewS s base [] u w := by
  obtain ⟨B, hb, rfl, ho⟩ := h
  obtain ⟨sp, h1, h2⟩ := ho.open
  have e : sp = [] := by
    have := congrArg (fun v : Value => match v with | .slice _ _ c => c | _ => 0) h1
    simp at this
    exact List.length_eq_zero_iff.1 this.symm
  subst e
  exact .inr ⟨B, [], hb, rfl, h2, fun _ => rfl⟩
theorem NewS.rd {s base : Nat} {rs : List (List Value)} {u : Value} {w : World} (h : NewS s base rs u w) {L : List Nat} (hL : ∀ x ∈ L, x < base) : RdF s L w u rs := by
  rcases h with ⟨rfl, rfl, h0⟩ | ⟨B, sp, h1, rfl, h3, h4⟩
  · exact RdF.nil h0
  · exact h3.rd (fun hx => by have := hL B hx; omega)
theorem rwb_ne {s : Nat} {w : World} {B C : Nat} {rs sp vp : List (List Value)} {row : List Value} (h : RwB s w B (rs ++ sp)) (hc : RwB s w C (row :: vp)) (he : rs = [] → sp = []) (hn : ∀ r ∈ rs, r ≠ row) : C ≠ B := fun e => by
  subst e
  obtain ⟨h0, hr, _, t, hb⟩ := h
  obtain ⟨_, hr', _, t', hb'⟩ := hc
  rw [hb] at hb'
  have e1 : (rs ++ sp).flatten = (row :: vp).flatten := by
    have := (Obj.cells.inj (Option.some.inj hb')).1
    simpa using this
  cases rs with
  | nil =>
    rw [he rfl] at e1
    have := congrArg List.length e1
    rw [List.flatten_cons, List.length_append, hr' row (.head _)] at this
    simp at this
    omega
  | cons r rs =>
    refine hn r (.head _) ?_
    rw [List.cons_append, List.flatten_cons, List.flatten_cons] at e1
    exact (List.append_inj e1 (by rw [hr r (.head _), hr' row (.head _)])).1
theorem Chg.from_base {B base : Nat} {w w' : World} (h : Chg B w w') (hB : base ≤ B) (hs : base ≤ w.heap.size) : Below base w w' := ⟨h.os, h.tape, h.output, h.size, fun k hk => h.block k (by omega) (by omega)⟩
section
variable {P : Program} {ops : Array Oper} {o : Oper} {N : Nat} {f : Fl} {w : World} {R : Value → World → Prop}
/-- An append to a literal of nothing. -/
theorem dx_apN {t s bytes base : Nat} {x y : Operand} {u v2 : Value} {news : List (List Value)} {L : List Nat} (ho : o.op = .call { callee := .builtin .append, args := #[x, y], argTypes := #[t, t] }) (ht : apB P t s bytes = true) (hx : ev f x = some u) (hy : ev f y = some v2)
    (h : NewE s base u w) (h2 : RdF s L w v2 news) (h1 : ∀ r ∈ news, ∀ u ∈ r, u.oneCell' = true) (hm : news.length ≤ maxLen) (hby : news.length * bytes ≤ 140737488355328) (hb : base ≤ w.heap.size) (hw : wantF ops o f = some true := by rfl) : DR P ops o N f w fun u W => Below w.heap.size w W ∧ NewS s base news u W := fun a ha => by
  by_cases hn : news = []
  · subst hn
    obtain ⟨e, q, Z, hu, hi, hz, rfl, rfl, hzs⟩ := of_apB ht
    have hx := ha.ev hx
    have hy := ha.ev hy
    have hN := NewS.of_lit h
    obtain ⟨B, hB, rfl, ho'⟩ := h
    obtain ⟨_, hl2, a2, cap2, rfl, hd1, hd2, hd3, hd4⟩ := h2
    have hr0 : (Builtin.append_ #[t, t] o.type #[.slice (some ⟨B, 0, none⟩) 0 0, .slice a2 0 cap2]).run P w = .ok (.slice (some ⟨B, 0, none⟩) 0 0) w := by
      cases a2 with
      | none => simp [Builtin.append_, run_underlying hu, sizeOf, typeInfo, hi, Builtin.lenOf, Builtin.firstCells, storeCells]
      | some a2 => simp [Builtin.append_, run_underlying hu, sizeOf, typeInfo, hi, Builtin.lenOf, Builtin.firstCells, loadCells, loadCellsFrom, storeCells]
    refine Does.of_wp (wantF_of ha hw) fun K hK => ?_
    unfold Oper.wp execOp
    simp only [List.length_nil] at hy
    simp only [ho, resolve, invoke, builtin, Sem.run_bind, Sem.run_pure, Result.andThen_ok, List.map_toArray, List.map_cons, List.map_nil, hx, hy, hr0]
    exact hK _ _ ⟨Below.refl _ _, hN⟩
  · exact Does.mono (dx_apE ho ht hx hy h h2 hm hby hb hw a ha) fun v W ⟨hb', B, hB, hO⟩ => ⟨hb', NewS.of_own hO hB hn⟩
/-- A call, by what it gives. -/
theorem dx_callA {F : FuncId} {fn : Func} {xs : List Operand} {ts : Array TypeId} {vs : List Value} (ho : o.op = .call { callee := .value (.func F), args := xs.toArray, argTypes := ts }) (hf : P.funcs[F]? = some fn) (hn : (fn.name == "runtime.NumGoroutine") = false) (hb : fn.body.isNone = false)
    (hx : evl f xs = some vs) (hc : Calls P F vs.toArray w fun e w' => ∃ v, e = .returned v ∧ R v w') (hw : wantF ops o f = some true := by rfl) : DR P ops o N f w R :=
  dx_call (cap := #[]) ho rfl hf hn hb hx (by rw [Array.append_empty]; exact hc) hw
end
/-- What was there at a base is as it was, behind what changed only what is newer. -/
theorem Below.then_base {base : Nat} {w0 w w' : World} (h : Below base w0 w) (k : Below base w w') : Below base w0 w' := h.trans k
end Go.Proofs.YthefddclefimoaaDoor
